/- What the laws say of components: flips, turns, mirrors and joins (pure). -/
import Derived.Test.YtbinpefogecgmabCompX
import Derived.Test.YtbinpefogecgmabSysF
import Derived.Test.YtbinpefogecgmabComps
namespace Go.Proofs.Ytbinpefogecgmab
set_option linter.unusedSimpArgs false
set_option linter.unusedVariables false

def flipsCheck (l : List Int) : Bool := allFrom (fun i => (i + par l i) % 2 == 1) 0 l.length
theorem flipsCheck0 : (sysAll 0).all flipsCheck = true := by kernel_rfl
theorem flipsCheck1 : (sysAll 1).all flipsCheck = true := by kernel_rfl
theorem flipsCheck2 : (sysAll 2).all flipsCheck = true := by kernel_rfl
theorem flipsCheck3 : (sysAll 3).all flipsCheck = true := by kernel_rfl
theorem flipsCheck4 : (sysAll 4).all flipsCheck = true := by kernel_rfl
theorem flipsCheck5 : (sysAll 5).all flipsCheck = true := by kernel_rfl
theorem flipsCheck6 : (sysAll 6).all flipsCheck = true := by kernel_rfl
theorem good_flips {l : List Int} (h : goodB l = true) : Flips (par l) l.length := by
  have hc : flipsCheck l = true := good_all6 flipsCheck0 flipsCheck1 flipsCheck2 flipsCheck3 flipsCheck4 flipsCheck5 flipsCheck6 h
  unfold flipsCheck at hc
  rw [allFrom_iff] at hc
  intro x hx
  exact eq_of_beq (hc x (Nat.zero_le _) (by omega))
theorem comps_flip {t b : List Int} (ht : goodB t = true) (hb : goodB b = true) (hl : t.length = b.length) : compsL b t = compsL t b := by
  unfold compsL
  have h1 := good_paired ht
  have h2 := good_paired hb
  rw [← hl] at h2 ⊢
  exact cnt_flip h1 h2
theorem comps_turn_le {t b : List Int} (ht : goodB t = true) (hb : goodB b = true) (hl : t.length = b.length) (x : Int) : compsL t b ≤ compsL (turnL t x) (turnL b x) := by
  unfold compsL
  rw [turnL_length]
  by_cases hz : t.length = 0
  · rw [hz]; exact Nat.le_refl _
  have g1 := good_paired ht
  have g2 := good_paired hb
  have g3 := good_paired (turn_facts ht x).1
  have g4 := good_paired (turn_facts hb x).1
  rw [turnL_length] at g3 g4
  rw [← hl] at g2 g4
  have hn : (0 : Int) < (t.length : Int) := by omega
  have hs : ∀ i : Nat, (0 : Int) ≤ ((i : Int) + x) % (t.length : Int) ∧ ((i : Int) + x) % (t.length : Int) < (t.length : Int) := fun i => ⟨Int.emod_nonneg _ (by omega), Int.emod_lt_of_pos _ hn⟩
  have key : ∀ l : List Int, goodB l = true → l.length = t.length → ∀ i : Nat, i < t.length → par (turnL l x) (((i : Int) + x) % (t.length : Int)).toNat = (((par l i : Nat) : Int) + x) % (t.length : Int) := by
    intro l hg hll i hi
    have h1 := turn_get l x i (by omega)
    rw [good_cell hg i (by omega), hll] at h1
    have := hs (par l i)
    unfold par at h1 this ⊢
    rw [h1]; omega
  refine cnt_move g1 g2 g3 g4 (fun i => (((i : Int) + x) % (t.length : Int)).toNat) (fun i hi => by have := hs i; show Int.toNat _ < _; omega) (fun i j hi hj e => ?_) (fun i hi => ?_) (fun i hi => ?_)
  · have a1 := hs i
    have a2 := hs j
    have e1 : (((i : Int) + x) % (t.length : Int)).toNat = (((j : Int) + x) % (t.length : Int)).toNat := e
    have e2 : ((i : Int) + x) % (t.length : Int) = ((j : Int) + x) % (t.length : Int) := by omega
    have e4 : ((i : Int) - (j : Int)) % (t.length : Int) = 0 := by
      rw [show (i : Int) - (j : Int) = ((i : Int) + x) - ((j : Int) + x) by omega, Int.sub_emod, e2, Int.sub_self]; rfl
    obtain ⟨q, hq⟩ := Int.dvd_of_emod_eq_zero e4
    have h3 : q = 0 := by
      rcases Int.lt_trichotomy q 0 with h | h | h
      · have : (t.length : Int) * q ≤ (t.length : Int) * (-1) := Int.mul_le_mul_of_nonneg_left (by omega) (by omega)
        omega
      · exact h
      · have : (t.length : Int) * 1 ≤ (t.length : Int) * q := Int.mul_le_mul_of_nonneg_left (by omega) (by omega)
        omega
    subst h3
    omega
  · have := key t ht rfl i hi
    have h5 := hs (par t i)
    show par (turnL t x) (((i : Int) + x) % (t.length : Int)).toNat = ((((par t i : Nat) : Int) + x) % (t.length : Int)).toNat
    omega
  · have := key b hb hl.symm i hi
    have h5 := hs (par b i)
    show par (turnL b x) (((i : Int) + x) % (t.length : Int)).toNat = ((((par b i : Nat) : Int) + x) % (t.length : Int)).toNat
    omega
theorem comps_turn {t b : List Int} (ht : goodB t = true) (hb : goodB b = true) (hl : t.length = b.length) (x : Int) : compsL (turnL t x) (turnL b x) = compsL t b := by
  have h1 := comps_turn_le ht hb hl x
  have h2 := comps_turn_le (turn_facts ht x).1 (turn_facts hb x).1 (by rw [turnL_length, turnL_length]; exact hl) (-x)
  rw [(turn_facts ht x).2.1, (turn_facts hb x).2.1] at h2
  omega
theorem mirror_get (l : List Int) (i : Nat) (hi : i < l.length) : (mirrorL l).getD (l.length - 1 - i) 0 = (l.length : Int) - 1 - l.getD i 0 := by
  have h := drawL_get (fun i => (l.length : Int) - 1 - i) (List.replicate l.length 0) l l.length (fun i j h1 h2 e => by
    have e' : ((l.length : Int) - 1 - (i : Int)).toNat = ((l.length : Int) - 1 - (j : Int)).toNat := e
    omega) (fun i h1 => by show ((l.length : Int) - 1 - (i : Int)).toNat < _; rw [List.length_replicate]; omega) l.length (Nat.le_refl _) i hi
  have e : ((fun i => (l.length : Int) - 1 - i) (i : Int)).toNat = l.length - 1 - i := by show ((l.length : Int) - 1 - (i : Int)).toNat = _; omega
  rw [e] at h
  exact h
theorem comps_mirror_le {t b : List Int} (ht : goodB t = true) (hb : goodB b = true) (hl : t.length = b.length) : compsL t b ≤ compsL (mirrorL t) (mirrorL b) := by
  unfold compsL
  rw [mirrorL_length]
  have g1 := good_paired ht
  have g2 := good_paired hb
  have g3 := good_paired (mirror_facts ht).1
  have g4 := good_paired (mirror_facts hb).1
  rw [mirrorL_length] at g3 g4
  rw [← hl] at g2 g4
  have key : ∀ l : List Int, goodB l = true → l.length = t.length → ∀ i : Nat, i < t.length → par (mirrorL l) (t.length - 1 - i) = t.length - 1 - par l i := by
    intro l hg hll i hi
    have h1 := mirror_get l i (by omega)
    have h2 := good_cell hg i (by omega)
    have h3 := (good_paired hg i (by omega)).1
    rw [hll] at h1 h3
    unfold par at h2 h3 ⊢
    rw [h1]; omega
  refine cnt_move g1 g2 g3 g4 (fun i => t.length - 1 - i) (fun i hi => by show t.length - 1 - i < _; omega) (fun i j hi hj e => ?_) (fun i hi => key t ht rfl i hi) (fun i hi => key b hb hl.symm i hi)
  have e1 : t.length - 1 - i = t.length - 1 - j := e
  omega
theorem comps_mirror {t b : List Int} (ht : goodB t = true) (hb : goodB b = true) (hl : t.length = b.length) : compsL (mirrorL t) (mirrorL b) = compsL t b := by
  have h1 := comps_mirror_le ht hb hl
  have h2 := comps_mirror_le (mirror_facts ht).1 (mirror_facts hb).1 (by rw [mirrorL_length, mirrorL_length]; exact hl)
  rw [(mirror_facts ht).2, (mirror_facts hb).2] at h2
  omega
theorem join_left (a b : List Int) (i : Nat) (h : i < a.length) : par (joinL a b) i = par a i := by
  unfold par joinL
  simp only [List.getD]
  rw [List.getElem?_append_left h]
theorem join_right (a b : List Int) (hb : goodB b = true) (i : Nat) (h : i < b.length) : par (joinL a b) (a.length + i) = a.length + par b i := by
  have h1 := good_cell hb i h
  unfold par joinL shiftL at *
  simp only [List.getD] at *
  rw [List.getElem?_append_right (by omega), show a.length + i - a.length = i by omega, List.getElem?_map]
  rw [List.getElem?_eq_getElem h] at *
  simp only [Option.map_some, Option.getD_some] at *
  omega
theorem joinL_length (a b : List Int) : (joinL a b).length = a.length + b.length := by unfold joinL; rw [List.length_append, shiftL_length]
theorem comps_join {t b p q : List Int} (ht : goodB t = true) (hb : goodB b = true) (hl : t.length = b.length) (hp : goodB p = true) (hq : goodB q = true) (hl2 : p.length = q.length) (h12 : t.length + p.length ≤ 12) :
    compsL (joinL t p) (joinL b q) = compsL t b + compsL p q := by
  unfold compsL
  have g1 := good_paired ht
  have g2 := good_paired hb
  have g3 := good_paired hp
  have g4 := good_paired hq
  have g5 := good_paired (join_facts ht hp h12).1
  have g6 := good_paired (join_facts hb hq (by omega)).1
  rw [joinL_length] at g5 g6 ⊢
  have r1 : ∀ x, x < t.length → par (joinL t p) x = par t x ∧ par (joinL b q) x = par b x := fun x hx => ⟨join_left t p x hx, join_left b q x (by omega)⟩
  have r2 : ∀ x, x < p.length → par (joinL t p) (t.length + x) = t.length + par p x ∧ par (joinL b q) (t.length + x) = t.length + par q x := fun x hx => ⟨join_right t p hp x hx, by
    have := join_right b q hq x (by omega); rw [← hl] at this; exact this⟩
  rw [← hl] at g2 g6
  rw [← hl2] at g4 g6
  exact cnt_join g1 g2 g3 g4 g5 g6 r1 r2

end Go.Proofs.Ytbinpefogecgmab
