/- What the laws on systems say: turns and mirrors undo themselves, joined and covered ones keep their texts (pure). -/
import Derived.Test.YtbinpefogecgmabTurn
import Derived.Test.YtbinpefogecgmabMirror
import Derived.Test.YtbinpefogecgmabCover
import Derived.Test.YtbinpefogecgmabJoinSys
import Derived.Test.YtbinpefogecgmabText
import Derived.Test.YtbinpefogecgmabOuter
import Derived.Test.YtbinpefogecgmabDepths
import Derived.Test.YtbinpefogecgmabRainbow
import Derived.Test.YtbinpefogecgmabFlat
namespace Go.Proofs.Ytbinpefogecgmab
set_option linter.unusedSimpArgs false
set_option linter.unusedVariables false

theorem shiftTo_emod (b n i : Int) (hn : 0 < n) : shiftTo b n i = (i + b) % n := by
  unfold shiftTo
  have h1 := Int.lt_tmod_of_pos (i + b) hn
  have h2 : ((i + b).tmod n + n).tmod n = ((i + b).tmod n + n) % n := Int.tmod_eq_emod_of_nonneg (by omega)
  rw [h2, Int.add_emod_right]
  have h3 : (i + b).tmod n % n = (i + b) % n := by
    have := Int.mul_tdiv_add_tmod (i + b) n
    conv => rhs; rw [← this]
    rw [Int.add_comm (n * _), Int.add_mul_emod_self_left]
  exact h3
theorem shiftTo_mod (b n : Int) (hn : 0 < n) : shiftTo b n = shiftTo (b % n) n := by
  funext i
  rw [shiftTo_emod b n i hn, shiftTo_emod _ n i hn, Int.add_emod_emod]
theorem turnL_mod (l : List Int) (b : Int) : turnL l b = turnL l (b % (l.length : Int)) := by
  by_cases h : l.length = 0
  · obtain rfl := List.eq_nil_of_length_eq_zero h
    rfl
  · unfold turnL
    rw [shiftTo_mod b _ (by omega)]
theorem ext_getD0 {a b : List Int} (hl : a.length = b.length) (h : ∀ i, i < a.length → a.getD i 0 = b.getD i 0) : a = b := by
  refine List.ext_getElem hl fun i h1 h2 => ?_
  have := h i h1
  simpa [List.getD, h1, h2] using this
theorem drawL_get (f : Int → Int) (l o : List Int) (n : Nat) (inj : ∀ i j : Nat, i < n → j < n → (f (i : Int)).toNat = (f (j : Int)).toNat → i = j) (rng : ∀ i : Nat, i < n → (f (i : Int)).toNat < l.length) :
    ∀ k, k ≤ n → ∀ i : Nat, i < k → (drawL f l o k).getD (f (i : Int)).toNat 0 = f (o.getD i 0)
  | 0, _, i, hi => by omega
  | k + 1, hk, i, hi => by
    rw [drawL]
    by_cases e : i = k
    · subst e
      have h := rng i (by omega)
      simp [List.getD, drawL_length, h]
    · have hne : (f (k : Int)).toNat ≠ (f (i : Int)).toNat := fun h => e (inj i k (by omega) (by omega) h.symm)
      have ih := drawL_get f l o n inj rng k (by omega) i (by omega)
      simp only [List.getD, List.getElem?_set, if_neg hne] at ih ⊢
      exact ih
theorem turn_get (l : List Int) (b : Int) (i : Nat) (hi : i < l.length) : (turnL l b).getD (((i : Int) + b) % (l.length : Int)).toNat 0 = (l.getD i 0 + b) % (l.length : Int) := by
  have hn : (0 : Int) < (l.length : Int) := by omega
  have hf : ∀ x, shiftTo b (l.length : Int) x = (x + b) % (l.length : Int) := fun x => shiftTo_emod b _ x hn
  have h := drawL_get (shiftTo b (l.length : Int)) (List.replicate l.length 0) l l.length (fun i j h1 h2 e => by
    rw [hf, hf] at e
    have a1 := Int.emod_nonneg ((i : Int) + b) (show (l.length : Int) ≠ 0 by omega)
    have a2 := Int.emod_nonneg ((j : Int) + b) (show (l.length : Int) ≠ 0 by omega)
    have e2 : ((i : Int) + b) % (l.length : Int) = ((j : Int) + b) % (l.length : Int) := by omega
    have e3 := Int.emod_emod_of_dvd ((i : Int) - (j : Int)) (Int.dvd_refl (l.length : Int))
    have e4 : ((i : Int) - (j : Int)) % (l.length : Int) = 0 := by
      rw [show (i : Int) - (j : Int) = ((i : Int) + b) - ((j : Int) + b) by omega, Int.sub_emod, e2, Int.sub_self]; rfl
    obtain ⟨q, hq⟩ := Int.dvd_of_emod_eq_zero e4
    have h3 : q = 0 := by
      rcases Int.lt_trichotomy q 0 with h | h | h
      · have : (l.length : Int) * q ≤ (l.length : Int) * (-1) := Int.mul_le_mul_of_nonneg_left (by omega) (by omega)
        omega
      · exact h
      · have : (l.length : Int) * 1 ≤ (l.length : Int) * q := Int.mul_le_mul_of_nonneg_left (by omega) (by omega)
        omega
    subst h3
    omega) (fun i h1 => by
    rw [List.length_replicate]
    have h2 := shiftTo_in b (l.length : Int) (i : Int) hn
    omega) l.length (Nat.le_refl _) i hi
  rw [hf, hf] at h
  exact h
theorem turn_turn (l : List Int) (a b : Int) : turnL (turnL l a) b = turnL l (a + b) := by
  by_cases hz : l.length = 0
  · obtain rfl := List.eq_nil_of_length_eq_zero hz
    rfl
  · have hn : (0 : Int) < (l.length : Int) := by omega
    have hn0 : (l.length : Int) ≠ 0 := by omega
    refine ext_getD0 (by simp only [turnL_length]) fun j hj => ?_
    rw [turnL_length, turnL_length] at hj
    obtain ⟨i, hi⟩ := Int.eq_ofNat_of_zero_le (Int.emod_nonneg ((j : Int) - (a + b)) hn0)
    have hil : i < l.length := by have := Int.emod_lt_of_pos ((j : Int) - (a + b)) hn; omega
    have h1 := turn_get l (a + b) i hil
    obtain ⟨i2, hi2⟩ := Int.eq_ofNat_of_zero_le (Int.emod_nonneg ((i : Int) + a) hn0)
    have hi2l : i2 < l.length := by have := Int.emod_lt_of_pos ((i : Int) + a) hn; omega
    have h2 := turn_get l a i hil
    have h3 := turn_get (turnL l a) b i2 (by rw [turnL_length]; exact hi2l)
    rw [turnL_length] at h3
    rw [hi2] at h2
    have e1 : ((i : Int) + (a + b)) % (l.length : Int) = (j : Int) := by
      rw [← hi, Int.emod_add_emod]
      rw [show (j : Int) - (a + b) + (a + b) = (j : Int) by omega]
      exact Int.emod_eq_of_lt (by omega) (by omega)
    have e2 : ((i2 : Int) + b) % (l.length : Int) = (j : Int) := by
      rw [← hi2, Int.emod_add_emod, ← e1]
      congr 1; omega
    rw [e1] at h1
    rw [e2] at h3
    simp only [Int.toNat_natCast] at h1 h2 h3
    rw [h1, h3, h2, Int.emod_add_emod]
    congr 1; omega
def turnCheck (l : List Int) : Bool := turnL l 0 == l && goodB (turnL l 1)
theorem turnCheck0 : (sysAll 0).all turnCheck = true := by kernel_rfl
theorem turnCheck1 : (sysAll 1).all turnCheck = true := by kernel_rfl
theorem turnCheck2 : (sysAll 2).all turnCheck = true := by kernel_rfl
theorem turnCheck3 : (sysAll 3).all turnCheck = true := by kernel_rfl
theorem turnCheck4 : (sysAll 4).all turnCheck = true := by kernel_rfl
theorem turnCheck5 : (sysAll 5).all turnCheck = true := by kernel_rfl
theorem turnCheck6 : (sysAll 6).all turnCheck = true := by kernel_rfl
theorem turn_one {l : List Int} (h : goodB l = true) : turnL l 0 = l ∧ goodB (turnL l 1) = true := by
  have hc : turnCheck l = true := good_all6 turnCheck0 turnCheck1 turnCheck2 turnCheck3 turnCheck4 turnCheck5 turnCheck6 h
  unfold turnCheck at hc
  rw [Bool.and_eq_true] at hc
  exact ⟨eq_of_beq hc.1, hc.2⟩
theorem turn_goodN {l : List Int} (h : goodB l = true) : ∀ r : Nat, goodB (turnL l (r : Int)) = true
  | 0 => by have := (turn_one h).1; rw [show ((0 : Nat) : Int) = 0 from rfl, this]; exact h
  | r + 1 => by
    have := (turn_one (turn_goodN h r)).2
    rw [turn_turn] at this
    exact this
theorem turn_facts {l : List Int} (h : goodB l = true) (b : Int) : goodB (turnL l b) = true ∧ turnL (turnL l b) (-b) = l ∧ turnL l (l.length : Int) = l := by
  have h0 := (turn_one h).1
  refine ⟨?_, ?_, ?_⟩
  · by_cases hz : l.length = 0
    · obtain rfl := List.eq_nil_of_length_eq_zero hz
      exact h
    · obtain ⟨r, hr⟩ := Int.eq_ofNat_of_zero_le (Int.emod_nonneg b (show (l.length : Int) ≠ 0 by omega))
      rw [turnL_mod, hr]
      exact turn_goodN h r
  · rw [turn_turn, Int.add_right_neg, h0]
  · rw [turnL_mod, Int.emod_self, h0]
def mirCheck (l : List Int) : Bool := goodB (mirrorL l) && mirrorL (mirrorL l) == l
theorem mirCheck0 : (sysAll 0).all mirCheck = true := by kernel_rfl
theorem mirCheck1 : (sysAll 1).all mirCheck = true := by kernel_rfl
theorem mirCheck2 : (sysAll 2).all mirCheck = true := by kernel_rfl
theorem mirCheck3 : (sysAll 3).all mirCheck = true := by kernel_rfl
theorem mirCheck4 : (sysAll 4).all mirCheck = true := by kernel_rfl
theorem mirCheck5 : (sysAll 5).all mirCheck = true := by kernel_rfl
theorem mirCheck6 : (sysAll 6).all mirCheck = true := by kernel_rfl
theorem mirror_facts {l : List Int} (h : goodB l = true) : goodB (mirrorL l) = true ∧ mirrorL (mirrorL l) = l := by
  have hc : mirCheck l = true := good_all6 mirCheck0 mirCheck1 mirCheck2 mirCheck3 mirCheck4 mirCheck5 mirCheck6 h
  unfold mirCheck at hc
  rw [Bool.and_eq_true] at hc
  exact ⟨hc.1, eq_of_beq hc.2⟩
def covCheck (l : List Int) : Bool := decide (10 < l.length) || (goodB (coverL l) && textU (coverL l) (coverL l).length == [40] ++ textU l l.length ++ [41] && (whereL (isOuterB (coverL l)) (coverL l).length).length == 1)
theorem covCheck0 : (sysAll 0).all covCheck = true := by kernel_rfl
theorem covCheck1 : (sysAll 1).all covCheck = true := by kernel_rfl
theorem covCheck2 : (sysAll 2).all covCheck = true := by kernel_rfl
theorem covCheck3 : (sysAll 3).all covCheck = true := by kernel_rfl
theorem covCheck4 : (sysAll 4).all covCheck = true := by kernel_rfl
theorem covCheck5 : (sysAll 5).all covCheck = true := by kernel_rfl
theorem covCheck6 : (sysAll 6).all covCheck = true := by kernel_rfl
theorem cover_facts {l : List Int} (h : goodB l = true) (h10 : l.length ≤ 10) : goodB (coverL l) = true ∧ textT (coverL l) (coverL l).length = ⟨#[40]⟩ ++ textT l l.length ++ ⟨#[41]⟩ ∧ (whereL (isOuterB (coverL l)) (coverL l).length).length = 1 := by
  have hc : covCheck l = true := good_all6 covCheck0 covCheck1 covCheck2 covCheck3 covCheck4 covCheck5 covCheck6 h
  unfold covCheck at hc
  rw [decide_eq_false (by omega), Bool.false_or, Bool.and_eq_true, Bool.and_eq_true] at hc
  refine ⟨hc.1.1, ?_, eq_of_beq hc.2⟩
  have := eq_of_beq hc.1.2
  apply ByteArray.ext
  simp only [textT, this]
  simp
def joinCheck (i j : Nat) : Bool := (sysAll i).all fun a => (sysAll j).all fun b => goodB (joinL a b) && textU (joinL a b) (joinL a b).length == textU a a.length ++ textU b b.length
def joinAll : Bool := (List.range 7).all fun i => (List.range (7 - i)).all fun j => joinCheck i j
theorem joinAll_yes : joinAll = true := by kernel_rfl
theorem join_facts {a b : List Int} (ha : goodB a = true) (hb : goodB b = true) (hab : a.length + b.length ≤ 12) : goodB (joinL a b) = true ∧ textT (joinL a b) (joinL a b).length = textT a a.length ++ textT b b.length := by
  have h1 := good_len' ha
  have h2 := good_len' hb
  have he1 := (good_facts ha).1
  have he2 := (good_facts hb).1
  have hc := joinAll_yes
  unfold joinAll at hc
  rw [List.all_eq_true] at hc
  have h3 := hc (a.length / 2) (List.mem_range.2 (by omega))
  rw [List.all_eq_true] at h3
  have h4 := h3 (b.length / 2) (List.mem_range.2 (by omega))
  unfold joinCheck at h4
  rw [List.all_eq_true] at h4
  have h5 := h4 a (mem_sysAll ha)
  rw [List.all_eq_true] at h5
  have h6 := h5 b (mem_sysAll hb)
  rw [Bool.and_eq_true] at h6
  refine ⟨h6.1, ?_⟩
  have := eq_of_beq h6.2
  apply ByteArray.ext
  simp only [textT, this]
  simp
def rainCheck (n : Nat) : Bool := goodB (rainbow n) && goodB (flats n) && mirrorL (rainbow n) == rainbow n && mirrorL (flats n) == flats n && depthsI (rainbow n) == (List.range n).map (fun (i : Nat) => (i : Int))
theorem rainCheck_all : (List.range 7).all rainCheck = true := by kernel_rfl
theorem rain_facts {n : Nat} (h : n ≤ 6) : goodB (rainbow n) = true ∧ goodB (flats n) = true ∧ mirrorL (rainbow n) = rainbow n ∧ mirrorL (flats n) = flats n ∧ depthsI (rainbow n) = (List.range n).map (fun (i : Nat) => (i : Int)) := by
  have hc := List.all_eq_true.1 rainCheck_all n (List.mem_range.2 (by omega))
  unfold rainCheck at hc
  simp only [Bool.and_eq_true, beq_iff_eq] at hc
  exact ⟨hc.1.1.1.1, hc.1.1.1.2, hc.1.1.2, hc.1.2, hc.2⟩

end Go.Proofs.Ytbinpefogecgmab
