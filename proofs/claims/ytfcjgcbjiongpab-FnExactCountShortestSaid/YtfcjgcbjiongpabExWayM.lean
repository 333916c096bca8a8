/- Exchanges change the number of components by one at most, systems of up to five arches: checked by enumeration, over numbers in base 16. -/
import Derived.Test.YtfcjgcbjiongpabExMath
import Derived.Test.YtfcjgcbjiongpabWay
namespace Go.Proofs.Ytfcjgcbjiongpab
set_option linter.unusedSimpArgs false
set_option linter.unusedVariables false

def encL (l : List Int) : Nat := l.foldr (fun x acc => Nat.add (Nat.mul acc 16) x.toNat) 0
def dig (T x : Nat) : Nat := Nat.land (Nat.shiftRight T (Nat.mul 4 x)) 15
/-- no point on the curve comes before the one where it is begun -/
def orbMin (T B i : Nat) : Nat → Nat → Bool
  | 0, _ => true
  | f + 1, x => bif Nat.blt (dig T x) i then false else bif Nat.beq (dig B (dig T x)) i then true else bif Nat.blt (dig B (dig T x)) i then false else orbMin T B i f (dig B (dig T x))
def fastN (T B n : Nat) : Nat → Nat
  | 0 => 0
  | k + 1 => bif orbMin T B k n k then Nat.succ (fastN T B n k) else fastN T B n k
def fastC (T B n : Nat) : Nat := fastN T B n n
def compsQ (t b : List Int) : Nat := cntW (par t) (par b) t.length

def sameT (n : Nat) (t : List Int) : Bool := (sysAll n).all fun b => Nat.beq (cntW (par t) (par b) (2 * n)) (fastC (encL t) (encL b) (2 * n))
theorem same0 : (sysAll 0).all (sameT 0) = true := by kernel_rfl
theorem same1 : (sysAll 1).all (sameT 1) = true := by kernel_rfl
theorem same2 : (sysAll 2).all (sameT 2) = true := by kernel_rfl
theorem same3 : (sysAll 3).all (sameT 3) = true := by kernel_rfl
theorem same4 : (sysAll 4).all (sameT 4) = true := by kernel_rfl
theorem same5a : ((sysAll 5).take 14).all (sameT 5) = true := by kernel_rfl
theorem same5b : (((sysAll 5).drop 14).take 14).all (sameT 5) = true := by kernel_rfl
theorem same5c : (((sysAll 5).drop 14).drop 14).all (sameT 5) = true := by kernel_rfl
theorem same5 : (sysAll 5).all (sameT 5) = true := all_split same5a (all_split same5b same5c)

def nearT (n : Nat) (es : List Nat) (t : List Int) : Bool :=
  (pairsL t).all (fun p => es.all fun B => Nat.ble (fastC (encL (exP t p)) B (2 * n)) (Nat.succ (fastC (encL t) B (2 * n)))) &&
  (es.all fun B => Nat.ble (fastC (encL t) B (2 * n)) n && (bif Nat.beq (fastC (encL t) B (2 * n)) n then Nat.beq (encL t) B else true)) && Nat.beq (fastC (encL t) (encL t) (2 * n)) n &&
  (sysAll n).all (fun b => !(Nat.beq (encL t) (encL b)) || t == b)
def near (n : Nat) : Bool := (sysAll n).all (nearT n ((sysAll n).map encL))
theorem near0 : near 0 = true := by kernel_rfl
theorem near1 : near 1 = true := by kernel_rfl
theorem near2 : near 2 = true := by kernel_rfl
theorem near3 : near 3 = true := by kernel_rfl
theorem near4 : near 4 = true := by kernel_rfl
theorem near5 : near 5 = true := by kernel_rfl

theorem nat_beq {a b : Nat} (h : Nat.beq a b = true) : a = b := Nat.eq_of_beq_eq_true h
theorem upto5 {n : Nat} (h : n ≤ 5) : (sysAll n).all (sameT n) = true ∧ near n = true := by
  have : n = 0 ∨ n = 1 ∨ n = 2 ∨ n = 3 ∨ n = 4 ∨ n = 5 := by omega
  rcases this with rfl | rfl | rfl | rfl | rfl | rfl
  · exact ⟨same0, near0⟩
  · exact ⟨same1, near1⟩
  · exact ⟨same2, near2⟩
  · exact ⟨same3, near3⟩
  · exact ⟨same4, near4⟩
  · exact ⟨same5, near5⟩
theorem comps_fast {t b : List Int} (gt : goodB t = true) (gb : goodB b = true) (hl : t.length = b.length) (h10 : t.length ≤ 10) : compsQ t b = fastC (encL t) (encL b) t.length := by
  have hev := (good_facts gt).1
  obtain ⟨n, hn⟩ : ∃ n, t.length = 2 * n := ⟨t.length / 2, by omega⟩
  have ht := mem_sysAll gt
  have hb := mem_sysAll gb
  rw [← hl] at hb
  rw [show t.length / 2 = n by omega] at ht hb
  have h1 := List.all_eq_true.1 (upto5 (n := n) (by omega)).1 t ht
  have h2 := List.all_eq_true.1 h1 b hb
  have h3 := nat_beq h2
  unfold compsQ
  rw [hn]
  exact h3
theorem near_facts {t b : List Int} (gt : goodB t = true) (gb : goodB b = true) (hl : t.length = b.length) (h10 : t.length ≤ 10) :
    compsQ t b ≤ t.length / 2 ∧ (compsQ t b = t.length / 2 ↔ t = b) ∧ ∀ p ∈ pairsL t, compsQ (exP t p) b ≤ compsQ t b + 1 := by
  have hev := (good_facts gt).1
  obtain ⟨n, hn⟩ : ∃ n, t.length = 2 * n := ⟨t.length / 2, by omega⟩
  have ht := mem_sysAll gt
  have hb := mem_sysAll gb
  rw [← hl] at hb
  rw [show t.length / 2 = n by omega] at ht hb ⊢
  have h1 := List.all_eq_true.1 (upto5 (n := n) (by omega)).2 t ht
  unfold nearT at h1
  simp only [Bool.and_eq_true] at h1
  obtain ⟨⟨⟨h2, h3⟩, h4⟩, h5⟩ := h1
  have hB : encL b ∈ (sysAll n).map encL := List.mem_map_of_mem hb
  have e := comps_fast gt gb hl h10
  rw [hn] at e
  have h6 := List.all_eq_true.1 h3 _ hB
  simp only [Bool.and_eq_true] at h6
  refine ⟨by rw [e]; exact Nat.le_of_ble_eq_true h6.1, ⟨fun h => ?_, fun h => ?_⟩, fun p hp => ?_⟩
  · rw [e] at h
    have h7 := h6.2
    rw [show Nat.beq (fastC (encL t) (encL b) (2 * n)) n = true by rw [h]; exact Nat.beq_refl n] at h7
    have h8 := List.all_eq_true.1 h5 b hb
    simp only [cond_true] at h7
    rw [h7] at h8
    simpa using h8
  · subst h
    rw [e]
    exact nat_beq h4
  · have gq := (ex_facts gt).2.1 p hp
    have hq : (exP t p).length = t.length := exL_length _ _ _
    have e2 := comps_fast gq gb (by rw [hq, hl]) (by rw [hq]; exact h10)
    rw [hq, hn] at e2
    rw [e, e2]
    have h9 := List.all_eq_true.1 (List.all_eq_true.1 h2 p hp) _ hB
    exact Nat.le_of_ble_eq_true h9

end Go.Proofs.Ytfcjgcbjiongpab
