/- Foldings with the first stamp at the top: plain mathematics. -/
import Derived.Test.YtnkkgbecdckigaaMadeK
import Derived.Test.YtnkkgbecdckigaaPutMath
namespace Go.Proofs.Ytnkkgbecdckigaa
set_option linter.unusedSimpArgs false
set_option linter.unusedVariables false

def growL (s : Nat) (l : List Int) (k : Nat) : List Int := insL l (s - k)
def stepL (s : Nat) (ls : List (List Int)) : List (List Int) := (allG (growL s) ls s ls.length).filter foldB
def topT : Nat → List (List Int)
  | 0 => [[0]]
  | m + 1 => if m = 0 then [[0]] else stepL m (topT m)
theorem topT_succ {m : Nat} (h : 1 ≤ m) : topT (m + 1) = stepL m (topT m) := by rw [topT, if_neg (by omega)]
theorem stepL_mem {s : Nat} {ls : List (List Int)} {r : List Int} (h : r ∈ stepL s ls) : foldB r = true ∧ ∃ l ∈ ls, ∃ k, k < s ∧ r = insL l (s - k) := by
  unfold stepL at h
  rw [List.mem_filter] at h
  refine ⟨h.2, ?_⟩
  have h1 := h.1
  unfold allG at h1
  rw [List.take_length, List.mem_flatMap] at h1
  obtain ⟨l, hl, h2⟩ := h1
  unfold rowG at h2
  rw [List.mem_map] at h2
  obtain ⟨k, hk, e⟩ := h2
  exact ⟨l, hl, k, by simpa using hk, e.symm⟩
theorem insL_head {l : List Int} {p : Nat} (h : 1 ≤ p) (hl : 1 ≤ l.length) : (insL l p).getD 0 0 = l.getD 0 0 := by
  cases l with
  | nil => simp at hl
  | cons x l =>
    obtain ⟨q, rfl⟩ : ∃ q, p = q + 1 := ⟨p - 1, by omega⟩
    simp [insL, List.getD]
/-- what all these rows are -/
def topR (n : Nat) (r : List Int) : Prop := r.length = n ∧ stackB r = true ∧ foldB r = true ∧ r.getD 0 0 = 0
theorem topT_rows : ∀ m, 1 ≤ m → m ≤ 8 → ∀ r ∈ topT m, topR m r
  | 0, h, _, _, _ => by omega
  | m + 1, h, h8, r, hr => by
    by_cases h0 : m = 0
    · subst h0
      rw [topT, if_pos rfl, List.mem_singleton] at hr
      subst hr
      exact ⟨rfl, by decide, by decide, rfl⟩
    · rw [topT_succ (by omega)] at hr
      obtain ⟨h1, l, hl, k, hk, e⟩ := stepL_mem hr
      have ih := topT_rows m (by omega) (by omega) l hl
      subst e
      refine ⟨by rw [insL_length, ih.1], insL_stack ih.2.1 (by rw [ih.1]; omega), h1, ?_⟩
      rw [insL_head (by omega) (by rw [ih.1]; omega)]
      exact ih.2.2.2
theorem mem_get {ls : List (List Int)} {k : Nat} (h : k < ls.length) : ls.getD k [] ∈ ls := by
  rw [show ls.getD k [] = ls[k] by simp [List.getD, h]]
  exact List.getElem_mem h
theorem topT_get {m k : Nat} (h1 : 1 ≤ m) (h8 : m ≤ 8) (hk : k < (topT m).length) : topR m ((topT m).getD k []) := topT_rows m h1 h8 _ (mem_get hk)
theorem stepL_len (s : Nat) (ls : List (List Int)) : (stepL s ls).length ≤ ls.length * s := Nat.le_trans (List.length_filter_le _ _) (allG_len _ _ _ _)
theorem topT_len : (topT 0).length ≤ 1 ∧ (topT 1).length ≤ 1 ∧ (topT 2).length ≤ 1 ∧ (topT 3).length ≤ 2 ∧ (topT 4).length ≤ 6 ∧ (topT 5).length ≤ 24 ∧ (topT 6).length ≤ 120 ∧ (topT 7).length ≤ 720 ∧ (topT 8).length ≤ 5040 := by
  have s1 := stepL_len 1 (topT 1)
  have s2 := stepL_len 2 (topT 2)
  have s3 := stepL_len 3 (topT 3)
  have s4 := stepL_len 4 (topT 4)
  have s5 := stepL_len 5 (topT 5)
  have s6 := stepL_len 6 (topT 6)
  have s7 := stepL_len 7 (topT 7)
  rw [← topT_succ (by omega)] at s1 s2 s3 s4 s5 s6 s7
  have a0 : (topT 0).length = 1 := rfl
  have a1 : (topT 1).length = 1 := rfl
  simp only [Nat.reduceAdd] at s1 s2 s3 s4 s5 s6 s7
  omega
theorem topT_bd {n : Nat} (h : n ≤ 8) : (topT n).length ≤ 5040 := by
  have := topT_len
  rcases (by omega : n = 0 ∨ n = 1 ∨ n = 2 ∨ n = 3 ∨ n = 4 ∨ n = 5 ∨ n = 6 ∨ n = 7 ∨ n = 8) with rfl | rfl | rfl | rfl | rfl | rfl | rfl | rfl | rfl <;> omega
theorem topT_bd6 {n : Nat} (h : n ≤ 6) : (topT n).length ≤ 120 := by
  have := topT_len
  rcases (by omega : n = 0 ∨ n = 1 ∨ n = 2 ∨ n = 3 ∨ n = 4 ∨ n = 5 ∨ n = 6) with rfl | rfl | rfl | rfl | rfl | rfl | rfl <;> omega

/-- the model's step -/
def hd0 (q : List Int) : Bool := decide (q.getD 0 0 = 0)
def stepM (ls : List (List Int)) (k : Nat) : List (List Int) := (ls.take k).flatMap fun p => (addedL p).filter hd0
theorem stepM_succ (ls : List (List Int)) (k : Nat) (h : k < ls.length) : stepM ls (k + 1) = stepM ls k ++ (addedL (ls.getD k [])).filter hd0 := by
  unfold stepM
  rw [List.take_succ_eq_append_getElem h, List.flatMap_append]
  simp [List.getD, h]
theorem added_hd {l : List Int} {s : Nat} (hs : 1 ≤ s) (hl : l.length = s) (h0 : l.getD 0 0 = 0) : (addedL l).filter hd0 = (rowG (growL s) l s).filter foldB := by
  unfold addedL
  rw [addFrom_succ, List.filter_append]
  have e1 : (if foldB (insL l (l.length - l.length)) then [insL l (l.length - l.length)] else []).filter hd0 = [] := by
    rw [Nat.sub_self]
    have : hd0 (insL l 0) = false := by
      have e : (insL l 0).getD 0 0 = (l.length : Int) := rfl
      unfold hd0
      rw [e]
      exact decide_eq_false (by omega)
    split
    · simp [this]
    · rfl
  rw [e1, List.append_nil]
  have e2 : addFrom l l.length = (rowG (growL s) l s).filter foldB := by
    unfold addFrom rowG growL
    rw [hl]
  rw [← e2, List.filter_eq_self]
  intro r hr
  unfold addFrom at hr
  rw [List.mem_filter, List.mem_map] at hr
  obtain ⟨⟨k, hk, e⟩, _⟩ := hr
  rw [List.mem_range] at hk
  subst e
  unfold hd0
  rw [insL_head (by omega) (by omega), h0]
  rfl
theorem stepM_eq {m : Nat} (h1 : 1 ≤ m) (h8 : m ≤ 8) : stepM (topT m) (topT m).length = topT (m + 1) := by
  rw [topT_succ h1]
  unfold stepM stepL allG
  rw [List.take_length, List.filter_flatMap]
  have : ∀ (ls : List (List Int)), (∀ l ∈ ls, topR m l) → (ls.flatMap fun p => (addedL p).filter hd0) = ls.flatMap fun l => (rowG (growL m) l m).filter foldB := by
    intro ls
    induction ls with
    | nil => intro _; rfl
    | cons l ls ih =>
      intro h
      rw [List.flatMap_cons, List.flatMap_cons, ih (fun r hr => h r (by simp [hr]))]
      have hl := h l (by simp)
      rw [added_hd h1 hl.1 hl.2.2.2]
  exact this _ (topT_rows m h1 h8)

theorem putAll_perm {a b : List (List Int)} (h : a.Perm b) : putAll a = putAll b := by
  obtain ⟨h1, h2⟩ := foldl_put b [] srtL_nil
  exact putAll_eq h1 ((by simpa using h2 : (List.foldl putL [] b).Perm b).trans h.symm)
theorem putAll_self (a : List (List Int)) : (putAll a).Perm a := by
  obtain ⟨h1, h2⟩ := foldl_put a [] srtL_nil
  simpa [putAll] using h2
theorem allG_perm {g : List Int → Nat → List Int} {a b : List (List Int)} (m : Nat) (h : a.Perm b) : (allG g a m a.length).Perm (allG g b m b.length) := by
  unfold allG
  rw [List.take_length, List.take_length]
  exact h.flatMap_right _
theorem allG_full (g : List Int → Nat → List Int) (ls : List (List Int)) (m : Nat) : (allG g ls m ls.length).length = ls.length * m := by
  unfold allG
  rw [List.take_length]
  induction ls with
  | nil => simp
  | cons l ls ih => rw [List.flatMap_cons, List.length_append, ih, rowG_len, List.length_cons, Nat.succ_mul]; omega
end Go.Proofs.Ytnkkgbecdckigaa
