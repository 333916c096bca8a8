/- Each system with at least one arch makes a meander with some other: checked by enumeration. What is farthest: plain mathematics. -/
import Derived.Test.YtfcjgcbjiongpaaEnum
import Derived.Test.YtfcjgcbjiongpaaFillM
import Derived.Test.YtfcjgcbjiongpaaWay
namespace Go.Proofs.Ytfcjgcbjiongpaa
set_option linter.unusedSimpArgs false
set_option linter.unusedVariables false

def closeQ (t q : List Int) : Bool := decide (cntW (par t) (par q) t.length = 1)
def exCl (n : Nat) (t : List Int) : Bool := (allL n).any (closeQ t)
theorem exCl1 : (sysAll 1).all (exCl 1) = true := by kernel_rfl
theorem exCl2 : (sysAll 2).all (exCl 2) = true := by kernel_rfl
theorem exCl3 : (sysAll 3).all (exCl 3) = true := by kernel_rfl
theorem exCl4 : (sysAll 4).all (exCl 4) = true := by kernel_rfl
theorem exCl5 : (sysAll 5).all (exCl 5) = true := by kernel_rfl
theorem exCl6a : ((sysAll 6).take 33).all (exCl 6) = true := by kernel_rfl
theorem exCl6b : (((sysAll 6).drop 33).take 33).all (exCl 6) = true := by kernel_rfl
theorem exCl6c : ((((sysAll 6).drop 33).drop 33).take 33).all (exCl 6) = true := by kernel_rfl
theorem exCl6d : ((((sysAll 6).drop 33).drop 33).drop 33).all (exCl 6) = true := by kernel_rfl
theorem all_splitF {α : Type} {P : α → Bool} {xs : List α} {n : Nat} (h1 : (xs.take n).all P = true) (h2 : (xs.drop n).all P = true) : xs.all P = true := by
  have := List.take_append_drop n xs
  rw [← this, List.all_append, h1, h2]; rfl
theorem exCl6 : (sysAll 6).all (exCl 6) = true := all_splitF exCl6a (all_splitF exCl6b (all_splitF exCl6c exCl6d))
theorem some_close {t : List Int} (h : goodB t = true) (h0 : 0 < t.length) : exCl (t.length / 2) t = true := by
  have h12 := good_len' h
  have h2 := (good_facts h).1
  have hm := mem_sysAll h
  have key : ∀ n, t.length / 2 = n → (sysAll n).all (exCl n) = true → exCl (t.length / 2) t = true := fun n e hn => by
    rw [e] at hm ⊢
    exact List.all_eq_true.1 hn t hm
  have : t.length / 2 = 1 ∨ t.length / 2 = 2 ∨ t.length / 2 = 3 ∨ t.length / 2 = 4 ∨ t.length / 2 = 5 ∨ t.length / 2 = 6 := by omega
  rcases this with e | e | e | e | e | e
  · exact key 1 e exCl1
  · exact key 2 e exCl2
  · exact key 3 e exCl3
  · exact key 4 e exCl4
  · exact key 5 e exCl5
  · exact key 6 e exCl6

/-- there is a curve where there are points -/
theorem col_mono (t b : Nat → Nat) (n : Nat) : ∀ k, (colS t b n k).2 ≤ (colS t b n (k + 1)).2 := by
  intro k
  rw [colS]
  split
  · exact Nat.le_refl _
  · exact Nat.le_succ _
theorem col_one (t b : Nat → Nat) (n : Nat) (hn : 0 < n) : ∀ k, 1 ≤ (colS t b n (k + 1)).2
  | 0 => by
    rw [colS]
    have : ¬ 0 ≤ ((colS t b n 0).1.getD 0 0) := by
      simp only [colS]
      simp [List.getD, hn]
    rw [if_neg this]
    simp [colS]
  | k + 1 => Nat.le_trans (col_one t b n hn k) (col_mono t b n (k + 1))
theorem cnt_pos (t b : Nat → Nat) (n : Nat) (hn : 0 < n) : 1 ≤ cntW t b n := by
  obtain ⟨m, rfl⟩ : ∃ m, n = m + 1 := ⟨n - 1, by omega⟩
  exact col_one t b (m + 1) hn m

/-- the greatest so far, and all that are as great -/
def farS (d : List Int → Int) (a : Int × List (List Int)) (q : List Int) : Int × List (List Int) :=
  if a.1 < d q then (d q, [q]) else if d q = a.1 then (a.1, a.2 ++ [q]) else a
theorem farS_all (d : List Int → Int) (D : Int) : ∀ (L : List (List Int)) (m : Int) (out : List (List Int)), (∀ q ∈ L, d q ≤ D) → m ≤ D → (m = D ∨ ∃ q ∈ L, d q = D) →
    L.foldl (farS d) (m, out) = (D, (if m = D then out else []) ++ L.filter (fun q => decide (d q = D)))
  | [], m, out, _, _, h => by
    rcases h with h | ⟨q, hq, _⟩
    · subst h; simp
    · simp at hq
  | q :: L, m, out, h1, h2, h3 => by
    have hq := h1 q (List.mem_cons_self ..)
    have hL : ∀ x ∈ L, d x ≤ D := fun x hx => h1 x (List.mem_cons_of_mem _ hx)
    rw [List.foldl_cons]
    by_cases c1 : m < d q
    · have e : farS d (m, out) q = (d q, [q]) := by unfold farS; rw [if_pos c1]
      rw [e]
      have hm : ¬ m = D := by omega
      rw [if_neg hm, List.nil_append]
      by_cases c2 : d q = D
      · rw [farS_all d D L (d q) [q] hL hq (.inl c2), if_pos c2, List.filter_cons, if_pos (by simpa using c2)]; rfl
      · have h4 : ∃ x ∈ L, d x = D := by
          rcases h3 with h | ⟨x, hx, e9⟩
          · exact absurd h hm
          · rcases List.mem_cons.1 hx with rfl | hx
            · exact absurd e9 c2
            · exact ⟨x, hx, e9⟩
        rw [farS_all d D L (d q) [q] hL hq (.inr h4), if_neg c2, List.filter_cons, if_neg (by simpa using c2)]; rfl
    · by_cases c2 : d q = m
      · have e : farS d (m, out) q = (m, out ++ [q]) := by unfold farS; rw [if_neg c1, if_pos c2]
        rw [e]
        by_cases c3 : m = D
        · rw [farS_all d D L m _ hL h2 (.inl c3), if_pos c3, if_pos c3, List.filter_cons, if_pos (by simpa using c2.trans c3), List.append_assoc]; rfl
        · have h4 : ∃ x ∈ L, d x = D := by
            rcases h3 with h | ⟨x, hx, e9⟩
            · exact absurd h c3
            · rcases List.mem_cons.1 hx with rfl | hx
              · exact absurd (c2.symm.trans e9) c3
              · exact ⟨x, hx, e9⟩
          rw [farS_all d D L m _ hL h2 (.inr h4), if_neg c3, if_neg c3, List.filter_cons_of_neg (by simpa using fun h => c3 (c2.symm.trans h))]
      · have e : farS d (m, out) q = (m, out) := by unfold farS; rw [if_neg c1, if_neg c2]
        rw [e]
        have hne : ¬ d q = D := by omega
        have h4 : m = D ∨ ∃ x ∈ L, d x = D := by
          rcases h3 with h | ⟨x, hx, e9⟩
          · exact .inl h
          · rcases List.mem_cons.1 hx with rfl | hx
            · exact absurd e9 hne
            · exact .inr ⟨x, hx, e9⟩
        rw [farS_all d D L m _ hL h2 h4, List.filter_cons_of_neg (by simpa using hne)]
theorem farS_take (d : List Int → Int) (L : List (List Int)) (a : Int × List (List Int)) (k : Nat) (h : k < L.length) : (L.take (k + 1)).foldl (farS d) a = farS d ((L.take k).foldl (farS d) a) (L.getD k []) := by
  rw [List.take_succ_eq_append_getElem h, List.foldl_append]
  simp [List.getD, h]
theorem farS_len (d : List Int → Int) : ∀ (L : List (List Int)) (a : Int × List (List Int)), (L.foldl (farS d) a).2.length ≤ a.2.length + L.length
  | [], a => by simp
  | q :: L, a => by
    rw [List.foldl_cons]
    have := farS_len d L (farS d a q)
    have h2 : (farS d a q).2.length ≤ a.2.length + 1 := by
      unfold farS
      split
      · simp
      · split <;> simp
    simp; omega

end Go.Proofs.Ytfcjgcbjiongpaa
