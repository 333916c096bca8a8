/- Contracts of the laws' own helpers on slices of slices of int. -/
import Derived.Test.YtbinpefogecgmaaLists
import Derived.Deep.QuietTactic
import Derived.BigQuiet
namespace Go.Proofs.Ytbinpefogecgmaa
open Go.RowKit
set_option linter.unusedSimpArgs false
set_option linter.unusedVariables false

theorem OwnLL.within {b e lo hi : Nat} {w w' : World} {v : Value} {vs : List Value} {ls : List (List Int)} (h : OwnLL b e w v vs ls) (hw : Within lo hi w w') (ha : e ≤ lo ∨ hi ≤ b) : OwnLL b e w' v vs ls := by
  refine ⟨Nat.le_trans h.ends hw.size, h.len, ⟨h.row.1, ?_⟩, fun i hi => (h.own i hi).within hw (h.inr i hi) ha, h.inn, h.inr, h.apart⟩
  rcases h.row.2 with hn | ⟨g, cap, cur, rfl, hB, hg, rest⟩
  · exact .inl hn
  · refine .inr ⟨g, cap, cur, rfl, hB, (hw.block g (Array.getElem?_eq_some_iff.1 hg).1 ?_).trans hg, rest⟩
    have := h.inn g rfl; omega

def tot (ls : List (List Int)) : Nat := (ls.map List.length).sum
theorem tot_cons (l : List Int) (ls : List (List Int)) : tot (l :: ls) = l.length + tot ls := by simp [tot]
theorem tot_take_succ (ls : List (List Int)) (i : Nat) (h : i < ls.length) : tot (ls.take (i + 1)) = tot (ls.take i) + (ls.getD i []).length := by
  unfold tot
  rw [List.take_succ_eq_append_getElem h, List.map_append, List.sum_append_nat]
  simp [List.getD, h]
theorem tot_take_le (ls : List (List Int)) (i : Nat) : tot (ls.take i) ≤ tot ls := by
  have : tot ls = tot (ls.take i) + tot (ls.drop i) := by
    unfold tot
    rw [← List.sum_append_nat, ← List.map_append, List.take_append_drop]
  omega
theorem tot_le {K : Nat} : ∀ {ls : List (List Int)}, (∀ i, i < ls.length → (ls.getD i []).length ≤ K) → tot ls ≤ ls.length * K
  | [], _ => by simp [tot]
  | l :: r, h => by
    have h0 := h 0 (by simp)
    have h1 := tot_le (ls := r) (fun i hi => by have := h (i + 1) (by simpa using hi); simpa using this)
    rw [tot_cons, List.length_cons, Nat.add_mul]
    simp at h0
    omega
def marksLL (k : Int) : List (List Int) → List (List Int)
  | [] => []
  | l :: r => marks k l.length :: marksLL (k + (l.length : Int)) r
theorem marksLL_length : ∀ (k : Int) (ls : List (List Int)), (marksLL k ls).length = ls.length
  | k, [] => rfl
  | k, l :: r => by simp [marksLL, marksLL_length]
theorem marksLL_get : ∀ (ls : List (List Int)) (k : Int) (i : Nat), i < ls.length → (marksLL k ls).getD i [] = marks (k + (tot (ls.take i) : Int)) (ls.getD i []).length
  | [], k, i, h => by simp at h
  | l :: r, k, 0, h => by simp [marksLL, tot]
  | l :: r, k, i + 1, h => by
    have := marksLL_get r (k + (l.length : Int)) i (by simpa using h)
    simp only [marksLL, List.getD_cons_succ, this, List.take_succ_cons, tot_cons]
    congr 1
    push_cast; omega
theorem marksLL_tot : ∀ (k : Int) (ls : List (List Int)), tot (marksLL k ls) = tot ls
  | k, [] => rfl
  | k, l :: r => by rw [marksLL, tot_cons, tot_cons, marks_length, marksLL_tot]
/-- the first i rows marked -/
def curLL (k : Int) (ls : List (List Int)) (i : Nat) : List (List Int) := (marksLL k ls).take i ++ ls.drop i
theorem curLL_length (k : Int) (ls : List (List Int)) (i : Nat) : (curLL k ls i).length = ls.length := by
  simp [curLL, marksLL_length]; omega
theorem curLL_get (k : Int) (ls : List (List Int)) (i : Nat) (h : i < ls.length) : (curLL k ls i).getD i [] = ls.getD i [] := by
  have h1 : ((marksLL k ls).take i).length = i := by rw [List.length_take, marksLL_length]; omega
  rw [curLL, List.getD, List.getElem?_append_right (by omega), h1, Nat.sub_self]
  simp [List.getD]
theorem curLL_succ (k : Int) (ls : List (List Int)) (i : Nat) (h : i < ls.length) : (curLL k ls i).set i (marks (k + (tot (ls.take i) : Int)) (ls.getD i []).length) = curLL k ls (i + 1) := by
  have h1 : ((marksLL k ls).take i).length = i := by rw [List.length_take, marksLL_length]; omega
  have hm := marksLL_length k ls
  unfold curLL
  rw [List.set_append_right _ _ (by omega), h1, Nat.sub_self, List.drop_eq_getElem_cons h, List.set_cons_zero, List.take_succ_eq_append_getElem (show i < (marksLL k ls).length by omega), List.append_assoc, ← marksLL_get ls k i h]
  simp [List.getD, show i < (marksLL k ls).length by omega]

/-- a row marked -/
theorem OwnLL.marked {lo hi : Nat} {w w' : World} {v : Value} {vs : List Value} {ls : List (List Int)} {l : List Int} {i : Nat} (h : OwnLL lo hi w v vs ls) (hi' : i < ls.length) (hg : w.grownBy w' (rowV vs i).ownBlock) (hnew : Own lo w' (rowV vs i) l) :
    OwnLL lo hi w' v vs (ls.set i l) := by
  refine ⟨Nat.le_trans h.ends hg.size, by simp [h.len], ?_, fun j hj => ?_, h.inn, fun j hj => ?_, fun j j' hj hj' => ?_⟩
  · rw [List.length_set]
    exact World.ownsRow.kept h.row hg (by
      cases e : v.ownBlock with
      | none => exact .inl rfl
      | some k => exact .inr fun e' => own_apart (h.own i hi') h.row k e'.symm e)
  · rw [List.length_set] at hj
    by_cases e : i = j
    · subst e; rw [getD_setL_eq hi']; exact hnew
    · rw [getD_setL_ne e]
      exact World.ownsRow.kept (h.own j hj) hg (by
        cases e1 : (rowV vs j).ownBlock with
        | none => exact .inl rfl
        | some k => exact .inr fun e' => h.apart j i hj hi' (fun x => e x.symm) k e1 e'.symm)
  · rw [List.length_set] at hj; exact h.inr j hj
  · rw [List.length_set] at hj hj'; exact h.apart j j' hj hj'

def MarkedLL (lo hi : Nat) (w : World) (v : Value) (vs : List Value) (k : Int) (ls : List (List Int)) (e : Ending) (w' : World) : Prop :=
  e = .returned (.int .i64 (k + (tot ls : Int))) ∧ OwnLL lo hi w' v vs (marksLL k ls) ∧ Within lo hi w w'

theorem Own.get {B n c : Nat} {w : World} {a : Option Addr} {l : List Int} (h : Own B w (.slice a n c) l) (k : Nat) (hk : k < l.length) : ∃ g, a = some ⟨g, 0, none⟩ ∧ w.cell? ⟨g, k, none⟩ = some (.int .i64 (l.getD k 0)) := by
  rcases h.shape with ⟨_, rfl⟩ | ⟨g, c', hv, _⟩
  · simp at hk
  · simp only [Value.slice.injEq] at hv
    obtain ⟨rfl, rfl, rfl⟩ := hv
    exact ⟨g, rfl, h.cellAt k hk⟩

end Go.Proofs.Ytbinpefogecgmaa
