/- MeanderWith: the program's function and the model's. -/
import Derived.Test.YtodbjkfikbkkbabMeAll2
namespace Go.Proofs.Ytodbjkfikbkkbab
open Go.RowKit
set_option linter.unusedSimpArgs false
set_option linter.unusedVariables false

theorem cellsML_get : ∀ (es : List (Value × Value)) (k : Nat), k < es.length → (cellsML es)[k * 2]? = some (es.getD k noV).1 ∧ (cellsML es)[k * 2 + 1]? = some (es.getD k noV).2
  | [], k, h => by simp at h
  | e :: r, 0, _ => ⟨rfl, rfl⟩
  | e :: r, k + 1, h => by
    have := cellsML_get r k (by simpa using h)
    have h1 : (cellsML (e :: r)) = [e.1, e.2] ++ cellsML r := rfl
    rw [h1, List.getElem?_append_right (by simp; omega), List.getElem?_append_right (by simp; omega)]
    have e1 : (k + 1) * 2 - [e.1, e.2].length = k * 2 := by simp; omega
    have e2 : (k + 1) * 2 + 1 - [e.1, e.2].length = k * 2 + 1 := by simp; omega
    rw [e1, e2]
    exact this
theorem OwnML.at {lo n c : Nat} {a : Option Addr} {w : World} {es : List (Value × Value)} {ps : List (List Int × List Int)} (h : OwnML lo w (.slice a n c) es ps) (k : Nat) (hk : k < ps.length) :
    ∃ g, a = some ⟨g, 0, none⟩ ∧ w.cell? ⟨g, k * 2, none⟩ = some (es.getD k noV).1 ∧ w.cell? ⟨g, k * 2 + 1, none⟩ = some (es.getD k noV).2 := by
  have h1 := h.1
  rcases h.1.2 with ⟨_, hn⟩ | ⟨g, cap, cur, hv, hB, hg, hnc, hcm, _⟩
  · omega
  · have hn : n = ps.length := by simp at hv; exact hv.2.1
    have ha : a = some ⟨g, 0, none⟩ := by simp at hv; exact hv.1
    subst ha; subst hn
    have hg2 := cellsML_get es k (by rw [h.2.1]; exact hk)
    refine ⟨g, rfl, ?_, ?_⟩
    · rw [World.ownsRow.cellAt h1 _ (by omega)]; exact hg2.1
    · rw [World.ownsRow.cellAt h1 _ (by omega)]; exact hg2.2

def ok_MeanderWith (x y : Int) : Bool := inB x 0 4 && inB y 0 (((mcJ x.toNat (allL x.toNat)).length : Int) - 1)
def res1_MeanderWith (x y : Int) : List Int := if ok_MeanderWith x y then ((mcJ x.toNat (allL x.toNat)).getD y.toNat ([], [])).1 else []
def res2_MeanderWith (x y : Int) : List Int := if ok_MeanderWith x y then ((mcJ x.toNat (allL x.toNat)).getD y.toNat ([], [])).2 else []
theorem mcJ_at {n k : Nat} (hn : n ≤ 4) (hk : k < (mcJ n (allL n)).length) : goodB ((mcJ n (allL n)).getD k ([], [])).1 = true ∧ goodB ((mcJ n (allL n)).getD k ([], [])).2 = true := by
  have hm : (mcJ n (allL n)).getD k ([], []) ∈ mcJ n (allL n) := by simp [List.getD, hk]
  rw [← among_pairsN] at hm ⊢
  have hp := pairsN_mem (List.mem_filter.1 hm).1
  exact ⟨(mem_good (by omega) hp.1).1, (mem_good (by omega) hp.2).1⟩
theorem ok_MW {x y : Int} (h : ok_MeanderWith x y = true) : ∃ n k : Nat, x = n ∧ y = k ∧ n ≤ 4 ∧ k < (mcJ n (allL n)).length := by
  simp only [ok_MeanderWith, Bool.and_eq_true] at h
  have h1 := inB_iff.1 h.1
  have h2 := inB_iff.1 h.2
  obtain ⟨n, rfl⟩ := Int.eq_ofNat_of_zero_le h1.1
  obtain ⟨k, rfl⟩ := Int.eq_ofNat_of_zero_le h2.1
  rw [Int.toNat_natCast] at h2
  exact ⟨n, k, rfl, rfl, by omega, by omega⟩
theorem len_MeanderWith (x y : Int) : (res1_MeanderWith x y).length ≤ 1000000 ∧ (res2_MeanderWith x y).length ≤ 1000000 := by
  unfold res1_MeanderWith res2_MeanderWith
  cases h : ok_MeanderWith x y with
  | false => simp
  | true =>
    obtain ⟨n, k, rfl, rfl, hn, hk⟩ := ok_MW h
    have := mcJ_at hn hk
    have l1 := good_len' this.1
    have l2 := good_len' this.2
    simp only [if_true, Int.toNat_natCast]
    omega



end Go.Proofs.Ytodbjkfikbkkbab
