/- slices.Sort at []int. -/
import Derived.Test.YtgaaddfipkdlaaaLaySortI
import Derived.Test.YtgaaddfipkdlaaaStrandMath
import Derived.Test.YtgaaddfipkdlaaaSlice
import Derived.Deep.MidRow
namespace Go.Proofs.Ytgaaddfipkdlaaa
open Go.RowKit Go.Maps Go.Shelf
set_option linter.unusedSimpArgs false
set_option linter.unusedVariables false

theorem srt_heap {w : World} {g n k : Nat} {d : Array Int} {os : Array Obj} (hk : k < w.heap.size) : (Go.Sort.grow (Go.Sort.putRow (Value.int .i64) (Go.Sort.ahead w n) g 0 d) os).heap[k]? = if g = k then (w.heap[k]?).map (Go.Sort.onCells (Go.Sort.putCells (Value.int .i64) 0 d)) else w.heap[k]? := by
  show ((w.heap.modify g (Go.Sort.onCells (Go.Sort.putCells (Value.int .i64) 0 d))) ++ os)[k]? = _
  rw [Array.getElem?_append, if_pos (by simpa using hk), Array.getElem?_modify]
theorem srt_take (l : List Int) (cur : Array Value) (h : l.length ≤ cur.size) : (Go.Sort.putCells (Value.int .i64) 0 l.toArray cur).size = cur.size ∧ (Go.Sort.putCells (Value.int .i64) 0 l.toArray cur).toList.take l.length = ints l := by
  unfold Go.Sort.putCells
  refine ⟨by simp, ?_⟩
  apply List.ext_getElem?
  intro t
  rw [List.getElem?_take]
  by_cases ht : t < l.length
  · rw [if_pos ht]
    have h1 : t < cur.size := by omega
    simp [h1, ht, ints]
  · rw [if_neg ht]
    rw [List.getElem?_eq_none (by rw [ints_length]; omega)]
def SortedI (B : Nat) (w : World) (v : Value) (l : List Int) (e : Ending) (w' : World) : Prop := e = .returned (.tuple #[]) ∧ Own B w' v (ascL l) ∧ w.grownBy w' v.ownBlock ∧ Below B w w'
theorem sortI_any (B : Nat) (v : Value) (l : List Int) (w : World) (h : Own B w v l) (hl : 0 < l.length) (hs : l.length ≤ 1000000) (hB : B ≤ w.heap.size) : Calls Try.prog 65 #[v] w (SortedI B w v l) := by
  have h0 := h
  rcases h.2 with ⟨rfl, hn⟩ | ⟨g, cap, cur, rfl, hBg, hg, hnc, hcm, hcs, ht⟩
  · omega
  · have hc : Go.Sort.Holds (Value.int .i64) w g 0 l.toArray := fun j hj => by
      have hjl : j < l.length := by simpa using hj
      rw [Nat.zero_add]
      refine ⟨?_, h0.frozenAt j⟩
      rw [h0.cellAt j hjl]
      simp [List.getD, hjl]
    have hgs := (Array.getElem?_eq_some_iff.1 hg).1
    refine (Go.Proofs.Any.slices_Sort_int laySortI g 0 cap l w hc hgs (by omega)).mono fun e w' ⟨h1, n, os, h2⟩ => ?_
    rw [h2]
    have hgr : w.grownBy (Go.Sort.grow (Go.Sort.putRow (Value.int .i64) (Go.Sort.ahead w n) g 0 (ascL l).toArray) os) (some g) := by
      refine ⟨rfl, rfl, rfl, ?_, fun k hk hne => ?_⟩
      · show w.heap.size ≤ ((w.heap.modify g _) ++ os).size
        simp
      · rw [srt_heap hk, if_neg (fun e => hne (by rw [e]))]
    have hp := srt_take (ascL l) cur (by rw [ascL_len]; omega)
    rw [ascL_len] at hp
    refine ⟨h1, ⟨by simp [ints], .inr ⟨g, cap, _, by rw [ascL_len], hBg, by show (Go.Sort.grow (Go.Sort.putRow (Value.int .i64) (Go.Sort.ahead w n) g 0 (ascL l).toArray) os).heap[g]? = _; rw [srt_heap hgs, if_pos rfl, hg]; rfl, by rw [ascL_len]; exact hnc, hcm, by rw [hp.1]; exact hcs, ?_⟩⟩, hgr, ?_⟩
    · rw [ascL_len, Nat.mul_one]; exact hp.2
    · exact below_grown hgr hB (fun k hk => by cases hk; exact hBg)
end Go.Proofs.Ytgaaddfipkdlaaa
