/- slices.Reverse at []int. -/
import Derived.Test.YtllhdmpnjcemkacProg
import Derived.Shelf.SlicesE.Reverse
import Derived.Test.YtllhdmpnjcemkacSlice
import Derived.Deep.MidRow
namespace Go.Proofs.Ytllhdmpnjcemkac
open Go.Shelf Go.Proofs
def layRev_ren : Go.Shelf.Ren := ⟨fun | 35 => 127 | n => n,
  fun | 22 => 22 | 23 => 3 | 3 => 3 | 4 => 4 | 0 => 0 | n => n,
  fun | n => n⟩
theorem layRev : Go.Proofs.SlLaysE.n35 Try.prog layRev_ren := {
  mixed := by kernel_rfl
  f35 := ⟨Try.f127.name, by decide, Try.func127.trans (congrArg some (by kernel_rfl))⟩
  t0 := Try.underlying0
  a0 := Try.isAgg0
  z0 := Try.sizeOf0
  v0 := Try.zeroValue0
  t3 := Try.underlying3
  a3 := Try.isAgg3
  z3 := Try.sizeOf3
  v3 := Try.zeroValue3
  t4 := Try.underlying4
  a4 := Try.isAgg4
  z4 := Try.sizeOf4
  v4 := Try.zeroValue4
  t22 := Try.underlying22
  a22 := Try.isAgg22
  z22 := Try.sizeOf22
  v22 := Try.zeroValue22
  a23 := Try.isAgg3
  z23 := Try.sizeOf3 }
end Go.Proofs.Ytllhdmpnjcemkac

namespace Go.Proofs.Ytllhdmpnjcemkac
open Go.RowKit Go.Maps
set_option linter.unusedSimpArgs false
set_option linter.unusedVariables false

theorem put_heap {w : World} {g n k : Nat} {d : Array Int} (enc : Int → Value) : (Go.Sort.putRow enc (Go.Sort.ahead w n) g 0 d).heap[k]? = if g = k then (w.heap[k]?).map (Go.Sort.onCells (Go.Sort.putCells enc 0 d)) else w.heap[k]? := by
  show (w.heap.modify g (Go.Sort.onCells (Go.Sort.putCells enc 0 d)))[k]? = _
  rw [Array.getElem?_modify]
theorem putI_take (l : List Int) (cur : Array Value) (h : l.length ≤ cur.size) : (Go.Sort.putCells (Value.int .i64) 0 l.toArray cur).size = cur.size ∧ (Go.Sort.putCells (Value.int .i64) 0 l.toArray cur).toList.take l.length = ints l := by
  unfold Go.Sort.putCells
  refine ⟨by simp, ?_⟩
  apply List.ext_getElem?
  intro t
  rw [List.getElem?_take]
  by_cases ht : t < l.length
  · rw [if_pos ht]
    have h1 : t < cur.size := by omega
    simp [h1, ht, ints]
  · rw [if_neg ht]
    rw [List.getElem?_eq_none (by rw [ints_length]; omega)]
def Turned (B : Nat) (w : World) (v : Value) (l : List Int) (e : Ending) (w' : World) : Prop := e = .returned (.tuple #[]) ∧ Own B w' v l ∧ Below B w w'
theorem reverse_any (B : Nat) (v : Value) (l : List Int) (w : World) (h : Own B w v l) : Calls Try.prog 127 #[v] w (Turned B w v l.reverse) := by
  have h0 := h
  rcases h.2 with ⟨rfl, hn⟩ | ⟨g, cap, cur, rfl, hB, hg, hnc, hcm, hcs, ht⟩
  · obtain rfl : l = [] := List.eq_nil_of_length_eq_zero hn
    exact (Go.Proofs.AnyE.slices_Reverse_empty layRev none 0 w).mono fun e w' ⟨h1, h2⟩ => ⟨h1, by rw [h2]; exact h0, by rw [h2]; exact Below.refl _ _⟩
  · have hc : ∀ j, j < l.toArray.size → w.cell? ⟨g, 0 + j, none⟩ = some (Value.int .i64 l.toArray[j]!) ∧ w.frozen? ⟨g, 0 + j, none⟩ = false := fun j hj => by
      have hjl : j < l.length := by simpa using hj
      rw [Nat.zero_add]
      refine ⟨?_, h0.frozenAt j⟩
      rw [h0.cellAt j hjl]
      simp [List.getD, hjl]
    have hcm' := hcm
    unfold maxLen at hcm'
    refine (Go.Proofs.AnyE.slices_Reverse layRev (Value.int .i64) (fun _ => rfl) g 0 cap l w hc (by omega)).mono fun e w' ⟨h1, n, h2⟩ => ?_
    rw [h2]
    have hgs := (Array.getElem?_eq_some_iff.1 hg).1
    have hp := putI_take l.reverse cur (by rw [List.length_reverse]; omega)
    rw [List.length_reverse] at hp
    refine ⟨h1, ⟨by simp [ints], .inr ⟨g, cap, _, by rw [List.length_reverse], hB, by rw [put_heap, if_pos rfl, hg]; rfl, by rw [List.length_reverse]; exact hnc, hcm, by rw [hp.1]; exact hcs, ?_⟩⟩, ⟨rfl, rfl, rfl, ?_, fun k hk => ?_⟩⟩
    · rw [List.length_reverse, Nat.mul_one]; exact hp.2
    · show w.heap.size ≤ (w.heap.modify g _).size
      simp
    · rw [put_heap, if_neg (by omega)]


end Go.Proofs.Ytllhdmpnjcemkac
