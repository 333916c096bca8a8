/- PermutationOf and CycleOf in the program. -/
import Derived.Test.YteeoepbbocdchaaWdWord
import Derived.Test.YteeoepbbocdchaaWdRow
import Derived.Test.YteeoepbbocdchaaOwn
namespace Go.Proofs.Yteeoepbbocdchaa
open Go.RowKit
set_option linter.unusedSimpArgs false
set_option linter.unusedVariables false

theorem lit0W (B : Nat) (w : World) (hB : B ≤ w.heap.size) : Own B (w.alloc (.cells #[] 3)) (.slice (some ⟨w.heap.size, 0, none⟩) 0 0) [] :=
  World.ownsRow_lit w #[] 0 hB (by unfold maxLen; omega) rfl
set_option maxRecDepth 100000 in
set_option maxHeartbeats 1000000 in
theorem cloneW_any (b o n c : Nat) (l : List Int) (w : World) (h : Rd w (.slice (some ⟨b, o, none⟩) n c) l) (hl : l.length ≤ 1000000) :
    Calls Try.prog 180 #[.slice (some ⟨b, o, none⟩) n c] w (Made w l) := by
  have HO := Lib.hid (lit0W w.heap.size w (Nat.le_refl _))
  have HR := Lib.hid (h.below (Below.alloc1 w (.cells #[] 3)))
  have HL := Lib.hid hl
  clear h hl
  have q22 : ∀ (w : World) (a : Option Addr) (n c n' c' : Nat), (binOp .eql 22 (.slice a n c) (.slice none n' c')).run Try.prog w = .ok (.bool a.isNone) w := fun w a n c n' c' => Lib.run_eql_slice_nil w _ _ a n c n' c' Try.underlying22
  go_enter Try.func180, Try.ntmps180
  go_wp2_with (at_builtin; refine wp_append _ rfl _ _ rfl w.heap.size _ _ [] l rfl rfl HO.out HR.out (by have := HL.out; simp; omega) (by simp) ?_; intro v' w2 hown2 hgr hbel2; obtain ⟨x1, y1, z1, rfl⟩ := hown2.form'; have HO2 := Lib.hid hown2; have HB2 := Lib.hid ((Below.alloc1 w (.cells #[] 3)).trans hbel2); clear hown2 hgr hbel2)
  go_ret
  exact ⟨_, rfl, HO2.out, HB2.out⟩

theorem run_ats (b n : Nat) (w : World) (hn : n ≤ 12) : (Instr.sliceAt 57 (.pointer (some ⟨b, 0, none⟩)) none (some (.int .i64 (n : Int))) none).run Try.prog w = .ok (.slice (some ⟨b, 0, none⟩) n 12) w := by
  have h := run_sliceAt_array_h (P := Try.prog) w 57 ⟨b, 0, none⟩ (by rw [arrayLen12, arrayElem12]; exact arrayUnder12) .i64 (n : Int) (by omega) (by rw [arrayLen12]; omega)
  rw [h, arrayLen12, arrayElem12]
  obtain ⟨i0, hi, hz0, hz1, hz2⟩ := info_parts Try.info3
  simp [sizeOf, typeInfo, hi, hz1, slicedAt, Result.andThen, Addr.add]

/-- points whose array and size are told apart -/
def ptG (a : List Int) (n : Nat) : List Value := ints a ++ [.int .i64 (n : Int)]
theorem ptL_G (l : List Int) : ptL l = ptG (l ++ List.replicate (12 - l.length) 0) l.length := rfl
theorem ptG_length {a : List Int} (n : Nat) (h : a.length = 12) : (ptG a n).length = 13 := by simp [ptG, ints, h]
theorem ptG_get {a : List Int} (n : Nat) (h : a.length = 12) (i : Nat) (hi : i < 12) : (ptG a n)[i]? = some (.int .i64 (a.getD i 0)) := by
  unfold ptG
  rw [List.getElem?_append_left (by simp [ints, h]; exact hi)]
  simp only [ints, List.getElem?_map, List.getD, List.getElem?_eq_getElem (show i < a.length by omega)]
  rfl
theorem ptG_last {a : List Int} (n : Nat) (h : a.length = 12) : (ptG a n)[12]? = some (.int .i64 (n : Int)) := by
  unfold ptG
  rw [List.getElem?_append_right (by simp [ints, h])]
  simp [ints, h]

set_option maxHeartbeats 1000000 in
theorem listG_any (a : List Int) (n : Nat) (w : World) (ha : a.length = 12) (hn : n ≤ 12) :
    Calls Try.prog 135 #[.agg (ptG a n).toArray] w (Made w (a.take n)) := by
  have hw : (w.alloc (.cells (ptG a n).toArray 70)).heap[w.heap.size]? = some (.cells (ptG a n).toArray 70 (0, 0)) := heap_alloc_new w _
  have hlast : (w.alloc (.cells (ptG a n).toArray 70)).cell? ⟨w.heap.size, 12, none⟩ = some (.int .i64 (n : Int)) := by
    rw [cell_of_row _ _ 12 _ _ _ hw, List.getElem?_toArray, ptG_last n ha]
  have hrd : Rd (w.alloc (.cells (ptG a n).toArray 70)) (.slice (some ⟨w.heap.size, 0, none⟩) n 12) (a.take n) := by
    have hl : (a.take n).length = n := by rw [List.length_take]; omega
    refine ⟨_, 12, by rw [hl], by omega, by unfold maxLen; omega, by simp, .inr ⟨w.heap.size, 0, rfl, fun k hk => ?_⟩⟩
    rw [Nat.zero_add, cell_of_row _ _ k _ _ _ hw, List.getElem?_toArray, ptG_get n ha k (by omega)]
    simp only [List.getD, List.getElem?_take]
    rw [if_pos (by omega)]
  have hsl := run_ats w.heap.size n (w.alloc (.cells (ptG a n).toArray 70)) hn
  have hcl := cloneW_any w.heap.size 0 n 12 (a.take n) _ hrd (by rw [List.length_take]; omega)
  have HC := Lib.hid hcl
  generalize a.take n = l at *
  generalize (ptG a n).toArray = C at *
  clear hw hrd hcl
  have hall := fun b w => run_ats b n w hn
  go_enter Try.func135, Try.ntmps135
  go_wp2_with (go_at_call 180; refine HC.out.mono ?_; rintro e w2 ⟨v2, rfl, hown, hb2⟩)
  go_ret
  exact ⟨_, rfl, hown.mono (by simp), (Below.alloc1 w _).trans (hb2.mono (by simp))⟩

theorem list_pts (l : List Int) (w : World) (hl : l.length ≤ 12) : Calls Try.prog 135 #[.agg (ptC l)] w (Made w l) := by
  have := listG_any (l ++ List.replicate (12 - l.length) 0) l.length w (by simp; omega) hl
  rw [← ptL_G, List.take_left' rfl] at this
  exact this




end Go.Proofs.Yteeoepbbocdchaa
