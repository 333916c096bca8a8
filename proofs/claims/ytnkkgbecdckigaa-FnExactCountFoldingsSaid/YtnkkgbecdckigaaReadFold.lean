/- readFolding. -/
import Derived.Test.YtnkkgbecdckigaaFold
import Derived.Test.YtnkkgbecdckigaaMoved
namespace Go.Proofs.Ytnkkgbecdckigaa
open Go.RowKit
set_option linter.unusedSimpArgs false
set_option linter.unusedVariables false

theorem results_rfold (tmps : Array Value) (w : World) (g : Nat) (l : List Int) (b : Bool) (hl : l.length ≤ 8) (hg : StkIn w g l) (h2 : tmps.getD 2 undef = .pointer (some ⟨g, 0, none⟩)) (h3 : tmps.getD 3 undef = .bool b) :
    (results Try.f50 tmps).run Try.prog w = .ok (.tuple #[.agg (stkC l), .bool b]) w := by
  have h2' : tmps[2]?.getD undef = .pointer (some ⟨g, 0, none⟩) := by simpa using h2
  have h3' : tmps[3]?.getD undef = .bool b := by simpa using h3
  have hr : Try.f50.results = #[.cell 2 42, .tmp 3] := by kernel_rfl
  simp [results, hr, h2', h3', asAddr, run_loadStk w g l hl hg]

theorem fold_below {w w1 w2 w3 w4 : World} {A : Obj} (h1 : Below (w.alloc A).heap.size (w.alloc A) w1) (h2 : Below w1.heap.size w1 w2) (h3 : Below w2.heap.size w2 w3) (h4 : w3.grownBy w4 (some w.heap.size)) : Below w.heap.size w w4 := by
  have s1 : w.heap.size ≤ w1.heap.size := by have := h1.size; simp at this; omega
  have B := Below.step (Below.step (Below.step (Below.alloc1 w A) h1) h2) h3
  exact B.grown h4 B.size (by intro k hk; simp at hk; omega)

set_option maxHeartbeats 1000000 in
theorem readFolding_yes (v : Value) (l : List Int) (w : World) (h : Rd w v l) (hg : stackB l = true) (hs : foldB l = true) : Calls Try.prog 50 #[v] w (StkOut w l true) := by
  have HL := Lib.hid (stack_len hg)
  have HF := Lib.hid (fun w => isFolding_any l w hg)
  rw [hs] at HF
  have HG := Lib.hid hg; have H := Lib.hid h
  have HZ := Lib.hid (StkIn.zero w)
  clear hg hs h
  go_enter Try.func50, Try.ntmps50
  go_wp2_with fail
  refine (readStack_yes v l _ (H.out.below (Below.alloc1 _ _)) HG.out).mono ?_
  rintro e w1 ⟨rfl, hb⟩
  have HZ1 := Lib.hid (HZ.out.below hb)
  go_wp2_with (first
    | ((with_reducible refine wp_storeNewStk rfl (.tmp 4) (.tmp 9) rfl _ l HL.out rfl rfl ?_); intro w2 hs2 hb2; have HZ2 := Lib.hid (HZ1.out.below hb2))
    | (with_reducible refine wp_loadStkG (.tmp 4) rfl w1.heap.size l HL.out rfl hs2 (by with_unfolding_all rfl) ?_)
    | (go_at_call 37; refine (HF.out _).mono ?_; rintro e w3 ⟨rfl, hb3⟩; have HZ3 := Lib.hid (HZ2.out.below hb3); have hs3 := hs2.below hb3)
    | (with_reducible refine wp_loadStk rfl (.tmp 4) rfl w1.heap.size l HL.out rfl hs3 ?_)
    | ((with_reducible refine wp_storeStk rfl (.tmp 2) (.tmp 19) rfl w.heap.size l [] HL.out (Nat.zero_le _) rfl rfl HZ3.out ?_); intro w4 hs4 hg4))
  exact bodyPost_ret (results_rfold _ _ w.heap.size l true HL.out hs4 rfl rfl) rfl ⟨rfl, fold_below hb hb2 hb3 hg4⟩

set_option maxHeartbeats 1000000 in
theorem readFolding_no (v : Value) (l : List Int) (w : World) (h : Rd w v l) (hg : stackB l = true) (hs : foldB l = false) : Calls Try.prog 50 #[v] w (StkOut w [] false) := by
  have HL := Lib.hid (stack_len hg)
  have HF := Lib.hid (fun w => isFolding_any l w hg)
  rw [hs] at HF
  have HG := Lib.hid hg; have H := Lib.hid h
  have HZ := Lib.hid (StkIn.zero w)
  clear hg hs h
  go_enter Try.func50, Try.ntmps50
  go_wp2_with fail
  refine (readStack_yes v l _ (H.out.below (Below.alloc1 _ _)) HG.out).mono ?_
  rintro e w1 ⟨rfl, hb⟩
  have HZ1 := Lib.hid (HZ.out.below hb)
  go_wp2_with (first
    | ((with_reducible refine wp_storeNewStk rfl (.tmp 4) (.tmp 9) rfl _ l HL.out rfl rfl ?_); intro w2 hs2 hb2; have HZ2 := Lib.hid (HZ1.out.below hb2))
    | (with_reducible refine wp_loadStkG (.tmp 4) rfl w1.heap.size l HL.out rfl hs2 (by with_unfolding_all rfl) ?_)
    | (go_at_call 37; refine (HF.out _).mono ?_; rintro e w3 ⟨rfl, hb3⟩; have HZ3 := Lib.hid (HZ2.out.below hb3))
    | ((with_reducible refine wp_storeStk0 rfl (.tmp 2) (.tmp 18) rfl w.heap.size [] (Nat.zero_le _) rfl rfl HZ3.out ?_); intro w4 hs4 hg4))
  exact bodyPost_ret (results_rfold _ _ w.heap.size [] false (Nat.zero_le _) hs4 rfl rfl) rfl ⟨rfl, fold_below hb hb2 hb3 hg4⟩

set_option maxHeartbeats 1000000 in
theorem readFolding_bad (v : Value) (l : List Int) (w : World) (h : Rd w v l) (hg : stackB l = false) : Calls Try.prog 50 #[v] w (StkOut w [] false) := by
  have HG := Lib.hid hg; have H := Lib.hid h
  have HZ := Lib.hid (StkIn.zero w)
  clear hg h
  go_enter Try.func50, Try.ntmps50
  go_wp2_with fail
  refine (readStack_no v l _ (H.out.below (Below.alloc1 _ _)) HG.out).mono ?_
  rintro e w1 ⟨rfl, hb⟩
  have HZ1 := Lib.hid (HZ.out.below hb)
  go_wp2_with (first
    | ((with_reducible refine wp_storeNewStk rfl (.tmp 4) (.tmp 9) rfl _ [] (Nat.zero_le _) rfl rfl ?_); intro w2 hs2 hb2; have HZ2 := Lib.hid (HZ1.out.below hb2))
    | ((with_reducible refine wp_storeStk0 rfl (.tmp 2) (.tmp 18) rfl w.heap.size [] (Nat.zero_le _) rfl rfl HZ2.out ?_); intro w4 hs4 hg4))
  exact bodyPost_ret (results_rfold _ _ w.heap.size [] false (Nat.zero_le _) hs4 rfl rfl) rfl ⟨rfl, fold_below hb hb2 (Below.refl _ _) hg4⟩

theorem readFolding_not (v : Value) (l : List Int) (w : World) (h : Rd w v l) (hn : (stackB l && foldB l) = false) : Calls Try.prog 50 #[v] w (StkOut w [] false) := by
  cases h1 : stackB l with
  | false => exact readFolding_bad v l w h h1
  | true =>
    rw [h1, Bool.true_and] at hn
    exact readFolding_no v l w h h1 hn

end Go.Proofs.Ytnkkgbecdckigaa
