/- readClosedWord, and PositionsOf in both. -/
import Derived.Test.YtkohmdhjjnmfgabWdImpl
import Derived.Test.YtkohmdhjjnmfgabWdInvS
namespace Go.Proofs.Ytkohmdhjjnmfgab
open Go.RowKit
set_option linter.unusedSimpArgs false
set_option linter.unusedVariables false

theorem results_rcw (tmps : Array Value) (w : World) (g : Nat) (p b : List Int) (ok : Bool) (hl : p.length ≤ 12) (hb : b.length = 12) (hg : WdIn w g p b) (h2 : tmps.getD 2 undef = .pointer (some ⟨g, 0, none⟩)) (h3 : tmps.getD 3 undef = .bool ok) :
    (results Try.f46 tmps).run Try.prog w = .ok (.tuple #[.agg (wdC p b), .bool ok]) w := by
  have h2' : tmps[2]?.getD undef = .pointer (some ⟨g, 0, none⟩) := by simpa using h2
  have h3' : tmps[3]?.getD undef = .bool ok := by simpa using h3
  have hr : Try.f46.results = #[.cell 2 53, .tmp 3] := by kernel_rfl
  simp [results, hr, h2', h3', asAddr, run_loadWd w g p b hl hb hg]

set_option maxHeartbeats 2000000 in
theorem readClosed_any (u : Value) (l : List Int) (w : World) (h : Rd w u l) :
    Calls Try.prog 46 #[u] w (WdOut w (selL (closedB l) l) (selI (closedB l) l) (closedB l)) := by
  have hrd := h.below (Below.alloc1 w (.cells (wdC [] zero12) 53))
  have hrw := readWord_any u l _ hrd
  have hz0 : WdIn (w.alloc (.cells (wdC [] zero12) 53)) w.heap.size [] zero12 := heap_alloc_new w _
  have B0 := Below.alloc1 w (.cells (wdC [] zero12) 53)
  rw [wdC_zero] at hrw hz0 B0
  unfold zero25 at hrw hz0 B0
  have HZ0 := Lib.hid hz0; have HB0 := Lib.hid B0
  have hz := zero12_length
  clear hz0 B0 hrd h
  cases hg : wordB l with
  | false =>
    rw [closed_nword hg, selL_no, selI_no]
    rw [hg, selL_no, selI_no] at hrw
    have HR := Lib.hid hrw
    clear hrw hg
    go_enter Try.func46, Try.ntmps46
    go_wp2_with fail
    refine HR.out.mono ?_
    rintro e w1 ⟨rfl, hb1⟩
    have HZ1 := Lib.hid (HZ0.out.below hb1); have HB1 := Lib.hid (Below.step HB0.out hb1)
    go_wp2_with (first
      | ((with_reducible refine wp_storeNewWd rfl (.tmp 4) (.tmp 9) rfl w1 [] zero12 (Nat.zero_le _) hz rfl rfl ?_); intro w2 hs2 hb2; have HZ2 := Lib.hid (HZ1.out.below hb2); have HB2 := Lib.hid (Below.step HB1.out hb2); clear hs2)
      | (refine wp_storeWd0 rfl (.tmp 2) (.tmp 19) rfl w.heap.size [] zero12 (Nat.zero_le _) hz rfl rfl HZ2.out ?_; intro w3 hs3 hg3))
    exact bodyPost_ret (results_rcw _ _ w.heap.size [] zero12 false (by simp) hz hs3 rfl rfl) rfl ⟨rfl, HB2.out.grown hg3 HB2.out.size (by intro k hk; simp at hk; omega)⟩
  | true =>
    have hl := word_len hg
    have hc := fun w => isClosed_any l w hl
    rw [← closed_word hg] at hc
    rw [hg, selL_yes, selI_yes] at hrw
    have HL := Lib.hid hl; have HI : Hid ((idxK l l.length).length = 12) := idxK_length l _
    have HR := Lib.hid hrw
    cases hcl : closedB l with
    | false =>
      rw [hcl] at hc
      have HC := Lib.hid hc
      rw [selL_no, selI_no]
      clear hrw hg hl hc hcl
      go_enter Try.func46, Try.ntmps46
      go_wp2_with fail
      refine HR.out.mono ?_
      rintro e w1 ⟨rfl, hb1⟩
      have HZ1 := Lib.hid (HZ0.out.below hb1); have HB1 := Lib.hid (Below.step HB0.out hb1)
      go_wp2_with (first
        | ((with_reducible refine wp_storeNewWd rfl (.tmp 4) (.tmp 9) rfl w1 l (idxK l l.length) HL.out HI.out rfl rfl ?_); intro w2 hs2 hb2; have HW2 := Lib.hid hs2; have HZ2 := Lib.hid (HZ1.out.below hb2); have HB2 := Lib.hid (Below.step HB1.out hb2); clear hs2)
        | (with_reducible refine wp_loadPtWG (.tmp 14) rfl w1.heap.size l (idxK l l.length) HL.out rfl HW2.out (by with_unfolding_all rfl) ?_)
        | (go_at_call 51; refine (HC.out _).mono ?_; rintro e w3 ⟨rfl, hb3⟩; have HZ3 := Lib.hid (HZ2.out.below hb3); have HB3 := Lib.hid (Below.step HB2.out hb3))
        | (refine wp_storeWd0 rfl (.tmp 2) (.tmp 19) rfl w.heap.size [] zero12 (Nat.zero_le _) hz rfl rfl HZ3.out ?_; intro w4 hs4 hg4))
      exact bodyPost_ret (results_rcw _ _ w.heap.size [] zero12 false (by simp) hz hs4 rfl rfl) rfl ⟨rfl, HB3.out.grown hg4 HB3.out.size (by intro k hk; simp at hk; omega)⟩
    | true =>
      rw [hcl] at hc
      have HC := Lib.hid hc
      rw [selL_yes, selI_yes]
      clear hrw hg hl hc hcl
      go_enter Try.func46, Try.ntmps46
      go_wp2_with fail
      refine HR.out.mono ?_
      rintro e w1 ⟨rfl, hb1⟩
      have HZ1 := Lib.hid (HZ0.out.below hb1); have HB1 := Lib.hid (Below.step HB0.out hb1)
      go_wp2_with (first
        | ((with_reducible refine wp_storeNewWd rfl (.tmp 4) (.tmp 9) rfl w1 l (idxK l l.length) HL.out HI.out rfl rfl ?_); intro w2 hs2 hb2; have HW2 := Lib.hid hs2; have HZ2 := Lib.hid (HZ1.out.below hb2); have HB2 := Lib.hid (Below.step HB1.out hb2); clear hs2)
        | (with_reducible refine wp_loadPtWG (.tmp 14) rfl w1.heap.size l (idxK l l.length) HL.out rfl HW2.out (by with_unfolding_all rfl) ?_)
        | (go_at_call 51; refine (HC.out _).mono ?_; rintro e w3 ⟨rfl, hb3⟩; have HW3 := Lib.hid (HW2.out.below hb3); have HZ3 := Lib.hid (HZ2.out.below hb3); have HB3 := Lib.hid (Below.step HB2.out hb3))
        | (with_reducible refine wp_loadWd rfl (.tmp 4) rfl w1.heap.size l (idxK l l.length) HL.out HI.out rfl HW3.out ?_)
        | (refine wp_storeWd rfl (.tmp 2) (.tmp 20) rfl w.heap.size l (idxK l l.length) [] zero12 HL.out HI.out (Nat.zero_le _) hz rfl rfl HZ3.out ?_; intro w4 hs4 hg4))
      exact bodyPost_ret (results_rcw _ _ w.heap.size l (idxK l l.length) true HL.out HI.out hs4 rfl rfl) rfl ⟨rfl, HB3.out.grown hg4 HB3.out.size (by intro k hk; simp at hk; omega)⟩

theorem closed_isword {l : List Int} (h : closedB l = true) : wordB l = true := by unfold closedB at h; simp only [Bool.and_eq_true] at h; exact open_word h.1



end Go.Proofs.Ytkohmdhjjnmfgab
