/- readClosedWord, and PositionsOf in both. -/
import Derived.Test.YtkohmdhjjnmfgaaWdImpl
import Derived.Test.YtkohmdhjjnmfgaaWdInvS
namespace Go.Proofs.Ytkohmdhjjnmfgaa
open Go.RowKit
set_option linter.unusedSimpArgs false
set_option linter.unusedVariables false

theorem results_rcw (tmps : Array Value) (w : World) (g : Nat) (p b : List Int) (ok : Bool) (hl : p.length ≤ 12) (hb : b.length = 12) (hg : WdIn w g p b) (h2 : tmps.getD 2 undef = .pointer (some ⟨g, 0, none⟩)) (h3 : tmps.getD 3 undef = .bool ok) :
    (results Try.f41 tmps).run Try.prog w = .ok (.tuple #[.agg (wdC p b), .bool ok]) w := by
  have h2' : tmps[2]?.getD undef = .pointer (some ⟨g, 0, none⟩) := by simpa using h2
  have h3' : tmps[3]?.getD undef = .bool ok := by simpa using h3
  have hr : Try.f41.results = #[.cell 2 38, .tmp 3] := by kernel_rfl
  simp [results, hr, h2', h3', asAddr, run_loadWd w g p b hl hb hg]

set_option maxHeartbeats 2000000 in
theorem readClosed_any (u : Value) (l : List Int) (w : World) (h : Rd w u l) :
    Calls Try.prog 41 #[u] w (WdOut w (selL (closedB l) l) (selI (closedB l) l) (closedB l)) := by
  have hrd := h.below (Below.alloc1 w (.cells (wdC [] zero12) 38))
  have hrw := readWord_any u l _ hrd
  have hz0 : WdIn (w.alloc (.cells (wdC [] zero12) 38)) w.heap.size [] zero12 := heap_alloc_new w _
  have B0 := Below.alloc1 w (.cells (wdC [] zero12) 38)
  rw [wdC_zero] at hrw hz0 B0
  unfold zero25 at hrw hz0 B0
  have HZ0 := Lib.hid hz0; have HB0 := Lib.hid B0
  have hz := zero12_length
  clear hz0 B0 hrd h
  cases hg : wordB l with
  | false =>
    rw [closed_nword hg, selL_no, selI_no]
    rw [hg, selL_no, selI_no] at hrw
    have HR := Lib.hid hrw
    clear hrw hg
    go_enter Try.func41, Try.ntmps41
    go_wp2_with fail
    refine HR.out.mono ?_
    rintro e w1 ⟨rfl, hb1⟩
    have HZ1 := Lib.hid (HZ0.out.below hb1); have HB1 := Lib.hid (Below.step HB0.out hb1)
    go_wp2_with (first
      | ((with_reducible refine wp_storeNewWd rfl (.tmp 4) (.tmp 9) rfl w1 [] zero12 (Nat.zero_le _) hz rfl rfl ?_); intro w2 hs2 hb2; have HZ2 := Lib.hid (HZ1.out.below hb2); have HB2 := Lib.hid (Below.step HB1.out hb2); clear hs2)
      | (refine wp_storeWd0 rfl (.tmp 2) (.tmp 19) rfl w.heap.size [] zero12 (Nat.zero_le _) hz rfl rfl HZ2.out ?_; intro w3 hs3 hg3))
    exact bodyPost_ret (results_rcw _ _ w.heap.size [] zero12 false (by simp) hz hs3 rfl rfl) rfl ⟨rfl, HB2.out.grown hg3 HB2.out.size (by intro k hk; simp at hk; omega)⟩
  | true =>
    have hl := word_len hg
    have hc := fun w => isClosed_any l w hl
    rw [← closed_word hg] at hc
    rw [hg, selL_yes, selI_yes] at hrw
    have HL := Lib.hid hl; have HI : Hid ((idxK l l.length).length = 12) := idxK_length l _
    have HR := Lib.hid hrw
    cases hcl : closedB l with
    | false =>
      rw [hcl] at hc
      have HC := Lib.hid hc
      rw [selL_no, selI_no]
      clear hrw hg hl hc hcl
      go_enter Try.func41, Try.ntmps41
      go_wp2_with fail
      refine HR.out.mono ?_
      rintro e w1 ⟨rfl, hb1⟩
      have HZ1 := Lib.hid (HZ0.out.below hb1); have HB1 := Lib.hid (Below.step HB0.out hb1)
      go_wp2_with (first
        | ((with_reducible refine wp_storeNewWd rfl (.tmp 4) (.tmp 9) rfl w1 l (idxK l l.length) HL.out HI.out rfl rfl ?_); intro w2 hs2 hb2; have HW2 := Lib.hid hs2; have HZ2 := Lib.hid (HZ1.out.below hb2); have HB2 := Lib.hid (Below.step HB1.out hb2); clear hs2)
        | (with_reducible refine wp_loadPtWG (.tmp 14) rfl w1.heap.size l (idxK l l.length) HL.out rfl HW2.out (by with_unfolding_all rfl) ?_)
        | (go_at_call 30; refine (HC.out _).mono ?_; rintro e w3 ⟨rfl, hb3⟩; have HZ3 := Lib.hid (HZ2.out.below hb3); have HB3 := Lib.hid (Below.step HB2.out hb3))
        | (refine wp_storeWd0 rfl (.tmp 2) (.tmp 19) rfl w.heap.size [] zero12 (Nat.zero_le _) hz rfl rfl HZ3.out ?_; intro w4 hs4 hg4))
      exact bodyPost_ret (results_rcw _ _ w.heap.size [] zero12 false (by simp) hz hs4 rfl rfl) rfl ⟨rfl, HB3.out.grown hg4 HB3.out.size (by intro k hk; simp at hk; omega)⟩
    | true =>
      rw [hcl] at hc
      have HC := Lib.hid hc
      rw [selL_yes, selI_yes]
      clear hrw hg hl hc hcl
      go_enter Try.func41, Try.ntmps41
      go_wp2_with fail
      refine HR.out.mono ?_
      rintro e w1 ⟨rfl, hb1⟩
      have HZ1 := Lib.hid (HZ0.out.below hb1); have HB1 := Lib.hid (Below.step HB0.out hb1)
      go_wp2_with (first
        | ((with_reducible refine wp_storeNewWd rfl (.tmp 4) (.tmp 9) rfl w1 l (idxK l l.length) HL.out HI.out rfl rfl ?_); intro w2 hs2 hb2; have HW2 := Lib.hid hs2; have HZ2 := Lib.hid (HZ1.out.below hb2); have HB2 := Lib.hid (Below.step HB1.out hb2); clear hs2)
        | (with_reducible refine wp_loadPtWG (.tmp 14) rfl w1.heap.size l (idxK l l.length) HL.out rfl HW2.out (by with_unfolding_all rfl) ?_)
        | (go_at_call 30; refine (HC.out _).mono ?_; rintro e w3 ⟨rfl, hb3⟩; have HW3 := Lib.hid (HW2.out.below hb3); have HZ3 := Lib.hid (HZ2.out.below hb3); have HB3 := Lib.hid (Below.step HB2.out hb3))
        | (with_reducible refine wp_loadWd rfl (.tmp 4) rfl w1.heap.size l (idxK l l.length) HL.out HI.out rfl HW3.out ?_)
        | (refine wp_storeWd rfl (.tmp 2) (.tmp 20) rfl w.heap.size l (idxK l l.length) [] zero12 HL.out HI.out (Nat.zero_le _) hz rfl rfl HZ3.out ?_; intro w4 hs4 hg4))
      exact bodyPost_ret (results_rcw _ _ w.heap.size l (idxK l l.length) true HL.out HI.out hs4 rfl rfl) rfl ⟨rfl, HB3.out.grown hg4 HB3.out.size (by intro k hk; simp at hk; omega)⟩

theorem closed_isword {l : List Int} (h : closedB l = true) : wordB l = true := by unfold closedB at h; simp only [Bool.and_eq_true] at h; exact open_word h.1

def ok_PositionsOf (l : List Int) : Bool := closedB l
def res_PositionsOf (l : List Int) : List Int := if closedB l then tellL l.length fun k => (idxW l).getD k 0 % 2 else []
theorem len_PositionsOf (l : List Int) : (res_PositionsOf l).length ≤ 1000000 := by
  unfold res_PositionsOf
  split
  · next h => rw [tellL_length]; have := closed_len h; omega
  · simp
set_option maxHeartbeats 2000000 in
theorem impl_PositionsOf (l : List Int) (w : World) (u : Value) (h : Rd w u l) (m : l.length ≤ 1048576) : Calls Try.prog 27 #[u] w (Gives w (res_PositionsOf l) (ok_PositionsOf l)) := by
  have hrw := readClosed_any u l w h
  have hp : (selL (closedB l) l).length ≤ 12 := by cases e : closedB l with | true => exact closed_len e | false => exact Nat.zero_le _
  have hb : (selI (closedB l) l).length = 12 := by cases e : closedB l with | true => exact idxW_length l | false => exact zero12_length
  have hpar : ∀ k, k < (selL (closedB l) l).length → ∃ i : Nat, (selI (closedB l) l).getD k 0 = (i : Int) := by
    intro k hk
    cases e : closedB l with
    | true =>
      rw [e, selL_yes] at hk
      obtain ⟨i, _, _, hi⟩ := word_has (closed_isword e) hk
      exact ⟨i, hi⟩
    | false => rw [e, selL_no] at hk; simp at hk
  have hres : res_PositionsOf l = tellL (selL (closedB l) l).length fun k => (selI (closedB l) l).getD k 0 % 2 := by
    unfold res_PositionsOf
    cases e : closedB l with
    | true => rfl
    | false => rfl
  rw [hres]
  unfold ok_PositionsOf
  generalize selL (closedB l) l = p at *
  generalize selI (closedB l) l = b at *
  generalize closedB l = R at *
  have hrow := fun w => row_par p (fun k => b.getD k 0 % 2) (.agg (wdC p b)) w hp (fun k w hk => by
    obtain ⟨i, hi⟩ := hpar k hk
    have := parity_any p b k i w hp hb (by omega) hi
    rw [hi]
    exact this)
  have HR := Lib.hid hrw; have HP := Lib.hid hp; have HB := Lib.hid hb; have HROW := Lib.hid hrow
  generalize (tellL p.length fun k => b.getD k 0 % 2) = out at HROW ⊢
  clear hrw hp hb hrow hres hpar
  go_enter Try.func27, Try.ntmps27
  go_wp2_with fail
  refine HR.out.mono ?_
  rintro e w1 ⟨rfl, hb1⟩
  go_wp2_with (first
      | ((with_reducible refine wp_storeNewWd rfl (.tmp 4) (.tmp 9) rfl w1 p b HP.out HB.out rfl rfl ?_); intro w2 hs2 hb2; have HW2 := Lib.hid hs2; have HB2 := Lib.hid (Below.step hb1 hb2); clear hs2)
      | (with_reducible refine wp_loadPtW rfl (.tmp 11) rfl w1.heap.size p b HP.out rfl HW2.out ?_)
      | (with_reducible refine wp_loadWd rfl (.tmp 4) rfl w1.heap.size p b HP.out HB.out rfl HW2.out ?_)
      | (go_at_call 37; refine (HROW.out _).mono ?_; rintro e w3 ⟨v3, rfl, hown, hb3⟩))
  go_ret2
  exact ⟨_, rfl, hown.mono HB2.out.size, Below.step HB2.out hb3⟩

theorem putK_par {l : List Int} (h : closedB l = true) : putK l (fun i => ((i % 2 : Nat) : Int)) l.length l.length = res_PositionsOf l := by
  unfold res_PositionsOf
  rw [if_pos h]
  exact putK_tell (closed_isword h) _ _ fun i hi => by
    have := word_idx (closed_isword h) hi
    unfold idxW
    rw [this]
    rfl

set_option maxHeartbeats 2000000 in
theorem spec_PositionsOf (l : List Int) (w : World) (u : Value) (h : Rd w u l) (m : l.length ≤ 1048576) : Calls Try.prog 26 #[u] w (Gives w (res_PositionsOf l) (ok_PositionsOf l)) := by
  have hpw := fun w h => peClosed_any u l w h m
  unfold ok_PositionsOf
  cases hg : closedB l with
  | false =>
    have hr : res_PositionsOf l = [] := by unfold res_PositionsOf; rw [hg]; rfl
    rw [hr]
    rw [hg] at hpw
    have HPW := Lib.hid hpw; have H := Lib.hid h
    clear hpw hg hr
    go_enter Try.func26, Try.ntmps26
    go_wp2_with (go_at_call 28; refine (HPW.out _ H.out).mono ?_; rintro e w1 ⟨rfl, hb1⟩)
    go_ret2
    exact ⟨_, rfl, Own.nil _ _, hb1⟩
  | true =>
    rw [← putK_par hg]
    rw [hg] at hpw
    obtain ⟨h12, hin, _⟩ := word_facts (closed_isword hg)
    have h0 := h
    obtain ⟨a, c, rfl, hlc, hcm, hnc, hrd⟩ := h
    obtain ⟨n, hn⟩ : ∃ n, n = l.length := ⟨_, rfl⟩
    rw [← hn] at hlc h12 h0 hrd hpw ⊢
    unfold maxLen at hcm
    have HPW := Lib.hid hpw; have H0 := Lib.hid h0; have HN := Lib.hid hn; have HIN := Lib.hid hin; have HC := Lib.hid hrd
    clear hpw h0 hg hn hin hrd hnc
    go_enter Try.func26, Try.ntmps26
    go_wp2_with (first
      | (go_at_call 28; refine (HPW.out _ H0.out).mono ?_; rintro e w1 ⟨rfl, hb1⟩; have HB1 := Lib.hid hb1)
      | (at_make; refine wp_make w1 rfl _ _ rfl n _ _ rfl rfl rfl rfl (by omega) ?_; intro w2 hown hbel hsz; have HO := Lib.hid hown; have HB := Lib.hid (Below.step HB1.out hbel); clear hown hbel hsz))
    go_loopw [15] (fun i wr => ∃ k : Nat, k ≤ n ∧ i = .int .i64 k ∧ Own w1.heap.size wr (.slice (some ⟨w1.heap.size, 0, none⟩) n n) (putK l (fun i => ((i % 2 : Nat) : Int)) n k) ∧ Below w.heap.size w wr) (fun i _ => n - (intOf i).toNat)
    case atStart => exact ⟨0, by omega, rfl, HO.out, HB.out⟩
    case round =>
      obtain ⟨k, hk, rfl, hown, hbel⟩ := hrel
      clear HO HB
      have hs1 := HB1.out.size
      by_cases hlt : k < n
      · rcases HC.out with h0 | ⟨bb, off, rfl, hcell⟩
        · exfalso; rw [HN.out, h0] at hlt; simp at hlt
        have hsrc : wr.cell? ⟨bb, off + k, none⟩ = some (.int .i64 (l.getD k 0)) := by
          have := hcell k hlt
          exact (hbel.cell (p := ⟨bb, off + k, none⟩) (World.block_lt_of_cell? w _ this)).trans this
        have hx := HIN.out k (by rw [← HN.out]; exact hlt)
        rw [← HN.out] at hx
        have hL := putK_length l (fun i => ((i % 2 : Nat) : Int)) n k
        have hnext : putK l (fun i => ((i % 2 : Nat) : Int)) n (k + 1) = (putK l (fun i => ((i % 2 : Nat) : Int)) n k).set (l.getD k 0).toNat ((k % 2 : Nat) : Int) := rfl
        obtain ⟨j, hj⟩ := Int.eq_ofNat_of_zero_le hx.1
        rw [hj] at hsrc hnext hx
        rw [Int.toNat_natCast] at hnext
        have hjn : j < n := by omega
        have hdst := hown.cellAt j (by rw [hL]; exact hjn)
        have hfr := hown.frozenAt j
        have e2 : ((k % 2 : Nat) : Int) = (k : Int) % 2 := by omega
        rw [e2] at hnext
        have hnew := hown.stored j ((k : Int) % 2)
        rw [← hnext] at hnew
        have HW := Lib.hid hnew
        have HB := Lib.hid (hbel.setCell (p := ⟨w1.heap.size, j, none⟩) hs1 (.int .i64 ((k : Int) % 2)))
        clear hnew hown hbel hcell hL hnext hj e2
        generalize (putK l (fun i => ((i % 2 : Nat) : Int)) n k).getD j 0 = z at hdst
        go_wp2
        go_roundw
        case rel => exact ⟨k + 1, by omega, by go_num, HW.out, HB.out⟩
        case measure => simp [intOf]; omega
      · obtain rfl : k = n := by omega
        go_wp2
        go_ret2
        exact ⟨_, rfl, hown.mono hs1, hbel⟩

end Go.Proofs.Ytkohmdhjjnmfgaa
