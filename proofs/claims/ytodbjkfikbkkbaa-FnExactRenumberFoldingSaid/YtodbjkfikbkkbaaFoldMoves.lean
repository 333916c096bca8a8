/- TurnFolding, ReverseFolding, RenumberFolding in the program. -/
import Derived.Test.YtodbjkfikbkkbaaMoved
import Derived.Test.YtodbjkfikbkkbaaSlice
namespace Go.Proofs.Ytodbjkfikbkkbaa
open Go.RowKit
set_option linter.unusedSimpArgs false
set_option linter.unusedVariables false

def turnF (l : List Int) (b : Int) : List Int := movedL (shiftTo b (l.length : Int)) l l.length
def revF (l : List Int) : List Int := movedL (fun i => (l.length : Int) - 1 - i) l l.length
theorem turnF_length (l : List Int) (b : Int) : (turnF l b).length = l.length := movedL_length _ _ _
theorem revF_length (l : List Int) : (revF l).length = l.length := movedL_length _ _ _
/-- renumbered so far -/
def renK (l : List Int) (k : Nat) : List Int := (l.take k).map (fun x => (l.length : Int) - 1 - x) ++ l.drop k
def renF (l : List Int) : List Int := l.map (fun x => (l.length : Int) - 1 - x)
theorem renK_length (l : List Int) (k : Nat) : (renK l k).length = l.length := by simp [renK]; omega
theorem renF_length (l : List Int) : (renF l).length = l.length := by simp [renF]
theorem renK_zero (l : List Int) : renK l 0 = l := by simp [renK]
theorem renK_all (l : List Int) : renK l l.length = renF l := by simp [renK, renF]
theorem renK_succ (l : List Int) (k : Nat) (hk : k < l.length) : renK l (k + 1) = (renK l k).set k ((l.length : Int) - 1 - l.getD k 0) := by
  unfold renK
  rw [List.take_succ_eq_append_getElem hk, List.drop_eq_getElem_cons hk, List.set_append_right _ _ (by simp; omega)]
  simp only [List.length_map, List.length_take, Nat.min_eq_left (Nat.le_of_lt hk), Nat.sub_self, List.set_cons_zero, List.map_append, List.map_cons, List.map_nil, List.append_assoc, List.singleton_append]
  rw [show l.getD k 0 = l[k] by simp [List.getD, hk]]

def ok_TurnFolding (l : List Int) (b : Int) : Bool := stackB l && inB b (-100) 100
def res_TurnFolding (l : List Int) (b : Int) : List Int := if stackB l && inB b (-100) 100 then turnF l b else []
def ok_ReverseFolding (l : List Int) : Bool := stackB l
def res_ReverseFolding (l : List Int) : List Int := if stackB l then revF l else []
def ok_RenumberFolding (l : List Int) : Bool := stackB l
def res_RenumberFolding (l : List Int) : List Int := if stackB l then renF l else []
theorem len_TurnFolding (l : List Int) (b : Int) : (res_TurnFolding l b).length ≤ 1000000 := by
  unfold res_TurnFolding
  split
  · next h => rw [turnF_length]; have := stack_len (by simp at h; exact h.1); omega
  · simp
theorem len_ReverseFolding (l : List Int) : (res_ReverseFolding l).length ≤ 1000000 := by
  unfold res_ReverseFolding
  split
  · next h => rw [revF_length]; have := stack_len h; omega
  · simp
theorem len_RenumberFolding (l : List Int) : (res_RenumberFolding l).length ≤ 1000000 := by
  unfold res_RenumberFolding
  split
  · next h => rw [renF_length]; have := stack_len h; omega
  · simp

theorem results_turned (tmps : Array Value) (w : World) (g : Nat) (l : List Int) (hl : l.length ≤ 8) (hg : StkIn w g l) (h : tmps.getD 4 undef = .pointer (some ⟨g, 0, none⟩)) :
    (results Try.f42 tmps).run Try.prog w = .ok (.agg (stkC l)) w := by
  have h' : tmps[4]?.getD undef = .pointer (some ⟨g, 0, none⟩) := by simpa using h
  have hr : Try.f42.results = #[.cell 4 46] := by kernel_rfl
  simp [results, hr, h', asAddr, run_loadStk w g l hl hg]

set_option maxHeartbeats 1000000 in
theorem turned_any (l : List Int) (b : Int) (w : World) (hs : stackB l = true) (hb0 : -100 ≤ b) (hb1 : b ≤ 100) :
    Calls Try.prog 42 #[.agg (stkC l), .int .i64 b] w (StkRet w (turnF l b)) := by
  have h8 := stack_len hs
  have hlast := stkC_last h8
  have h1 := (stack_facts hs).1
  have hm := Lib.hid (fun w => moved_shift (shiftTo b (l.length : Int)) (.agg #[.int .i64 b, .int .i64 (l.length : Int)]) l w h8 (fun i w i0 i1 => shift_place b (l.length : Int) i w hb0 hb1 (by omega) (by omega) i0 (by omega)) (fun k hk => shiftTo_in b _ k (by omega)))
  have HL8 : Hid ((turnF l b).length ≤ 8) := by show _ ≤ 8; rw [turnF_length]; exact h8
  have HS := Lib.hid (show StkIn ((w.alloc (.cells (stkC l) 46)).alloc (.cells #[.int .i64 0, .int .i64 0, .int .i64 0, .int .i64 0, .int .i64 0, .int .i64 0, .int .i64 0, .int .i64 0, .int .i64 0] 46)) w.heap.size l from StkIn.below (heap_alloc_new w _) (Below.alloc1 _ _))
  have hz := StkIn.zero (w.alloc (.cells (stkC l) 46))
  rw [World.size_alloc] at hz
  have HZ := Lib.hid hz
  have H8 := Lib.hid h8
  change Hid (∀ w, Calls _ _ _ w (StkRet w (turnF l b))) at hm
  obtain ⟨n, hn⟩ : ∃ n, n = l.length := ⟨_, rfl⟩
  rw [← hn] at hlast hm h8
  clear hn hz hs h1
  go_enter Try.func42, Try.ntmps42
  go_wp2_with (first
    | (with_reducible refine wp_loadStk rfl (.tmp 2) rfl w.heap.size l H8.out rfl HS.out ?_)
    | (go_at_call 59; ((with_reducible refine (hm.out _).mono ?_); rintro e w1 ⟨rfl, hb1⟩; have hz1 := HZ.out.below hb1))
    | ((with_reducible refine wp_storeStk rfl (.tmp 4) (.tmp 11) rfl (w.heap.size + 1) (turnF l b) [] HL8.out (Nat.zero_le _) rfl rfl hz1 ?_); intro w2 hs2 hg2))
  refine bodyPost_ret (results_turned _ _ (w.heap.size + 1) (turnF l b) HL8.out hs2 rfl) rfl ⟨rfl, ?_⟩
  have hs1 := hb1.size
  simp only [World.size_alloc] at hs1
  exact ((((Below.alloc1 w _).alloc (by simp) _).trans (hb1.mono (by simp; omega)))).grown hg2 (by omega) (by intro k hk; simp at hk; omega)

theorem results_reversed (tmps : Array Value) (w : World) (g : Nat) (l : List Int) (hl : l.length ≤ 8) (hg : StkIn w g l) (h : tmps.getD 2 undef = .pointer (some ⟨g, 0, none⟩)) :
    (results Try.f45 tmps).run Try.prog w = .ok (.agg (stkC l)) w := by
  have h' : tmps[2]?.getD undef = .pointer (some ⟨g, 0, none⟩) := by simpa using h
  have hr : Try.f45.results = #[.cell 2 46] := by kernel_rfl
  simp [results, hr, h', asAddr, run_loadStk w g l hl hg]

set_option maxHeartbeats 1000000 in
theorem reversed_any (l : List Int) (w : World) (hs : stackB l = true) :
    Calls Try.prog 45 #[.agg (stkC l)] w (StkRet w (revF l)) := by
  have h8 := stack_len hs
  have hlast := stkC_last h8
  have h1 := (stack_facts hs).1
  have hm := Lib.hid (fun w => moved_refl (fun i => (l.length : Int) - 1 - i) (.agg #[.int .i64 (l.length : Int)]) l w h8 (fun i w i0 i1 => refl_place (l.length : Int) i w (by omega) (by omega) i0 (by omega)) (fun k hk => ⟨by omega, by omega⟩))
  have HL8 : Hid ((revF l).length ≤ 8) := by show _ ≤ 8; rw [revF_length]; exact h8
  have HS := Lib.hid (show StkIn ((w.alloc (.cells (stkC l) 46)).alloc (.cells #[.int .i64 0, .int .i64 0, .int .i64 0, .int .i64 0, .int .i64 0, .int .i64 0, .int .i64 0, .int .i64 0, .int .i64 0] 46)) w.heap.size l from StkIn.below (heap_alloc_new w _) (Below.alloc1 _ _))
  have hz := StkIn.zero (w.alloc (.cells (stkC l) 46))
  rw [World.size_alloc] at hz
  have HZ := Lib.hid hz
  have H8 := Lib.hid h8
  change Hid (∀ w, Calls _ _ _ w (StkRet w (revF l))) at hm
  obtain ⟨n, hn⟩ : ∃ n, n = l.length := ⟨_, rfl⟩
  rw [← hn] at hlast hm h8
  clear hn hz hs h1
  go_enter Try.func45, Try.ntmps45
  go_wp2_with (first
    | (with_reducible refine wp_loadStk rfl (.tmp 1) rfl w.heap.size l H8.out rfl HS.out ?_)
    | (go_at_call 59; ((with_reducible refine (hm.out _).mono ?_); rintro e w1 ⟨rfl, hb1⟩; have hz1 := HZ.out.below hb1))
    | ((with_reducible refine wp_storeStk rfl (.tmp 2) (.tmp 8) rfl (w.heap.size + 1) (revF l) [] HL8.out (Nat.zero_le _) rfl rfl hz1 ?_); intro w2 hs2 hg2))
  refine bodyPost_ret (results_reversed _ _ (w.heap.size + 1) (revF l) HL8.out hs2 rfl) rfl ⟨rfl, ?_⟩
  have hs1 := hb1.size
  simp only [World.size_alloc] at hs1
  exact ((((Below.alloc1 w _).alloc (by simp) _).trans (hb1.mono (by simp; omega)))).grown hg2 (by omega) (by intro k hk; simp at hk; omega)

theorem results_renumbered (tmps : Array Value) (w : World) (g : Nat) (l : List Int) (hl : l.length ≤ 8) (hg : StkIn w g l) (h : tmps.getD 2 undef = .pointer (some ⟨g, 0, none⟩)) :
    (results Try.f46 tmps).run Try.prog w = .ok (.agg (stkC l)) w := by
  have h' : tmps[2]?.getD undef = .pointer (some ⟨g, 0, none⟩) := by simpa using h
  have hr : Try.f46.results = #[.cell 2 46] := by kernel_rfl
  simp [results, hr, h', asAddr, run_loadStk w g l hl hg]

set_option maxHeartbeats 2000000 in
theorem renumbered_any (l : List Int) (w : World) (hs : stackB l = true) :
    Calls Try.prog 46 #[.agg (stkC l)] w (StkRet w (renF l)) := by
  have h8 := stack_len hs
  have hlast := stkC_last h8
  have hr := (stack_facts hs).2.2.1
  have hall := renK_all l
  have hsucc := renK_succ l
  have hlen := renK_length l
  have hlenF := renF_length l
  have hpl := fun (i : Int) (w : World) (h0 : 0 ≤ i) (h1 : i < l.length) => refl_place (l.length : Int) i w (by omega) (by omega) h0 (by omega)
  obtain ⟨n, hn⟩ : ∃ n, n = l.length := ⟨_, rfl⟩
  rw [← hn] at hlast h8 hr hall hsucc hlen hlenF hpl
  have HB0 := Lib.hid (show StkIn ((w.alloc (.cells (stkC l) 46)).alloc (.cells #[.int .i64 0, .int .i64 0, .int .i64 0, .int .i64 0, .int .i64 0, .int .i64 0, .int .i64 0, .int .i64 0, .int .i64 0] 46)) w.heap.size l from StkIn.below (heap_alloc_new w _) (Below.alloc1 _ _))
  have hz0 := StkIn.zero (w.alloc (.cells (stkC l) 46))
  rw [World.size_alloc] at hz0
  have HZ := Lib.hid hz0
  have hz3 := StkIn.zero ((w.alloc (.cells (stkC l) 46)).alloc (.cells #[.int .i64 0, .int .i64 0, .int .i64 0, .int .i64 0, .int .i64 0, .int .i64 0, .int .i64 0, .int .i64 0, .int .i64 0] 46))
  simp only [World.size_alloc] at hz3
  have HZ3 := Lib.hid hz3
  have HN := Lib.hid hn; have HR := Lib.hid hr; have HA := Lib.hid hall; have HSU := Lib.hid hsucc; have HLE := Lib.hid hlen; have HLF := Lib.hid hlenF; have HP := Lib.hid hpl
  have H8 : Hid (l.length ≤ 8) := by rw [← HN.out]; exact h8
  have hal := fun b w => run_stamps b n w h8
  clear hn hr hall hsucc hlen hlenF hpl hs hz0 hz3
  go_enter Try.func46, Try.ntmps46
  go_wp2_with (first
    | (with_reducible refine wp_loadStk rfl (.tmp 1) rfl w.heap.size l H8.out rfl HB0.out ?_)
    | ((with_reducible refine wp_storeStk rfl (.tmp 3) (.tmp 6) rfl (w.heap.size + 1 + 1) l [] H8.out (Nat.zero_le _) rfl rfl HZ3.out ?_); intro w0 hs0 hg0; have hb0 := ((Below.refl (w.heap.size + 2) ((w.alloc (.cells (stkC l) 46)).alloc (.cells #[.int .i64 0, .int .i64 0, .int .i64 0, .int .i64 0, .int .i64 0, .int .i64 0, .int .i64 0, .int .i64 0, .int .i64 0] 46))).alloc (by simp) (.cells #[.int .i64 0, .int .i64 0, .int .i64 0, .int .i64 0, .int .i64 0, .int .i64 0, .int .i64 0, .int .i64 0, .int .i64 0] 46)).grown hg0 (by simp) (by intro k hk; simp at hk; omega); have c0 := (HB0.out.under hb0 (by omega)).size H8.out; rw [← HN.out] at c0))
  clear hal
  go_loopw [12] (fun i wr => ∃ k : Nat, k ≤ n ∧ i = .int .i64 k ∧ StkIn wr (w.heap.size + 2) (renK l k) ∧ StkIn wr w.heap.size l ∧ StkIn wr (w.heap.size + 1) [] ∧ Below w.heap.size w wr) (fun i _ => n - (intOf i).toNat)
  case atStart => exact ⟨0, by omega, rfl, by rw [renK_zero]; exact hs0, HB0.out.under hb0 (by omega), HZ.out.under hb0 (by omega), ((Below.alloc1 _ _).alloc (by simp) _).trans (hb0.mono (by omega))⟩
  case round =>
    obtain ⟨k, hk, rfl, hm, hbx, hz, hbel⟩ := hrel
    by_cases hlt : k < n
    · have hc := hbx.cell H8.out k (by omega)
      have hcs := hbx.size H8.out
      rw [← HN.out] at hcs
      have hx := HR.out k hlt
      have hp1 := fun w => HP.out (l.getD k 0) w hx.1 hx.2
      have hnext := HSU.out k hlt
      generalize l.getD k 0 = x at hc hnext hx hp1
      have HJ : Hid (k < (renK l k).length) := by show k < _; rw [HLE.out]; omega
      have HJ8 : Hid ((renK l k).length ≤ 8) := by show _ ≤ 8; rw [HLE.out]; omega
      have HP1 := Lib.hid hp1; have HNX := Lib.hid hnext
      have HM := Lib.hid hm; have HB := Lib.hid hbx; have HZZ := Lib.hid hz; have HBE := Lib.hid hbel
      clear hp1 hnext hm hbx hz hbel
      go_wp2_with (go_at_call 61; ((with_reducible refine (HP1.out _).mono ?_); rintro e w1 ⟨rfl, hb1⟩; have HB1 := Lib.hid hb1; have c1 := (HM.out.below hb1).cell HJ8.out k (by omega); have f1 := (HM.out.below hb1).free k; clear hb1))
      go_roundw
      case rel =>
        refine ⟨k + 1, by omega, by go_num, ?_, (HB.out.below HB1.out).other (by omega), (HZZ.out.below HB1.out).other (by omega), ?_⟩
        · rw [HNX.out]; exact (HM.out.below HB1.out).stored k _ HJ.out
        · have := HBE.out.size
          exact ((HBE.out.trans (HB1.out.mono this))).setCell (by show w.heap.size ≤ w.heap.size + 2; omega) _
      case measure => simp [intOf]; omega
    · obtain rfl : k = n := by omega
      rw [HA.out] at hm
      have HJ8 : Hid ((renF l).length ≤ 8) := by show _ ≤ 8; rw [HLF.out]; omega
      have hzlt := hz.lt
      go_wp2_with (first
        | (with_reducible refine wp_loadStk rfl (.tmp 3) rfl (w.heap.size + 2) (renF l) HJ8.out rfl hm ?_)
        | ((with_reducible refine wp_storeStk rfl (.tmp 2) (.tmp 26) rfl (w.heap.size + 1) (renF l) [] HJ8.out (Nat.zero_le _) rfl rfl hz ?_); intro w2 hs2 hg2))
      exact bodyPost_ret (results_renumbered _ _ (w.heap.size + 1) (renF l) HJ8.out hs2 rfl) rfl ⟨rfl, hbel.grown hg2 hbel.size (by intro k hk; simp at hk; omega)⟩

set_option maxHeartbeats 1000000 in
theorem change_reversed (l : List Int) (w : World) (u : Value) (h : Rd w u l) : Calls Try.prog 44 #[u, .func (.func 45) #[] #[]] w (Gives w (if stackB l then revF l else []) (stackB l)) := by
  cases hg : stackB l with
  | true =>
    have H8 := Lib.hid (stack_len hg)
    have HF := Lib.hid (fun w => reversed_any l w hg)
    have HG := Lib.hid hg; clear hg
    have HL : Hid ((revF l).length ≤ 8) := by show _ ≤ 8; rw [revF_length]; exact H8.out
    simp only [if_true]
    go_enter Try.func44, Try.ntmps44
    go_wp2_with fail
    refine (readStack_yes u l _ h HG.out).mono ?_
    rintro e w1 ⟨rfl, hb⟩
    go_wp2_with (first
      | ((with_reducible refine wp_storeNewStk rfl (.tmp 6) (.tmp 11) rfl _ l H8.out rfl rfl ?_); intro w2 hs2 hb2)
      | (with_reducible refine wp_loadStk rfl (.tmp 6) rfl w1.heap.size l H8.out rfl hs2 ?_)
      | (go_at_call 45; refine (HF.out _).mono ?_; rintro e w3 ⟨rfl, hb3⟩)
      | (go_at_call 43; refine (stkList_any _ _ HL.out).mono ?_; rintro e w4 ⟨v, rfl, hown, hb4⟩))
    go_ret2
    have C := Below.step (Below.step hb hb2) hb3
    exact ⟨_, rfl, hown.mono C.size, Below.step C hb4⟩
  | false =>
    have HG := Lib.hid hg; clear hg
    simp only [Bool.false_eq_true, if_false]
    go_enter Try.func44, Try.ntmps44
    go_wp2_with fail
    refine (readStack_no u l _ h HG.out).mono ?_
    rintro e w1 ⟨rfl, hb⟩
    go_wp2_with ((with_reducible refine wp_storeNewStk rfl (.tmp 6) (.tmp 11) rfl _ [] (Nat.zero_le _) rfl rfl ?_); intro w2 hs2 hb2)
    go_ret2
    exact ⟨_, rfl, Own.nil _ _, Below.step hb hb2⟩

set_option maxHeartbeats 1000000 in
theorem impl_ReverseFolding (l : List Int) (w : World) (u : Value) (h : Rd w u l) (m : l.length ≤ 1048576) : Calls Try.prog 25 #[u] w (Gives w (res_ReverseFolding l) (ok_ReverseFolding l)) := by
  unfold ok_ReverseFolding
  have hres : (if stackB l then revF l else []) = res_ReverseFolding l := rfl
  have HC := Lib.hid (change_reversed l w u h)
  rw [hres] at HC
  clear hres h
  go_enter Try.func25, Try.ntmps25
  go_wp2_with (go_at_call 44; refine HC.out.mono ?_; rintro e w1 ⟨v, rfl, hown, hb⟩)
  go_ret2
  exact ⟨_, rfl, hown, hb⟩

set_option maxHeartbeats 1000000 in
theorem change_renumbered (l : List Int) (w : World) (u : Value) (h : Rd w u l) : Calls Try.prog 44 #[u, .func (.func 46) #[] #[]] w (Gives w (if stackB l then renF l else []) (stackB l)) := by
  cases hg : stackB l with
  | true =>
    have H8 := Lib.hid (stack_len hg)
    have HF := Lib.hid (fun w => renumbered_any l w hg)
    have HG := Lib.hid hg; clear hg
    have HL : Hid ((renF l).length ≤ 8) := by show _ ≤ 8; rw [renF_length]; exact H8.out
    simp only [if_true]
    go_enter Try.func44, Try.ntmps44
    go_wp2_with fail
    refine (readStack_yes u l _ h HG.out).mono ?_
    rintro e w1 ⟨rfl, hb⟩
    go_wp2_with (first
      | ((with_reducible refine wp_storeNewStk rfl (.tmp 6) (.tmp 11) rfl _ l H8.out rfl rfl ?_); intro w2 hs2 hb2)
      | (with_reducible refine wp_loadStk rfl (.tmp 6) rfl w1.heap.size l H8.out rfl hs2 ?_)
      | (go_at_call 46; refine (HF.out _).mono ?_; rintro e w3 ⟨rfl, hb3⟩)
      | (go_at_call 43; refine (stkList_any _ _ HL.out).mono ?_; rintro e w4 ⟨v, rfl, hown, hb4⟩))
    go_ret2
    have C := Below.step (Below.step hb hb2) hb3
    exact ⟨_, rfl, hown.mono C.size, Below.step C hb4⟩
  | false =>
    have HG := Lib.hid hg; clear hg
    simp only [Bool.false_eq_true, if_false]
    go_enter Try.func44, Try.ntmps44
    go_wp2_with fail
    refine (readStack_no u l _ h HG.out).mono ?_
    rintro e w1 ⟨rfl, hb⟩
    go_wp2_with ((with_reducible refine wp_storeNewStk rfl (.tmp 6) (.tmp 11) rfl _ [] (Nat.zero_le _) rfl rfl ?_); intro w2 hs2 hb2)
    go_ret2
    exact ⟨_, rfl, Own.nil _ _, Below.step hb hb2⟩

set_option maxHeartbeats 1000000 in
theorem impl_RenumberFolding (l : List Int) (w : World) (u : Value) (h : Rd w u l) (m : l.length ≤ 1048576) : Calls Try.prog 27 #[u] w (Gives w (res_RenumberFolding l) (ok_RenumberFolding l)) := by
  unfold ok_RenumberFolding
  have hres : (if stackB l then renF l else []) = res_RenumberFolding l := rfl
  have HC := Lib.hid (change_renumbered l w u h)
  rw [hres] at HC
  clear hres h
  go_enter Try.func27, Try.ntmps27
  go_wp2_with (go_at_call 44; refine HC.out.mono ?_; rintro e w1 ⟨v, rfl, hown, hb⟩)
  go_ret2
  exact ⟨_, rfl, hown, hb⟩

set_option maxHeartbeats 1000000 in
theorem impl_TurnFolding (l : List Int) (b : Int) (w : World) (u : Value) (h : Rd w u l) (m : l.length ≤ 1048576) : Calls Try.prog 22 #[u, .int .i64 b] w (Gives w (res_TurnFolding l b) (ok_TurnFolding l b)) := by
  unfold res_TurnFolding ok_TurnFolding
  cases hg : stackB l with
  | true =>
    have H8 := Lib.hid (stack_len hg)
    by_cases hr : -100 ≤ b ∧ b ≤ 100
    · rw [inB_yes hr.1 hr.2]
      simp only [Bool.and_self, if_true]
      have HF := Lib.hid (fun w => turned_any l b w hg hr.1 hr.2)
      have HG := Lib.hid hg; clear hg
      have HL : Hid ((turnF l b).length ≤ 8) := by show _ ≤ 8; rw [turnF_length]; exact H8.out
      go_enter Try.func22, Try.ntmps22
      go_wp2_with fail
      refine (readStack_yes u l _ h HG.out).mono ?_
      rintro e w1 ⟨rfl, hb⟩
      go_wp2_with (first
        | ((with_reducible refine wp_storeNewStk rfl (.tmp 6) (.tmp 11) rfl _ l H8.out rfl rfl ?_); intro w2 hs2 hb2)
        | (with_reducible refine wp_loadStk rfl (.tmp 6) rfl w1.heap.size l H8.out rfl hs2 ?_)
        | (go_at_call 42; refine (HF.out _).mono ?_; rintro e w3 ⟨rfl, hb3⟩)
        | (go_at_call 43; refine (stkList_any _ _ HL.out).mono ?_; rintro e w4 ⟨v, rfl, hown, hb4⟩))
      go_ret2
      have C := Below.step (Below.step hb hb2) hb3
      exact ⟨_, rfl, hown.mono C.size, Below.step C hb4⟩
    · rw [inB_no hr]
      simp only [Bool.and_false]
      have HG := Lib.hid hg; clear hg
      have hr2 : b < -100 ∨ 100 < b := by omega
      clear hr
      rcases hr2 with hr2 | hr2
      all_goals
        go_enter Try.func22, Try.ntmps22
        go_wp2_with fail
        refine (readStack_yes u l _ h HG.out).mono ?_
        rintro e w1 ⟨rfl, hb⟩
        go_wp2_with ((with_reducible refine wp_storeNewStk rfl (.tmp 6) (.tmp 11) rfl _ l H8.out rfl rfl ?_); intro w2 hs2 hb2)
        go_ret2
        exact ⟨_, rfl, Own.nil _ _, Below.step hb hb2⟩
  | false =>
    simp only [Bool.false_and]
    have HG := Lib.hid hg; clear hg
    go_enter Try.func22, Try.ntmps22
    go_wp2_with fail
    refine (readStack_no u l _ h HG.out).mono ?_
    rintro e w1 ⟨rfl, hb⟩
    go_wp2_with ((with_reducible refine wp_storeNewStk rfl (.tmp 6) (.tmp 11) rfl _ [] (Nat.zero_le _) rfl rfl ?_); intro w2 hs2 hb2)
    go_ret2
    exact ⟨_, rfl, Own.nil _ _, Below.step hb hb2⟩

end Go.Proofs.Ytodbjkfikbkkbaa
