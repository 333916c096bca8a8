/- readSystem. -/
import Derived.Test.YtogjclmmjdhfeacSys
namespace Go.Proofs.Ytogjclmmjdhfeac
open Go.RowKit
set_option linter.unusedSimpArgs false
set_option linter.unusedVariables false

/-- readSystem gives the system, or the empty one and no -/
def ReadOut (w : World) (l : List Int) (b : Bool) (e : Ending) (w' : World) : Prop := e = .returned (.tuple #[.agg (sysC l), .bool b]) ∧ Below w.heap.size w w'


theorem run_loadSys (w : World) (g : Nat) (l : List Int) (hl : l.length ≤ 12) (hg : SysIn w g l) : (loadVar 56 ⟨g, 0, none⟩).run Try.prog w = .ok (.agg (sysC l)) w :=
  run_loadVar_row w g _ _ (sysC l) _ _ hg Try.underlying56 rfl (by rw [sys_info, sysC_size hl])

theorem results_read (tmps : Array Value) (w : World) (g : Nat) (l : List Int) (b : Bool) (hl : l.length ≤ 12) (hg : SysIn w g l) (h2 : tmps.getD 2 undef = .pointer (some ⟨g, 0, none⟩)) (h3 : tmps.getD 3 undef = .bool b) :
    (results Try.f49 tmps).run Try.prog w = .ok (.tuple #[.agg (sysC l), .bool b]) w := by
  have h2' : tmps[2]?.getD undef = .pointer (some ⟨g, 0, none⟩) := by simpa using h2
  have h3' : tmps[3]?.getD undef = .bool b := by simpa using h3
  have hr : Try.f49.results = #[.cell 2 56, .tmp 3] := by kernel_rfl
  simp [results, hr, h2', h3', asAddr, run_loadSys w g l hl hg]

set_option maxHeartbeats 1000000 in
theorem readSystem_len (v : Value) (l : List Int) (w : World) (h : Rd w v l) (hc : l.length % 2 = 1 ∨ 12 < l.length) :
    Calls Try.prog 49 #[v] w (ReadOut w [] false) := by
  obtain ⟨a, c, rfl, hlc, hcm, hnc, hrd⟩ := h
  obtain ⟨n, hn⟩ : ∃ n, n = l.length := ⟨_, rfl⟩
  rw [← hn] at hlc hc ⊢
  unfold maxLen at hcm
  clear hrd hn hnc
  by_cases h1 : n % 2 = 1
  · have h2 : (n : Int) % 2 = 1 := by omega
    have h3 : ((n : Int) % 2 != 0) = true := by simp; omega
    clear hc h1
    go_enter Try.func49, Try.ntmps49
    go_wp2
    refine bodyPost_ret (results_read _ _ w.heap.size [] false (by simp) ?_ rfl rfl) rfl ⟨rfl, Below.alloc1 _ _⟩
    exact heap_alloc_new w _
  · have h2 : (n : Int) % 2 = 0 := by omega
    have h3 : ((n : Int) % 2 != 0) = false := by simp; omega
    have h4 : 12 < n := by omega
    clear hc h1
    go_enter Try.func49, Try.ntmps49
    go_wp2
    refine bodyPost_ret (results_read _ _ w.heap.size [] false (by simp) ?_ rfl rfl) rfl ⟨rfl, Below.alloc1 _ _⟩
    exact heap_alloc_new w _


/-- the array filled from the list -/
theorem splice_sys (l : List Int) (hl : l.length ≤ 12) (n : Nat) (hn : n = l.length) : splice [.int .i64 0, .int .i64 0, .int .i64 0, .int .i64 0, .int .i64 0, .int .i64 0, .int .i64 0, .int .i64 0, .int .i64 0, .int .i64 0, .int .i64 0, .int .i64 0, .int .i64 (n : Int)] 0 (ints l) = sysL l := by
  subst hn
  show splice (ints (List.replicate 12 0) ++ [.int .i64 (l.length : Int)]) 0 (ints l) = sysL l
  unfold splice sysL ints
  have e : List.replicate 12 (0 : Int) = List.replicate l.length 0 ++ List.replicate (12 - l.length) 0 := by
    rw [List.replicate_append_replicate]; congr 1; omega
  rw [e, List.map_append, List.map_append, List.map_replicate, List.append_assoc, List.length_map, Nat.zero_add, List.drop_left' (by simp)]
  simp

theorem cell_two {w : World} {a : Addr} {v : Value} (A B : Obj) (h : w.cell? a = some v) : ((w.alloc A).alloc B).cell? a = some v := by
  have hb : Below w.heap.size w ((w.alloc A).alloc B) := (Below.alloc1 w A).alloc (by simp) _
  exact (hb.cell (World.block_lt_of_cell? w _ h)).trans h

theorem sys0_of {w w1 : World} (h : Below (w.heap.size + 1) (w.alloc (.cells #[.int .i64 0, .int .i64 0, .int .i64 0, .int .i64 0, .int .i64 0, .int .i64 0, .int .i64 0, .int .i64 0, .int .i64 0, .int .i64 0, .int .i64 0, .int .i64 0, .int .i64 0] 56)) w1) : SysIn w1 w.heap.size [] :=
  SysIn.under (show SysIn (w.alloc (.cells (sysC []) 56)) w.heap.size [] from heap_alloc_new w _) h (Nat.lt_succ_self _)

theorem below_two (w : World) (A B : Obj) : Below (w.heap.size + 1) (w.alloc A) ((w.alloc A).alloc B) := (Below.refl _ _).alloc (by simp) _

theorem read_below {w w1 w2 w3 : World} {A : Obj} (h1 : Below (w.heap.size + 1) (w.alloc A) w1) (h2 : Below w1.heap.size w1 w2) (h3 : w2.grownBy w3 (some w.heap.size)) : Below w.heap.size w w3 := by
  have hs : w.heap.size ≤ w1.heap.size := by have := h1.size; simp at this; omega
  exact (((Below.alloc1 w A).trans (h1.mono (Nat.le_succ _))).trans (h2.mono hs)).grown h3 (by have := h2.size; omega) (by intro k hk; simp at hk; omega)

set_option maxHeartbeats 1000000 in
theorem readSystem_run1 (v : Value) (l : List Int) (w : World) (h : Rd w v l) (hev : l.length % 2 = 0) (h12 : l.length ≤ 12) (hp : pairedB l = false) :
    Calls Try.prog 49 #[v] w (ReadOut w [] false) := by
  have hpair := fun w => isPaired_any l _ w h12 hp
  have hcross : True := trivial
  obtain ⟨a, c, rfl, hlc, hcm, hnc, hrd⟩ := h
  have hsz := sysC_size h12
  have hsl := sysL_length h12
  have hone : (sysC l).all (·.oneCell') = true := by
    rw [Array.all_eq_true_iff_forall_mem]
    intro x hx
    simp only [sysC, sysL, ints, List.mem_toArray, List.mem_append, List.mem_map, List.mem_singleton] at hx
    rcases hx with ⟨y, _, rfl⟩ | rfl <;> rfl
  have hsrc : 0 < (ints l).length → ∃ ad, a = some ad ∧ ∀ j v, (ints l)[j]? = some v → w.cell? (ad.add j) = some v := by
    intro hpos
    rcases hrd with rfl | ⟨b, off, rfl, hcell⟩
    · simp [ints] at hpos
    · refine ⟨_, rfl, fun j v hj => ?_⟩
      have hjl : j < l.length := by
        have := (List.getElem?_eq_some_iff.1 hj).1
        simpa [ints] using this
      rw [Addr.add_lit, hcell j hjl]
      simp [ints, List.getElem?_eq_getElem hjl] at hj
      simp [List.getD, List.getElem?_eq_getElem hjl, hj]
  obtain ⟨n, hn⟩ : ∃ n, n = l.length := ⟨_, rfl⟩
  have hspl := splice_sys l h12 n hn
  have hlen : (ints l).length = Nat.min n 12 := by rw [ints_length, ← hn]; exact (Nat.min_eq_left (by omega)).symm
  rw [← hn] at hlc h12 hev ⊢
  unfold maxLen at hcm
  have HN := Lib.hid hn; clear hn hrd
  have HP := Lib.hid hpair; clear hpair hp
  have HX := Lib.hid hcross; clear hcross
  have HS := Lib.hid hspl; clear hspl
  have HZ := Lib.hid hsz; clear hsz
  have HL := Lib.hid hlen; clear hlen
  have HN12 : Hid (l.length ≤ 12) := by rw [← HN.out]; exact h12
  have HL12 : Hid ((ints l).length ≤ 12) := by rw [ints_length, ← HN.out]; exact h12
  have HO := Lib.hid hone; clear hone
  have HSRC := Lib.hid hsrc; clear hsrc
  have h2 : (n : Int) % 2 = 0 := by omega
  have h3 : ((n : Int) % 2 != 0) = false := by simp; omega
  have hall := run_mates_all
  clear hev
  go_enter Try.func49, Try.ntmps49
  go_wp2_with (first
    | ((with_reducible refine wpList_copy_splice rfl (.tmp 19) (.tmp 20) 24 24 rfl 3 Try.underlying24 infoInt1 _ _ _ _ _ _ rfl rfl (w.heap.size + 1) 0 [.int .i64 0, .int .i64 0, .int .i64 0, .int .i64 0, .int .i64 0, .int .i64 0, .int .i64 0, .int .i64 0, .int .i64 0, .int .i64 0, .int .i64 0, .int .i64 0, .int .i64 (n : Int)] 56 (heap_alloc2_new w _ _) (ints l) HL.out (fun hp => ⟨rfl, (HSRC.out hp).imp fun ad h => ⟨h.1, fun j v hj => cell_two _ _ (h.2 j v hj)⟩⟩) (by have := HL12.out; simp only [List.length_cons, List.length_nil]; omega) (ints_one _) (w.heap.size + 1) _ (below_two w _ _) (Nat.le_refl _) ?_); (intro w1 hcp hbel1; have hsys1 : SysIn w1 (w.heap.size + 1) l := (by unfold SysIn sysC; rw [← HS.out]; exact hcp.out); have hsys0 : SysIn w1 w.heap.size [] := sys0_of hbel1))
    | (with_reducible refine wp_loadSys rfl (.tmp 4) rfl (w.heap.size + 1) l HN12.out rfl (by assumption) ?_)
    | (with_reducible refine wp_loadSysG (.tmp 4) rfl (w.heap.size + 1) l HN12.out rfl (by assumption) (by with_unfolding_all rfl) ?_)
    | (go_at_call 87; refine (HP.out _).mono ?_; rintro e w2 ⟨rfl, hbel2⟩; have hsys2 := SysIn.below hsys1 hbel2; have hsys02 := SysIn.below hsys0 hbel2)
    | ((with_reducible refine wp_storeSys0 rfl (.tmp 2) (.tmp 29) rfl w.heap.size [] (Nat.zero_le _) rfl rfl (by assumption) ?_); intro w3 hs3 hg3))
  exact bodyPost_ret (results_read _ _ w.heap.size [] false (Nat.zero_le _) hs3 rfl rfl) rfl ⟨rfl, read_below hbel1 hbel2 hg3⟩

set_option maxHeartbeats 1000000 in
theorem readSystem_run2 (v : Value) (l : List Int) (w : World) (h : Rd w v l) (hev : l.length % 2 = 0) (h12 : l.length ≤ 12) (hp : pairedB l = true) (hx : noCrossB l = false) :
    Calls Try.prog 49 #[v] w (ReadOut w [] false) := by
  have hpair := fun w => isPaired_any l _ w h12 hp
  have hcross := fun w => crosses_any l false w h12 ((pairedB_iff l).1 hp).1 hx
  clear hx
  obtain ⟨a, c, rfl, hlc, hcm, hnc, hrd⟩ := h
  have hsz := sysC_size h12
  have hsl := sysL_length h12
  have hone : (sysC l).all (·.oneCell') = true := by
    rw [Array.all_eq_true_iff_forall_mem]
    intro x hx
    simp only [sysC, sysL, ints, List.mem_toArray, List.mem_append, List.mem_map, List.mem_singleton] at hx
    rcases hx with ⟨y, _, rfl⟩ | rfl <;> rfl
  have hsrc : 0 < (ints l).length → ∃ ad, a = some ad ∧ ∀ j v, (ints l)[j]? = some v → w.cell? (ad.add j) = some v := by
    intro hpos
    rcases hrd with rfl | ⟨b, off, rfl, hcell⟩
    · simp [ints] at hpos
    · refine ⟨_, rfl, fun j v hj => ?_⟩
      have hjl : j < l.length := by
        have := (List.getElem?_eq_some_iff.1 hj).1
        simpa [ints] using this
      rw [Addr.add_lit, hcell j hjl]
      simp [ints, List.getElem?_eq_getElem hjl] at hj
      simp [List.getD, List.getElem?_eq_getElem hjl, hj]
  obtain ⟨n, hn⟩ : ∃ n, n = l.length := ⟨_, rfl⟩
  have hspl := splice_sys l h12 n hn
  have hlen : (ints l).length = Nat.min n 12 := by rw [ints_length, ← hn]; exact (Nat.min_eq_left (by omega)).symm
  rw [← hn] at hlc h12 hev ⊢
  unfold maxLen at hcm
  have HN := Lib.hid hn; clear hn hrd
  have HP := Lib.hid hpair; clear hpair hp
  have HX := Lib.hid hcross; clear hcross
  have HS := Lib.hid hspl; clear hspl
  have HZ := Lib.hid hsz; clear hsz
  have HL := Lib.hid hlen; clear hlen
  have HN12 : Hid (l.length ≤ 12) := by rw [← HN.out]; exact h12
  have HL12 : Hid ((ints l).length ≤ 12) := by rw [ints_length, ← HN.out]; exact h12
  have HO := Lib.hid hone; clear hone
  have HSRC := Lib.hid hsrc; clear hsrc
  have h2 : (n : Int) % 2 = 0 := by omega
  have h3 : ((n : Int) % 2 != 0) = false := by simp; omega
  have hall := run_mates_all
  clear hev
  go_enter Try.func49, Try.ntmps49
  go_wp2_with (first
    | ((with_reducible refine wpList_copy_splice rfl (.tmp 19) (.tmp 20) 24 24 rfl 3 Try.underlying24 infoInt1 _ _ _ _ _ _ rfl rfl (w.heap.size + 1) 0 [.int .i64 0, .int .i64 0, .int .i64 0, .int .i64 0, .int .i64 0, .int .i64 0, .int .i64 0, .int .i64 0, .int .i64 0, .int .i64 0, .int .i64 0, .int .i64 0, .int .i64 (n : Int)] 56 (heap_alloc2_new w _ _) (ints l) HL.out (fun hp => ⟨rfl, (HSRC.out hp).imp fun ad h => ⟨h.1, fun j v hj => cell_two _ _ (h.2 j v hj)⟩⟩) (by have := HL12.out; simp only [List.length_cons, List.length_nil]; omega) (ints_one _) (w.heap.size + 1) _ (below_two w _ _) (Nat.le_refl _) ?_); (intro w1 hcp hbel1; have hsys1 : SysIn w1 (w.heap.size + 1) l := (by unfold SysIn sysC; rw [← HS.out]; exact hcp.out); have hsys0 : SysIn w1 w.heap.size [] := sys0_of hbel1))
    | (with_reducible refine wp_loadSys rfl (.tmp 4) rfl (w.heap.size + 1) l HN12.out rfl (by assumption) ?_)
    | (with_reducible refine wp_loadSysG (.tmp 4) rfl (w.heap.size + 1) l HN12.out rfl (by assumption) (by with_unfolding_all rfl) ?_)
    | (go_at_call 87; refine (HP.out _).mono ?_; rintro e w2 ⟨rfl, hbel2⟩; have hsys2 := SysIn.below hsys1 hbel2; have hsys02 := SysIn.below hsys0 hbel2)
    | (go_at_call 88; refine (HX.out _).mono ?_; rintro e w4 ⟨rfl, hbel4⟩; have hsys4 := SysIn.below hsys2 hbel4; have hsys04 := SysIn.below hsys02 hbel4)
    | ((with_reducible refine wp_storeSys0 rfl (.tmp 2) (.tmp 29) rfl w.heap.size [] (Nat.zero_le _) rfl rfl (by assumption) ?_); intro w3 hs3 hg3))
  exact bodyPost_ret (results_read _ _ w.heap.size [] false (Nat.zero_le _) hs3 rfl rfl) rfl ⟨rfl, read_below hbel1 (hbel2.trans (hbel4.mono hbel2.size)) hg3⟩

set_option maxHeartbeats 1000000 in
theorem readSystem_run3 (v : Value) (l : List Int) (w : World) (h : Rd w v l) (hev : l.length % 2 = 0) (h12 : l.length ≤ 12) (hp : pairedB l = true) (hx : noCrossB l = true) :
    Calls Try.prog 49 #[v] w (ReadOut w l true) := by
  have hpair := fun w => isPaired_any l _ w h12 hp
  have hcross := fun w => crosses_any l true w h12 ((pairedB_iff l).1 hp).1 hx
  clear hx
  obtain ⟨a, c, rfl, hlc, hcm, hnc, hrd⟩ := h
  have hsz := sysC_size h12
  have hsl := sysL_length h12
  have hone : (sysC l).all (·.oneCell') = true := by
    rw [Array.all_eq_true_iff_forall_mem]
    intro x hx
    simp only [sysC, sysL, ints, List.mem_toArray, List.mem_append, List.mem_map, List.mem_singleton] at hx
    rcases hx with ⟨y, _, rfl⟩ | rfl <;> rfl
  have hsrc : 0 < (ints l).length → ∃ ad, a = some ad ∧ ∀ j v, (ints l)[j]? = some v → w.cell? (ad.add j) = some v := by
    intro hpos
    rcases hrd with rfl | ⟨b, off, rfl, hcell⟩
    · simp [ints] at hpos
    · refine ⟨_, rfl, fun j v hj => ?_⟩
      have hjl : j < l.length := by
        have := (List.getElem?_eq_some_iff.1 hj).1
        simpa [ints] using this
      rw [Addr.add_lit, hcell j hjl]
      simp [ints, List.getElem?_eq_getElem hjl] at hj
      simp [List.getD, List.getElem?_eq_getElem hjl, hj]
  obtain ⟨n, hn⟩ : ∃ n, n = l.length := ⟨_, rfl⟩
  have hspl := splice_sys l h12 n hn
  have hlen : (ints l).length = Nat.min n 12 := by rw [ints_length, ← hn]; exact (Nat.min_eq_left (by omega)).symm
  rw [← hn] at hlc h12 hev ⊢
  unfold maxLen at hcm
  have HN := Lib.hid hn; clear hn hrd
  have HP := Lib.hid hpair; clear hpair hp
  have HX := Lib.hid hcross; clear hcross
  have HS := Lib.hid hspl; clear hspl
  have HZ := Lib.hid hsz; clear hsz
  have HL := Lib.hid hlen; clear hlen
  have HN12 : Hid (l.length ≤ 12) := by rw [← HN.out]; exact h12
  have HL12 : Hid ((ints l).length ≤ 12) := by rw [ints_length, ← HN.out]; exact h12
  have HO := Lib.hid hone; clear hone
  have HSRC := Lib.hid hsrc; clear hsrc
  have h2 : (n : Int) % 2 = 0 := by omega
  have h3 : ((n : Int) % 2 != 0) = false := by simp; omega
  have hall := run_mates_all
  clear hev
  go_enter Try.func49, Try.ntmps49
  go_wp2_with (first
    | ((with_reducible refine wpList_copy_splice rfl (.tmp 19) (.tmp 20) 24 24 rfl 3 Try.underlying24 infoInt1 _ _ _ _ _ _ rfl rfl (w.heap.size + 1) 0 [.int .i64 0, .int .i64 0, .int .i64 0, .int .i64 0, .int .i64 0, .int .i64 0, .int .i64 0, .int .i64 0, .int .i64 0, .int .i64 0, .int .i64 0, .int .i64 0, .int .i64 (n : Int)] 56 (heap_alloc2_new w _ _) (ints l) HL.out (fun hp => ⟨rfl, (HSRC.out hp).imp fun ad h => ⟨h.1, fun j v hj => cell_two _ _ (h.2 j v hj)⟩⟩) (by have := HL12.out; simp only [List.length_cons, List.length_nil]; omega) (ints_one _) (w.heap.size + 1) _ (below_two w _ _) (Nat.le_refl _) ?_); (intro w1 hcp hbel1; have hsys1 : SysIn w1 (w.heap.size + 1) l := (by unfold SysIn sysC; rw [← HS.out]; exact hcp.out); have hsys0 : SysIn w1 w.heap.size [] := sys0_of hbel1))
    | (with_reducible refine wp_loadSys rfl (.tmp 4) rfl (w.heap.size + 1) l HN12.out rfl (by assumption) ?_)
    | (with_reducible refine wp_loadSysG (.tmp 4) rfl (w.heap.size + 1) l HN12.out rfl (by assumption) (by with_unfolding_all rfl) ?_)
    | (go_at_call 87; refine (HP.out _).mono ?_; rintro e w2 ⟨rfl, hbel2⟩; have hsys2 := SysIn.below hsys1 hbel2; have hsys02 := SysIn.below hsys0 hbel2)
    | (go_at_call 88; refine (HX.out _).mono ?_; rintro e w4 ⟨rfl, hbel4⟩; have hsys4 := SysIn.below hsys2 hbel4; have hsys04 := SysIn.below hsys02 hbel4)
    | ((with_reducible refine wp_storeSys rfl (.tmp 2) (.tmp 30) rfl w.heap.size l [] HN12.out (Nat.zero_le _) rfl rfl (by assumption) ?_); intro w3 hs3 hg3))
  exact bodyPost_ret (results_read _ _ w.heap.size l true HN12.out hs3 rfl rfl) rfl ⟨rfl, read_below hbel1 (hbel2.trans (hbel4.mono hbel2.size)) hg3⟩

/-- readSystem, at any list -/
theorem readSystem_any (v : Value) (l : List Int) (w : World) (h : Rd w v l) : Calls Try.prog 49 #[v] w (ReadOut w (if goodB l then l else []) (goodB l)) := by
  rw [goodB_eq]
  by_cases h1 : l.length % 2 = 1
  · simp only [show ¬ l.length % 2 = 0 by omega, decide_false, Bool.false_and]
    exact readSystem_len v l w h (.inl h1)
  · by_cases h2 : 12 < l.length
    · simp only [show ¬ l.length ≤ 12 by omega, decide_false, Bool.false_and, Bool.and_false]
      exact readSystem_len v l w h (.inr h2)
    · simp only [show l.length % 2 = 0 by omega, show l.length ≤ 12 by omega, decide_true, Bool.true_and]
      cases hp : pairedB l with
      | false => exact readSystem_run1 v l w h (by omega) (by omega) hp
      | true =>
        cases hx : noCrossB l with
        | false => exact readSystem_run2 v l w h (by omega) (by omega) hp hx
        | true => exact readSystem_run3 v l w h (by omega) (by omega) hp hx

theorem readSystem_yes (v : Value) (l : List Int) (w : World) (h : Rd w v l) (hg : goodB l = true) : Calls Try.prog 49 #[v] w (ReadOut w l true) := by
  have := readSystem_any v l w h
  rw [hg] at this
  exact this
theorem readSystem_no (v : Value) (l : List Int) (w : World) (h : Rd w v l) (hg : goodB l = false) : Calls Try.prog 49 #[v] w (ReadOut w [] false) := by
  have := readSystem_any v l w h
  rw [hg] at this
  exact this

/-- 's, ok := readSystem(p)': the system is stored into a variable that has just been laid -/
theorem wp_storeNew {ops : Array Oper} {rest : List Oper} {o : Oper} {a : Act} {Q : Exit → Act → World → Prop} (hgd : o.guard = none) (x y : Operand) (ho : o.op = .store 56 x y)
    (w : World) (l : List Int) (hl : l.length ≤ 12) (hx : a.eval x = .pointer (some ⟨w.heap.size, 0, none⟩)) (hy : a.eval y = .agg (sysC l))
    (h : ∀ w', SysIn w' w.heap.size l → Below w.heap.size w w' → wpList Try.prog ops Q rest (a.put o.dst undef) w') : wpList Try.prog ops Q (o :: rest) a (w.alloc (.cells #[.int .i64 0, .int .i64 0, .int .i64 0, .int .i64 0, .int .i64 0, .int .i64 0, .int .i64 0, .int .i64 0, .int .i64 0, .int .i64 0, .int .i64 0, .int .i64 0, .int .i64 0] 56)) := by
  refine wp_storeSys hgd x y ho w.heap.size l [] hl (by simp) hx hy (show SysIn (w.alloc (.cells (sysC []) 56)) w.heap.size [] from heap_alloc_new w _) ?_
  intro w' hs hg
  exact h w' hs ((Below.alloc1 w _).grown hg (by simp) (by intro k hk; simp at hk; omega))

theorem good_len {l : List Int} (h : goodB l = true) : l.length ≤ 12 := (good_facts h).2.1

end Go.Proofs.Ytogjclmmjdhfeac
