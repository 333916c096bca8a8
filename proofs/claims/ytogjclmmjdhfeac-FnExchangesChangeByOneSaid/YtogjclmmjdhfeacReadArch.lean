/- readArched: a pair with at least one arch, read. -/
import Derived.Test.YtogjclmmjdhfeacWalk
namespace Go.Proofs.Ytogjclmmjdhfeac
open Go.RowKit
set_option linter.unusedSimpArgs false
set_option linter.unusedVariables false

theorem results_ra (tmps : Array Value) (w : World) (g : Nat) (t b : List Int) (ok : Bool) (hg : PairIn w g t b) (h2 : tmps.getD 2 undef = .pointer (some ⟨g, 0, none⟩)) (h3 : tmps.getD 3 undef = .bool ok) :
    (results Try.f42 tmps).run Try.prog w = .ok (.tuple #[.agg (pairC t b), .bool ok]) w := by
  have h2' : tmps[2]?.getD undef = .pointer (some ⟨g, 0, none⟩) := by simpa using h2
  have h3' : tmps[3]?.getD undef = .bool ok := by simpa using h3
  have hr : Try.f42.results = #[.cell 2 58, .tmp 3] := by kernel_rfl
  simp [results, hr, h2', h3', asAddr, run_loadPair w g t b hg]
set_option maxHeartbeats 2000000 in
theorem readArched_any (t b : List Int) (w : World) (u1 u2 : Value) (h1 : Rd w u1 t) (h2 : Rd w u2 b) :
    Calls Try.prog 42 #[.agg #[u1, u2]] w (PairOut w (if archedB t b then t else []) (if archedB t b then b else []) (archedB t b)) := by
  have hA := Box2.below (Box2.new 26 w u1 u2) (Below.alloc1 _ (.cells zeroQ 58))
  have hP := zero_in (w.alloc (.cells #[u1, u2] 26))
  rw [World.size_alloc] at hP
  have B2 := Below.step (Below.alloc1 w (.cells #[u1, u2] 26)) (Below.alloc1 _ (.cells zeroQ 58))
  have k0 := hA.c0; have k1 := hA.c1
  have hrd := readPair_any t b _ u1 u2 (h1.below B2) (h2.below B2)
  have HP := Lib.hid hP; have HB := Lib.hid B2
  have HSZ := Lib.hid (fun w => pairSize_any t b w)
  clear hA hP B2 h1 h2
  unfold zeroQ archedB at *
  cases h : pairOk t b with
  | false =>
    rw [h] at hrd
    simp only [Bool.false_eq_true, if_false, Bool.false_and] at hrd ⊢
    have HR := Lib.hid hrd; clear hrd h HSZ
    go_enter Try.func42, Try.ntmps42
    go_wp2_with fail
    refine HR.out.mono ?_
    rintro e w1 ⟨rfl, hb1⟩
    have HP1 := Lib.hid (HP.out.below hb1); have HB1 := Lib.hid (Below.step HB.out hb1); clear hb1 k0 k1
    go_wp2_with (first
      | ((with_reducible refine wp_storePairN rfl (.tmp 4) (.tmp 9) rfl [] [] rfl rfl ?_); intro w2 hs2 hb2; have HP2 := Lib.hid (HP1.out.below hb2); have HB2 := Lib.hid (Below.step HB1.out hb2); clear hs2 hb2)
      | ((with_reducible refine wp_storePair rfl (.tmp 2) (.tmp 18) rfl (w.heap.size + 1) [] [] [] [] rfl rfl HP2.out ?_); intro w5 hp5 hg5))
    exact bodyPost_ret (results_ra _ _ (w.heap.size + 1) [] [] false hp5 rfl rfl) rfl ⟨rfl, HB2.out.grown hg5 HB2.out.size (by intro k hk; simp at hk; omega)⟩
  | true =>
    rw [h] at hrd
    simp only [if_true, Bool.true_and] at hrd ⊢
    have HR := Lib.hid hrd; clear hrd h
    obtain ⟨n, hn⟩ : ∃ n, t.length = n := ⟨_, rfl⟩
    rw [hn] at HSZ ⊢
    clear hn
    by_cases h0 : 0 < n
    · rw [decide_eq_true h0]
      simp only [if_true]
      have hd : ((n : Int) == 0) = false := by simp; omega
      go_enter Try.func42, Try.ntmps42
      go_wp2_with fail
      refine HR.out.mono ?_
      rintro e w1 ⟨rfl, hb1⟩
      have HP1 := Lib.hid (HP.out.below hb1); have HB1 := Lib.hid (Below.step HB.out hb1); clear hb1 k0 k1
      go_wp2_with (first
        | ((with_reducible refine wp_storePairN rfl (.tmp 4) (.tmp 9) rfl t b rfl rfl ?_); intro w2 hs2 hb2; have HQ2 := Lib.hid hs2; have HP2 := Lib.hid (HP1.out.below hb2); have HB2 := Lib.hid (Below.step HB1.out hb2); clear hs2 hb2)
        | (with_reducible refine wp_loadPairG (.tmp 4) rfl w1.heap.size t b rfl HQ2.out (by with_unfolding_all rfl) ?_)
        | (go_at_call 79; ((with_reducible refine (HSZ.out _).mono ?_); rintro e w3 ⟨rfl, hb3⟩; have HQ3 := Lib.hid (HQ2.out.below hb3); have HP3 := Lib.hid (HP2.out.below hb3); have HB3 := Lib.hid (Below.step HB2.out hb3); clear hb3))
        | (with_reducible refine wp_loadPair rfl (.tmp 4) rfl w1.heap.size t b rfl HQ3.out ?_)
        | ((with_reducible refine wp_storePair rfl (.tmp 2) (.tmp 19) rfl (w.heap.size + 1) t b [] [] rfl rfl HP3.out ?_); intro w5 hp5 hg5))
      exact bodyPost_ret (results_ra _ _ (w.heap.size + 1) t b true hp5 rfl rfl) rfl ⟨rfl, HB3.out.grown hg5 HB3.out.size (by intro k hk; simp at hk; omega)⟩
    · obtain rfl : n = 0 := by omega
      simp only [Nat.lt_irrefl, decide_false, Bool.false_eq_true, if_false]
      go_enter Try.func42, Try.ntmps42
      go_wp2_with fail
      refine HR.out.mono ?_
      rintro e w1 ⟨rfl, hb1⟩
      have HP1 := Lib.hid (HP.out.below hb1); have HB1 := Lib.hid (Below.step HB.out hb1); clear hb1 k0 k1
      go_wp2_with (first
        | ((with_reducible refine wp_storePairN rfl (.tmp 4) (.tmp 9) rfl t b rfl rfl ?_); intro w2 hs2 hb2; have HQ2 := Lib.hid hs2; have HP2 := Lib.hid (HP1.out.below hb2); have HB2 := Lib.hid (Below.step HB1.out hb2); clear hs2 hb2)
        | (with_reducible refine wp_loadPairG (.tmp 4) rfl w1.heap.size t b rfl HQ2.out (by with_unfolding_all rfl) ?_)
        | (go_at_call 79; ((with_reducible refine (HSZ.out _).mono ?_); rintro e w3 ⟨rfl, hb3⟩; have HP3 := Lib.hid (HP2.out.below hb3); have HB3 := Lib.hid (Below.step HB2.out hb3); clear hb3))
        | ((with_reducible refine wp_storePair rfl (.tmp 2) (.tmp 18) rfl (w.heap.size + 1) [] [] [] [] rfl rfl HP3.out ?_); intro w5 hp5 hg5))
      exact bodyPost_ret (results_ra _ _ (w.heap.size + 1) [] [] false hp5 rfl rfl) rfl ⟨rfl, HB3.out.grown hg5 HB3.out.size (by intro k hk; simp at hk; omega)⟩

end Go.Proofs.Ytogjclmmjdhfeac
