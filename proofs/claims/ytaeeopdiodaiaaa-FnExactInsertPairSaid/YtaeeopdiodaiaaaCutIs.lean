/- IsClosed: readStretch, the model's siClosed and siStretch. -/
/- readStretch where it fails. -/
import Derived.Test.YtaeeopdiodaiaaaCutStr
namespace Go.Proofs.Ytaeeopdiodaiaaa
open Go.RowKit
set_option linter.unusedSimpArgs false
set_option linter.unusedVariables false

theorem inS_yes {n : Nat} {i j : Int} (h : inS n i j = true) : ∃ a b : Nat, i = (a : Int) ∧ j = (b : Int) ∧ a < b ∧ b < n := by
  simp only [inS, decide_eq_true_eq] at h
  obtain ⟨a, rfl⟩ := Int.eq_ofNat_of_zero_le h.1
  obtain ⟨b, rfl⟩ := Int.eq_ofNat_of_zero_le (by omega : 0 ≤ j)
  exact ⟨a, b, rfl, rfl, by omega, by omega⟩

def StrOut (w : World) (t b : List Int) (i j : Int) (ok : Bool) (e : Ending) (w' : World) : Prop := e = .returned (.tuple #[.agg (pairC t b), .agg #[.int .i64 i, .int .i64 j], .bool ok]) ∧ Below w.heap.size w w'
theorem run_loadStr (w : World) (g : Nat) (i j : Int) (hg : StrIn w g i j) : (loadVar 58 ⟨g, 0, none⟩).run Try.prog w = .ok (.agg #[.int .i64 i, .int .i64 j]) w :=
  run_loadVar_row w g _ _ #[.int .i64 i, .int .i64 j] _ _ hg Try.underlying58 rfl (by rw [str_info]; rfl)
theorem results_rst (tmps : Array Value) (w : World) (g h : Nat) (t b : List Int) (i j : Int) (ok : Bool) (hg : PairIn w g t b) (hh : StrIn w h i j) (h6 : tmps.getD 6 undef = .pointer (some ⟨g, 0, none⟩)) (h7 : tmps.getD 7 undef = .pointer (some ⟨h, 0, none⟩)) (h8 : tmps.getD 8 undef = .bool ok) :
    (results Try.f39 tmps).run Try.prog w = .ok (.tuple #[.agg (pairC t b), .agg #[.int .i64 i, .int .i64 j], .bool ok]) w := by
  have h6' : tmps[6]?.getD undef = .pointer (some ⟨g, 0, none⟩) := by simpa using h6
  have h7' : tmps[7]?.getD undef = .pointer (some ⟨h, 0, none⟩) := by simpa using h7
  have h8' : tmps[8]?.getD undef = .bool ok := by simpa using h8
  have hr : Try.f39.results = #[.cell 6 56, .cell 7 58, .tmp 8] := by kernel_rfl
  simp [results, hr, h6', h7', h8', asAddr, run_loadPair w g t b hg, run_loadStr w h i j hh]

def zeroP : Array Value := #[.int .i64 0, .int .i64 0, .int .i64 0, .int .i64 0, .int .i64 0, .int .i64 0, .int .i64 0, .int .i64 0, .int .i64 0, .int .i64 0, .int .i64 0, .int .i64 0, .int .i64 0, .int .i64 0, .int .i64 0, .int .i64 0, .int .i64 0, .int .i64 0, .int .i64 0, .int .i64 0, .int .i64 0, .int .i64 0, .int .i64 0, .int .i64 0, .int .i64 0, .int .i64 0]
set_option maxHeartbeats 4000000 in
theorem readStretch_yes (t b : List Int) (i j : Nat) (hg : goodP t b) (hij : i < j) (hj : j < t.length) (w : World) (u1 u2 : Value) (h1 : Rd w u1 t) (h2 : Rd w u2 b) :
    Calls Try.prog 39 #[.agg #[u1, u2], .int .i64 (i : Int), .int .i64 (j : Int)] w (StrOut w t b i j true) := by
  have hok : pairOk t b = true := by simp [pairOk, hg.1, hg.2.1, hg.2.2]
  have B0 : Below w.heap.size w (w.alloc (.cells #[u1, u2] 28)) := Below.alloc1 w _
  have B1 := Below.step B0 (Below.alloc1 _ (.cells zeroP 56))
  have B2 := Below.step B1 (Below.alloc1 _ (.cells #[.int .i64 0, .int .i64 0] 58))
  have B12 := Below.step (Below.alloc1 (w.alloc (.cells #[u1, u2] 28)) (.cells zeroP 56)) (Below.alloc1 _ (.cells #[.int .i64 0, .int .i64 0] 58))
  have hA := Box2.below (Box2.new 28 w u1 u2) B12
  have hP := (show PairIn ((w.alloc (.cells #[u1, u2] 28)).alloc (.cells zeroP 56)) _ [] [] from pair_zero (w.alloc (.cells #[u1, u2] 28))).below (Below.alloc1 _ (.cells #[.int .i64 0, .int .i64 0] 58))
  have hS := StrIn.new ((w.alloc (.cells #[u1, u2] 28)).alloc (.cells zeroP 56)) 0 0
  rw [World.size_alloc] at hP
  rw [World.size_alloc, World.size_alloc] at hS
  have hrd := fun w h1 h2 => readPair_any t b w u1 u2 h1 h2
  rw [hok] at hrd
  simp only [if_true] at hrd
  have HSZ := Lib.hid (fun w => pairSize_any t b w)
  have k0 := hA.c0; have k1 := hA.c1
  have HP := Lib.hid hP; have HS := Lib.hid hS; have HB := Lib.hid B2; have H1 := Lib.hid (h1.below B2); have H2 := Lib.hid (h2.below B2); have HR := Lib.hid hrd
  have hd1 : decide ((i : Int) < 0) = false := decide_eq_false (by omega)
  have hd2 : decide ((j : Int) ≤ (i : Int)) = false := decide_eq_false (by omega)
  have hd3 : decide ((t.length : Int) ≤ (j : Int)) = false := decide_eq_false (by omega)
  have hn2 : decide (j ≤ i) = false := decide_eq_false (by omega)
  have hn3 : decide (t.length ≤ j) = false := decide_eq_false (by omega)
  have hx1 : ¬ ((i : Int) < 0) := by omega
  have hx2 : ¬ ((j : Int) ≤ (i : Int)) := by omega
  clear B0 B1 B2 B12 hA hP hS hrd h1 h2 hok hg
  generalize t.length = n at *
  unfold zeroP at *
  go_enter Try.func39, Try.ntmps39
  go_wp2_with fail
  refine (HR.out _ H1.out H2.out).mono ?_
  rintro e w1 ⟨rfl, hb1⟩
  have HP1 := Lib.hid (HP.out.below hb1); have HS1 := Lib.hid (HS.out.below hb1); have HB1 := Lib.hid (Below.step HB.out hb1)
  clear hb1 k0 k1
  go_wp2_with (first
    | ((with_reducible refine wp_storePairN rfl (.tmp 9) (.tmp 14) rfl t b rfl rfl ?_); intro w2 hs2 hb2; have HQ2 := Lib.hid hs2; have HP2 := Lib.hid (HP1.out.below hb2); have HS2 := Lib.hid (HS1.out.below hb2); have HB2 := Lib.hid (Below.step HB1.out hb2); clear hs2 hb2)
    | (with_reducible refine wp_loadPairG (.tmp 9) rfl w1.heap.size t b rfl HQ2.out (by first | with_unfolding_all rfl | (simp only [hd1, hd2, hd3, hn2, hn3, Bool.or_false]; with_unfolding_all rfl)) ?_)
    | (go_at_call 48; ((with_reducible refine (HSZ.out _).mono ?_); rintro e w3 ⟨rfl, hb3⟩; have HQ3 := Lib.hid (HQ2.out.below hb3); have HP3 := Lib.hid (HP2.out.below hb3); have HS3 := Lib.hid (HS2.out.below hb3); have HB3 := Lib.hid (Below.step HB2.out hb3); clear hb3))
    | (with_reducible refine wp_loadPair rfl (.tmp 9) rfl w1.heap.size t b rfl HQ3.out ?_)
    | ((with_reducible refine wp_storePair rfl (.tmp 6) (.tmp 35) rfl (w.heap.size + 1) t b [] [] rfl rfl HP3.out ?_); intro w5 hp5 hg5; have HP5 := Lib.hid hp5; have HS5 := Lib.hid (HS3.out.grown hg5 (by simp)); have HB5 := Lib.hid (HB3.out.grown hg5 HB3.out.size (by intro k hk; simp at hk; omega)); clear hp5 hg5)
    | ((with_reducible refine wp_storeStr rfl (.tmp 7) (.tmp 38) rfl (w.heap.size + 1 + 1) i j 0 0 rfl rfl HS5.out ?_); intro w6 hp6 hg6; have HS6 := Lib.hid hp6; have HP6 := Lib.hid (HP5.out.grown hg6 (by simp)); have HB6 := Lib.hid (HB5.out.grown hg6 HB5.out.size (by intro k hk; simp at hk; omega)); clear hp6 hg6))
  exact bodyPost_ret (results_rst _ _ (w.heap.size + 1) (w.heap.size + 1 + 1) t b i j true HP6.out HS6.out rfl rfl rfl) rfl ⟨rfl, HB6.out⟩

end Go.Proofs.Ytaeeopdiodaiaaa

namespace Go.Proofs.Ytaeeopdiodaiaaa
open Go.RowKit
set_option linter.unusedSimpArgs false
set_option linter.unusedVariables false

theorem rst_new (w : World) (u1 u2 : Value) : Box2 28 (((w.alloc (.cells #[u1, u2] 28)).alloc (.cells #[.int .i64 0, .int .i64 0, .int .i64 0, .int .i64 0, .int .i64 0, .int .i64 0, .int .i64 0, .int .i64 0, .int .i64 0, .int .i64 0, .int .i64 0, .int .i64 0, .int .i64 0, .int .i64 0, .int .i64 0, .int .i64 0, .int .i64 0, .int .i64 0, .int .i64 0, .int .i64 0, .int .i64 0, .int .i64 0, .int .i64 0, .int .i64 0, .int .i64 0, .int .i64 0] 56)).alloc (.cells #[.int .i64 0, .int .i64 0] 58)) w.heap.size u1 u2 ∧ PairIn (((w.alloc (.cells #[u1, u2] 28)).alloc (.cells #[.int .i64 0, .int .i64 0, .int .i64 0, .int .i64 0, .int .i64 0, .int .i64 0, .int .i64 0, .int .i64 0, .int .i64 0, .int .i64 0, .int .i64 0, .int .i64 0, .int .i64 0, .int .i64 0, .int .i64 0, .int .i64 0, .int .i64 0, .int .i64 0, .int .i64 0, .int .i64 0, .int .i64 0, .int .i64 0, .int .i64 0, .int .i64 0, .int .i64 0, .int .i64 0] 56)).alloc (.cells #[.int .i64 0, .int .i64 0] 58)) (w.heap.size + 1) [] [] ∧ StrIn (((w.alloc (.cells #[u1, u2] 28)).alloc (.cells #[.int .i64 0, .int .i64 0, .int .i64 0, .int .i64 0, .int .i64 0, .int .i64 0, .int .i64 0, .int .i64 0, .int .i64 0, .int .i64 0, .int .i64 0, .int .i64 0, .int .i64 0, .int .i64 0, .int .i64 0, .int .i64 0, .int .i64 0, .int .i64 0, .int .i64 0, .int .i64 0, .int .i64 0, .int .i64 0, .int .i64 0, .int .i64 0, .int .i64 0, .int .i64 0] 56)).alloc (.cells #[.int .i64 0, .int .i64 0] 58)) (w.heap.size + 1 + 1) 0 0 ∧ Below w.heap.size w (((w.alloc (.cells #[u1, u2] 28)).alloc (.cells #[.int .i64 0, .int .i64 0, .int .i64 0, .int .i64 0, .int .i64 0, .int .i64 0, .int .i64 0, .int .i64 0, .int .i64 0, .int .i64 0, .int .i64 0, .int .i64 0, .int .i64 0, .int .i64 0, .int .i64 0, .int .i64 0, .int .i64 0, .int .i64 0, .int .i64 0, .int .i64 0, .int .i64 0, .int .i64 0, .int .i64 0, .int .i64 0, .int .i64 0, .int .i64 0] 56)).alloc (.cells #[.int .i64 0, .int .i64 0] 58)) := by
  refine ⟨Box2.below (Box2.below (Box2.new 28 w u1 u2) (Below.alloc1 _ _)) (Below.alloc1 _ _), ?_, ?_, Below.step (Below.step (Below.alloc1 _ _) (Below.alloc1 _ _)) (Below.alloc1 _ _)⟩
  · have := pair_zero (w.alloc (.cells #[u1, u2] 28))
    rw [World.size_alloc] at this
    exact this.below (Below.alloc1 _ _)
  · have := StrIn.new ((w.alloc (.cells #[u1, u2] 28)).alloc (.cells #[.int .i64 0, .int .i64 0, .int .i64 0, .int .i64 0, .int .i64 0, .int .i64 0, .int .i64 0, .int .i64 0, .int .i64 0, .int .i64 0, .int .i64 0, .int .i64 0, .int .i64 0, .int .i64 0, .int .i64 0, .int .i64 0, .int .i64 0, .int .i64 0, .int .i64 0, .int .i64 0, .int .i64 0, .int .i64 0, .int .i64 0, .int .i64 0, .int .i64 0, .int .i64 0] 56)) 0 0
    rw [World.size_alloc, World.size_alloc] at this
    exact this
set_option maxHeartbeats 4000000 in
theorem readStretch_noa (t b : List Int) (i j : Int) (hok : pairOk t b = false) (w : World) (u1 u2 : Value) (h1 : Rd w u1 t) (h2 : Rd w u2 b) :
    Calls Try.prog 39 #[.agg #[u1, u2], .int .i64 i, .int .i64 j] w (StrOut w [] [] 0 0 false) := by
  obtain ⟨hA, hP, hS, B3⟩ := rst_new w u1 u2
  have hrd := fun w h1 h2 => readPair_any t b w u1 u2 h1 h2
  rw [hok] at hrd
  simp only [if_true, Bool.false_eq_true, if_false] at hrd
  have HSZ := Lib.hid (fun w => pairSize_any t b w)
  have k0 := hA.c0; have k1 := hA.c1
  have HP := Lib.hid hP; have HS := Lib.hid hS; have HB := Lib.hid B3; have H1 := Lib.hid (h1.below B3); have H2 := Lib.hid (h2.below B3); have HR := Lib.hid hrd
  clear hA hP hS B3 hrd h1 h2 hok
  generalize t.length = n at *
  go_enter Try.func39, Try.ntmps39
  go_wp2_with fail
  refine (HR.out _ H1.out H2.out).mono ?_
  rintro e w1 ⟨rfl, hb1⟩
  have HP1 := Lib.hid (HP.out.below hb1); have HS1 := Lib.hid (HS.out.below hb1); have HB1 := Lib.hid (Below.step HB.out hb1)
  clear hb1 k0 k1
  go_wp2_with (first
    | ((with_reducible refine wp_storePairN rfl (.tmp 9) (.tmp 14) rfl [] [] rfl rfl ?_); intro w2 hs2 hb2; have HQ2 := Lib.hid hs2; have HP2 := Lib.hid (HP1.out.below hb2); have HS2 := Lib.hid (HS1.out.below hb2); have HB2 := Lib.hid (Below.step HB1.out hb2); clear hs2 hb2)
    | ((with_reducible refine wp_storePair rfl (.tmp 6) (.tmp 33) rfl (w.heap.size + 1) [] [] [] [] rfl rfl HP2.out ?_); intro w5 hp5 hg5; have HP5 := Lib.hid hp5; have HS5 := Lib.hid (HS2.out.grown hg5 (by simp)); have HB5 := Lib.hid (HB2.out.grown hg5 HB2.out.size (by intro k hk; simp at hk; omega)); clear hp5 hg5)
    | ((with_reducible refine wp_storeStr rfl (.tmp 7) (.tmp 34) rfl (w.heap.size + 1 + 1) 0 0 0 0 rfl rfl HS5.out ?_); intro w6 hp6 hg6; have HS6 := Lib.hid hp6; have HP6 := Lib.hid (HP5.out.grown hg6 (by simp)); have HB6 := Lib.hid (HB5.out.grown hg6 HB5.out.size (by intro k hk; simp at hk; omega)); clear hp6 hg6))
  exact bodyPost_ret (results_rst _ _ (w.heap.size + 1) (w.heap.size + 1 + 1) [] [] 0 0 false HP6.out HS6.out rfl rfl rfl) rfl ⟨rfl, HB6.out⟩
set_option maxHeartbeats 4000000 in
theorem readStretch_nob (t b : List Int) (i j : Int) (hok : pairOk t b = true) (hi : i < 0) (w : World) (u1 u2 : Value) (h1 : Rd w u1 t) (h2 : Rd w u2 b) :
    Calls Try.prog 39 #[.agg #[u1, u2], .int .i64 i, .int .i64 j] w (StrOut w [] [] 0 0 false) := by
  obtain ⟨hA, hP, hS, B3⟩ := rst_new w u1 u2
  have hrd := fun w h1 h2 => readPair_any t b w u1 u2 h1 h2
  rw [hok] at hrd
  simp only [if_true, Bool.false_eq_true, if_false] at hrd
  have HSZ := Lib.hid (fun w => pairSize_any t b w)
  have k0 := hA.c0; have k1 := hA.c1
  have HP := Lib.hid hP; have HS := Lib.hid hS; have HB := Lib.hid B3; have H1 := Lib.hid (h1.below B3); have H2 := Lib.hid (h2.below B3); have HR := Lib.hid hrd
  have hd1 : decide (i < 0) = true := decide_eq_true hi
  clear hA hP hS B3 hrd h1 h2 hok
  generalize t.length = n at *
  go_enter Try.func39, Try.ntmps39
  go_wp2_with fail
  refine (HR.out _ H1.out H2.out).mono ?_
  rintro e w1 ⟨rfl, hb1⟩
  have HP1 := Lib.hid (HP.out.below hb1); have HS1 := Lib.hid (HS.out.below hb1); have HB1 := Lib.hid (Below.step HB.out hb1)
  clear hb1 k0 k1
  go_wp2_with (first
    | ((with_reducible refine wp_storePairN rfl (.tmp 9) (.tmp 14) rfl t b rfl rfl ?_); intro w2 hs2 hb2; have HQ2 := Lib.hid hs2; have HP2 := Lib.hid (HP1.out.below hb2); have HS2 := Lib.hid (HS1.out.below hb2); have HB2 := Lib.hid (Below.step HB1.out hb2); clear hs2 hb2)
    | ((with_reducible refine wp_storePair rfl (.tmp 6) (.tmp 33) rfl (w.heap.size + 1) [] [] [] [] rfl rfl HP2.out ?_); intro w5 hp5 hg5; have HP5 := Lib.hid hp5; have HS5 := Lib.hid (HS2.out.grown hg5 (by simp)); have HB5 := Lib.hid (HB2.out.grown hg5 HB2.out.size (by intro k hk; simp at hk; omega)); clear hp5 hg5)
    | ((with_reducible refine wp_storeStr rfl (.tmp 7) (.tmp 34) rfl (w.heap.size + 1 + 1) 0 0 0 0 rfl rfl HS5.out ?_); intro w6 hp6 hg6; have HS6 := Lib.hid hp6; have HP6 := Lib.hid (HP5.out.grown hg6 (by simp)); have HB6 := Lib.hid (HB5.out.grown hg6 HB5.out.size (by intro k hk; simp at hk; omega)); clear hp6 hg6))
  exact bodyPost_ret (results_rst _ _ (w.heap.size + 1) (w.heap.size + 1 + 1) [] [] 0 0 false HP6.out HS6.out rfl rfl rfl) rfl ⟨rfl, HB6.out⟩
set_option maxHeartbeats 4000000 in
theorem readStretch_noc (t b : List Int) (i : Nat) (j : Int) (hok : pairOk t b = true) (hj : j ≤ (i : Int)) (w : World) (u1 u2 : Value) (h1 : Rd w u1 t) (h2 : Rd w u2 b) :
    Calls Try.prog 39 #[.agg #[u1, u2], .int .i64 (i : Int), .int .i64 j] w (StrOut w [] [] 0 0 false) := by
  obtain ⟨hA, hP, hS, B3⟩ := rst_new w u1 u2
  have hrd := fun w h1 h2 => readPair_any t b w u1 u2 h1 h2
  rw [hok] at hrd
  simp only [if_true, Bool.false_eq_true, if_false] at hrd
  have HSZ := Lib.hid (fun w => pairSize_any t b w)
  have k0 := hA.c0; have k1 := hA.c1
  have HP := Lib.hid hP; have HS := Lib.hid hS; have HB := Lib.hid B3; have H1 := Lib.hid (h1.below B3); have H2 := Lib.hid (h2.below B3); have HR := Lib.hid hrd
  have hd1 : decide ((i : Int) < 0) = false := decide_eq_false (by omega)
  have hx1 : ¬ ((i : Int) < 0) := by omega
  have hd2 : decide (j ≤ (i : Int)) = true := decide_eq_true hj
  clear hA hP hS B3 hrd h1 h2 hok
  generalize t.length = n at *
  go_enter Try.func39, Try.ntmps39
  go_wp2_with fail
  refine (HR.out _ H1.out H2.out).mono ?_
  rintro e w1 ⟨rfl, hb1⟩
  have HP1 := Lib.hid (HP.out.below hb1); have HS1 := Lib.hid (HS.out.below hb1); have HB1 := Lib.hid (Below.step HB.out hb1)
  clear hb1 k0 k1
  go_wp2_with (first
    | ((with_reducible refine wp_storePairN rfl (.tmp 9) (.tmp 14) rfl t b rfl rfl ?_); intro w2 hs2 hb2; have HQ2 := Lib.hid hs2; have HP2 := Lib.hid (HP1.out.below hb2); have HS2 := Lib.hid (HS1.out.below hb2); have HB2 := Lib.hid (Below.step HB1.out hb2); clear hs2 hb2)
    | ((with_reducible refine wp_storePair rfl (.tmp 6) (.tmp 33) rfl (w.heap.size + 1) [] [] [] [] rfl rfl HP2.out ?_); intro w5 hp5 hg5; have HP5 := Lib.hid hp5; have HS5 := Lib.hid (HS2.out.grown hg5 (by simp)); have HB5 := Lib.hid (HB2.out.grown hg5 HB2.out.size (by intro k hk; simp at hk; omega)); clear hp5 hg5)
    | ((with_reducible refine wp_storeStr rfl (.tmp 7) (.tmp 34) rfl (w.heap.size + 1 + 1) 0 0 0 0 rfl rfl HS5.out ?_); intro w6 hp6 hg6; have HS6 := Lib.hid hp6; have HP6 := Lib.hid (HP5.out.grown hg6 (by simp)); have HB6 := Lib.hid (HB5.out.grown hg6 HB5.out.size (by intro k hk; simp at hk; omega)); clear hp6 hg6))
  exact bodyPost_ret (results_rst _ _ (w.heap.size + 1) (w.heap.size + 1 + 1) [] [] 0 0 false HP6.out HS6.out rfl rfl rfl) rfl ⟨rfl, HB6.out⟩
set_option maxHeartbeats 4000000 in
theorem readStretch_nod (t b : List Int) (i j : Nat) (hok : pairOk t b = true) (hij : i < j) (hj : t.length ≤ j) (w : World) (u1 u2 : Value) (h1 : Rd w u1 t) (h2 : Rd w u2 b) :
    Calls Try.prog 39 #[.agg #[u1, u2], .int .i64 (i : Int), .int .i64 (j : Int)] w (StrOut w [] [] 0 0 false) := by
  obtain ⟨hA, hP, hS, B3⟩ := rst_new w u1 u2
  have hrd := fun w h1 h2 => readPair_any t b w u1 u2 h1 h2
  rw [hok] at hrd
  simp only [if_true, Bool.false_eq_true, if_false] at hrd
  have HSZ := Lib.hid (fun w => pairSize_any t b w)
  have k0 := hA.c0; have k1 := hA.c1
  have HP := Lib.hid hP; have HS := Lib.hid hS; have HB := Lib.hid B3; have H1 := Lib.hid (h1.below B3); have H2 := Lib.hid (h2.below B3); have HR := Lib.hid hrd
  have hd1 : decide ((i : Int) < 0) = false := decide_eq_false (by omega)
  have hd2 : decide ((j : Int) ≤ (i : Int)) = false := decide_eq_false (by omega)
  have hn2 : decide (j ≤ i) = false := decide_eq_false (by omega)
  have hd3 : decide ((t.length : Int) ≤ (j : Int)) = true := decide_eq_true (by omega)
  have hn3 : decide (t.length ≤ j) = true := decide_eq_true hj
  have hx1 : ¬ ((i : Int) < 0) := by omega
  have hx2 : ¬ ((j : Int) ≤ (i : Int)) := by omega
  have hx3 : (t.length : Int) ≤ (j : Int) := by omega
  clear hA hP hS B3 hrd h1 h2 hok
  generalize t.length = n at *
  go_enter Try.func39, Try.ntmps39
  go_wp2_with fail
  refine (HR.out _ H1.out H2.out).mono ?_
  rintro e w1 ⟨rfl, hb1⟩
  have HP1 := Lib.hid (HP.out.below hb1); have HS1 := Lib.hid (HS.out.below hb1); have HB1 := Lib.hid (Below.step HB.out hb1)
  clear hb1 k0 k1
  go_wp2_with (first
    | ((with_reducible refine wp_storePairN rfl (.tmp 9) (.tmp 14) rfl t b rfl rfl ?_); intro w2 hs2 hb2; have HQ2 := Lib.hid hs2; have HP2 := Lib.hid (HP1.out.below hb2); have HS2 := Lib.hid (HS1.out.below hb2); have HB2 := Lib.hid (Below.step HB1.out hb2); clear hs2 hb2)
    | (with_reducible refine wp_loadPairG (.tmp 9) rfl w1.heap.size t b rfl HQ2.out (by first | with_unfolding_all rfl | (simp only [hd1, hd2, hn2, Bool.or_false]; with_unfolding_all rfl)) ?_)
    | (go_at_call 48; ((with_reducible refine (HSZ.out _).mono ?_); rintro e w3 ⟨rfl, hb3⟩; have HQ3 := Lib.hid (HQ2.out.below hb3); have HP3 := Lib.hid (HP2.out.below hb3); have HS3 := Lib.hid (HS2.out.below hb3); have HB3 := Lib.hid (Below.step HB2.out hb3); clear hb3))
    | ((with_reducible refine wp_storePair rfl (.tmp 6) (.tmp 33) rfl (w.heap.size + 1) [] [] [] [] rfl rfl HP3.out ?_); intro w5 hp5 hg5; have HP5 := Lib.hid hp5; have HS5 := Lib.hid (HS3.out.grown hg5 (by simp)); have HB5 := Lib.hid (HB3.out.grown hg5 HB3.out.size (by intro k hk; simp at hk; omega)); clear hp5 hg5)
    | ((with_reducible refine wp_storeStr rfl (.tmp 7) (.tmp 34) rfl (w.heap.size + 1 + 1) 0 0 0 0 rfl rfl HS5.out ?_); intro w6 hp6 hg6; have HS6 := Lib.hid hp6; have HP6 := Lib.hid (HP5.out.grown hg6 (by simp)); have HB6 := Lib.hid (HB5.out.grown hg6 HB5.out.size (by intro k hk; simp at hk; omega)); clear hp6 hg6))
  exact bodyPost_ret (results_rst _ _ (w.heap.size + 1) (w.heap.size + 1 + 1) [] [] 0 0 false HP6.out HS6.out rfl rfl rfl) rfl ⟨rfl, HB6.out⟩
/-- readStretch, at any arguments -/
theorem readStretch_no (t b : List Int) (i j : Int) (h : ok_IsClosed t b i j = false) (w : World) (u1 u2 : Value) (h1 : Rd w u1 t) (h2 : Rd w u2 b) :
    Calls Try.prog 39 #[.agg #[u1, u2], .int .i64 i, .int .i64 j] w (StrOut w [] [] 0 0 false) := by
  cases hok : pairOk t b with
  | false => exact readStretch_noa t b i j hok w u1 u2 h1 h2
  | true =>
    simp only [ok_IsClosed, hok, Bool.true_and, inS, decide_eq_false_iff_not] at h
    by_cases hi : i < 0
    · exact readStretch_nob t b i j hok hi w u1 u2 h1 h2
    · obtain ⟨i, rfl⟩ := Int.eq_ofNat_of_zero_le (by omega : 0 ≤ i)
      by_cases hj : j ≤ (i : Int)
      · exact readStretch_noc t b i j hok hj w u1 u2 h1 h2
      · obtain ⟨j, rfl⟩ := Int.eq_ofNat_of_zero_le (by omega : 0 ≤ j)
        exact readStretch_nod t b i j hok (by omega) (by omega) w u1 u2 h1 h2

end Go.Proofs.Ytaeeopdiodaiaaa
