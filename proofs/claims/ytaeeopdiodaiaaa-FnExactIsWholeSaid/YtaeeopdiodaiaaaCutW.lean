/- ShortestClosed, IsWhole: the program's functions. -/
import Derived.Test.YtaeeopdiodaiaaaCutSe
namespace Go.Proofs.Ytaeeopdiodaiaaa
open Go.RowKit
set_option linter.unusedSimpArgs false
set_option linter.unusedVariables false

theorem short_empty : shortL false [] [] = none := by
  cases h : shortL false [] [] with
  | none => rfl
  | some p => have := (short_fits h).1; unfold proper at this; simp at this

set_option maxHeartbeats 2000000 in
theorem isWhole_any (t b : List Int) (h12 : t.length ≤ 12) (w : World) : Calls Try.prog 64 #[.agg (pairC t b)] w (Tells w (wholeB t b)) := by
  have HS := Lib.hid (fun w => searchFirst_any t b w)
  have HF := Lib.hid (fun w => shortestFirst_any t b h12 w)
  have HZ := Lib.hid (fun w => pairSize_any t b w)
  have HP := Lib.hid (PairIn.new w t b)
  have HB := Lib.hid (Below.alloc1 w (.cells (pairC t b) 56))
  have hR : wholeB t b = (decide (0 < t.length) && !(shortL false t b).isSome) := by unfold wholeB; cases shortL false t b <;> rfl
  rw [hR]
  unfold ShOut at HF
  generalize (seC (t.length : Int) t b 79) = C at *
  generalize t.length = n at *
  have hx : ∃ x y : Int, x = ((strOf (shortL false t b)).1 : Int) ∧ y = ((strOf (shortL false t b)).2 : Int) := ⟨_, _, rfl, rfl⟩
  obtain ⟨x, y, ex, ey⟩ := hx
  rw [← ex, ← ey] at HF
  generalize (shortL false t b).isSome = R at *
  clear ex ey hR h12
  by_cases h0 : 0 < n
  · rw [decide_eq_true h0, Bool.true_and]
    have hi : (0 : Int) < (n : Int) := by omega
    go_enter Try.func64, Try.ntmps64
    go_wp2_with (first
      | (with_reducible refine wp_loadPair rfl (.tmp 1) rfl w.heap.size t b rfl HP.out ?_)
      | (go_at_call 61; ((with_reducible refine (HS.out _).mono ?_); rintro e w1 ⟨rfl, hb1⟩; have HP1 := Lib.hid (HP.out.below hb1); have HB1 := Lib.hid (Below.step HB.out hb1); clear hb1))
      | (go_at_call 62; ((with_reducible refine (HF.out _).mono ?_); rintro e w2 ⟨rfl, hb2⟩; have HP2 := Lib.hid (HP1.out.below hb2); have HB2 := Lib.hid (Below.step HB1.out hb2); clear hb2))
      | ((with_reducible refine wp_storeStrN rfl (.tmp 3) (.tmp 9) rfl _ _ rfl rfl ?_); intro w3 hs3 hb3; have HP3 := Lib.hid (HP2.out.below hb3); have HB3 := Lib.hid (Below.step HB2.out hb3); clear hs3 hb3)
      | (with_reducible refine wp_loadPair rfl (.tmp 1) rfl w.heap.size t b rfl HP3.out ?_)
      | (go_at_call 48; ((with_reducible refine (HZ.out _).mono ?_); rintro e w4 ⟨rfl, hb4⟩; have HB4 := Lib.hid (Below.step HB3.out hb4); clear hb4)))
    go_ret
    exact ⟨rfl, HB4.out⟩
  · obtain rfl : n = 0 := by omega
    go_enter Try.func64, Try.ntmps64
    go_wp2_with (first
      | (with_reducible refine wp_loadPair rfl (.tmp 1) rfl w.heap.size t b rfl HP.out ?_)
      | (go_at_call 61; ((with_reducible refine (HS.out _).mono ?_); rintro e w1 ⟨rfl, hb1⟩; have HP1 := Lib.hid (HP.out.below hb1); have HB1 := Lib.hid (Below.step HB.out hb1); clear hb1))
      | (go_at_call 62; ((with_reducible refine (HF.out _).mono ?_); rintro e w2 ⟨rfl, hb2⟩; have HP2 := Lib.hid (HP1.out.below hb2); have HB2 := Lib.hid (Below.step HB1.out hb2); clear hb2))
      | ((with_reducible refine wp_storeStrN rfl (.tmp 3) (.tmp 9) rfl _ _ rfl rfl ?_); intro w3 hs3 hb3; have HP3 := Lib.hid (HP2.out.below hb3); have HB3 := Lib.hid (Below.step HB2.out hb3); clear hs3 hb3)
      | (with_reducible refine wp_loadPair rfl (.tmp 1) rfl w.heap.size t b rfl HP3.out ?_)
      | (go_at_call 48; ((with_reducible refine (HZ.out _).mono ?_); rintro e w4 ⟨rfl, hb4⟩; have HB4 := Lib.hid (Below.step HB3.out hb4); clear hb4)))
    go_ret
    exact ⟨rfl, HB4.out⟩

set_option maxHeartbeats 2000000 in
theorem impl_IsWhole (t b : List Int) (w : World) (u1 u2 : Value) (h1 : Rd w u1 t) (h2 : Rd w u2 b) (m1 : t.length ≤ 1048576) (m2 : b.length ≤ 1048576) :
    Calls Try.prog 32 #[.agg #[u1, u2]] w (GivesD w (res_IsWhole t b) (ok_IsWhole t b)) := by
  have hres : res_IsWhole t b = wholeB (if pairOk t b then t else []) (if pairOk t b then b else []) := by
    unfold res_IsWhole
    cases pairOk t b <;> simp [wholeB]
  obtain ⟨q1, q2, q3⟩ := read_good t b
  rw [hres]
  unfold ok_IsWhole
  have hA := Box2.new 28 w u1 u2
  have B1 : Below w.heap.size w (w.alloc (.cells #[u1, u2] 28)) := Below.alloc1 w _
  have k0 := hA.c0; have k1 := hA.c1
  have hrd := readPair_any t b _ u1 u2 (h1.below B1) (h2.below B1)
  have HB := Lib.hid B1; have HR := Lib.hid hrd
  clear hA B1 h1 h2 hrd hres
  generalize (if pairOk t b then t else []) = T at *
  generalize (if pairOk t b then b else []) = B at *
  generalize pairOk t b = R at *
  have HC := Lib.hid (fun w => isWhole_any T B (good_len' q1) w)
  clear q1 q2 q3
  generalize wholeB T B = N at *
  go_enter Try.func32, Try.ntmps32
  go_wp2_with fail
  refine HR.out.mono ?_
  rintro e w1 ⟨rfl, hb1⟩
  have HB1 := Lib.hid (Below.step HB.out hb1); clear hb1 k0 k1
  go_wp2_with (first
    | ((with_reducible refine wp_storePairN rfl (.tmp 4) (.tmp 9) rfl T B rfl rfl ?_); intro w2 hs2 hb2; have HS2 := Lib.hid hs2; have HB2 := Lib.hid (Below.step HB1.out hb2); clear hs2 hb2)
    | (with_reducible refine wp_loadPair rfl (.tmp 4) rfl w1.heap.size T B rfl HS2.out ?_)
    | (go_at_call 64; ((with_reducible refine (HC.out _).mono ?_); rintro e w3 ⟨rfl, hb3⟩; have HB3 := Lib.hid (Below.step HB2.out hb3); clear hb3)))
  go_ret2
  exact ⟨rfl, HB3.out⟩

def GivesC (w : World) (r s : Int) (ok : Bool) (e : Ending) (w' : World) : Prop := e = .returned (.tuple #[.int .i64 r, .int .i64 s, .bool ok]) ∧ Below w.heap.size w w'
set_option maxHeartbeats 2000000 in
theorem impl_ShortestClosed (t b : List Int) (w : World) (u1 u2 : Value) (h1 : Rd w u1 t) (h2 : Rd w u2 b) (m1 : t.length ≤ 1048576) (m2 : b.length ≤ 1048576) :
    Calls Try.prog 30 #[.agg #[u1, u2]] w (GivesC w (res1_ShortestClosed t b) (res2_ShortestClosed t b) (ok_ShortestClosed t b)) := by
  unfold res1_ShortestClosed res2_ShortestClosed ok_ShortestClosed
  have hA := Box2.new 28 w u1 u2
  have B1 : Below w.heap.size w (w.alloc (.cells #[u1, u2] 28)) := Below.alloc1 w _
  have k0 := hA.c0; have k1 := hA.c1
  have hrd := readPair_any t b _ u1 u2 (h1.below B1) (h2.below B1)
  have HB := Lib.hid B1
  clear hA B1 h1 h2
  cases h : pairOk t b with
  | false =>
    rw [h] at hrd
    simp only [Bool.false_eq_true, if_false, Bool.false_and] at hrd ⊢
    have HR := Lib.hid hrd; clear hrd h
    go_enter Try.func30, Try.ntmps30
    go_wp2_with fail
    refine HR.out.mono ?_
    rintro e w1 ⟨rfl, hb1⟩
    have HB1 := Lib.hid (Below.step HB.out hb1); clear hb1 k0 k1
    go_wp2_with ((with_reducible refine wp_storePairN rfl (.tmp 5) (.tmp 12) rfl [] [] rfl rfl ?_); intro w2 hs2 hb2; have HB2 := Lib.hid (Below.step HB1.out hb2); clear hs2 hb2)
    go_ret3
    exact ⟨rfl, HB2.out⟩
  | true =>
    rw [h] at hrd
    simp only [if_true, Bool.true_and] at hrd ⊢
    have h12 := (pair12 (pairOk_good h)).1
    have HS := Lib.hid (fun w => searchFirst_any t b w)
    have HF := Lib.hid (fun w => shortestFirst_any t b h12 w)
    unfold ShOut at HF
    generalize (seC (t.length : Int) t b 79) = C at *
    generalize ((strOf (shortL false t b)).1 : Int) = x at *
    generalize ((strOf (shortL false t b)).2 : Int) = y at *
    generalize (shortL false t b).isSome = R at *
    have HR := Lib.hid hrd; clear hrd h h12
    go_enter Try.func30, Try.ntmps30
    go_wp2_with fail
    refine HR.out.mono ?_
    rintro e w1 ⟨rfl, hb1⟩
    have HB1 := Lib.hid (Below.step HB.out hb1); clear hb1 k0 k1
    go_wp2_with (first
      | ((with_reducible refine wp_storePairN rfl (.tmp 5) (.tmp 12) rfl t b rfl rfl ?_); intro w2 hs2 hb2; have HS2 := Lib.hid hs2; have HB2 := Lib.hid (Below.step HB1.out hb2); clear hs2 hb2)
      | (with_reducible refine wp_loadPair rfl (.tmp 5) rfl w1.heap.size t b rfl HS2.out ?_)
      | (go_at_call 61; ((with_reducible refine (HS.out _).mono ?_); rintro e w3 ⟨rfl, hb3⟩; have HB3 := Lib.hid (Below.step HB2.out hb3); clear hb3))
      | (go_at_call 62; ((with_reducible refine (HF.out _).mono ?_); rintro e w4 ⟨rfl, hb4⟩; have HB4 := Lib.hid (Below.step HB3.out hb4); clear hb4))
      | ((with_reducible refine wp_storeStrN rfl (.tmp 7) (.tmp 20) rfl _ _ rfl rfl ?_); intro w5 hs5 hb5; have q0 := hs5.c0; have q1 := hs5.c1; have HB5 := Lib.hid (Below.step HB4.out hb5); clear hs5 hb5))
    go_quiet (fail)
    go_wp2
    go_ret3
    exact ⟨rfl, Below.drewN HB5.out _⟩

end Go.Proofs.Ytaeeopdiodaiaaa
