/- Distances: MergeDistance and ExchangeDistance on both sides. -/
import Derived.Test.YtogjclmmjdhfeacReadArch
import Derived.Test.YtogjclmmjdhfeacComps
import Derived.Test.YtogjclmmjdhfeacListsLaw
import Derived.Deep.MidRow
import Derived.Deep.RegionHeld3
namespace Go.Proofs.Ytogjclmmjdhfeac
open Go.RowKit
set_option linter.unusedSimpArgs false
set_option linter.unusedVariables false

theorem arched_good {t b : List Int} (h : archedB t b = true) : goodB t = true ∧ goodB b = true ∧ t.length = b.length ∧ 0 < t.length := by
  unfold archedB at h
  simp only [Bool.and_eq_true, decide_eq_true_eq] at h
  have := pairOk_facts h.1
  exact ⟨this.1, this.2.1, this.2.2, h.2⟩

def res_MergeDistance (t b : List Int) : Int := if archedB t b then ((compsL t b : Nat) : Int) - 1 else 0
def ok_MergeDistance (t b : List Int) : Bool := archedB t b

set_option maxHeartbeats 1000000 in
theorem impl_MergeDistance (t b : List Int) (w : World) (u1 u2 : Value) (h1 : Rd w u1 t) (h2 : Rd w u2 b) (m1 : t.length ≤ 1048576) (m2 : b.length ≤ 1048576) :
    Calls Try.prog 9 #[.agg #[u1, u2]] w (GivesN w (res_MergeDistance t b) (ok_MergeDistance t b)) := by
  unfold res_MergeDistance ok_MergeDistance
  have hA := Box2.new 26 w u1 u2
  have B1 : Below w.heap.size w (w.alloc (.cells #[u1, u2] 26)) := Below.alloc1 w _
  have k0 := hA.c0; have k1 := hA.c1
  have HR := Lib.hid (readArched_any t b _ u1 u2 (h1.below B1) (h2.below B1))
  have HB := Lib.hid B1
  clear hA B1 h1 h2 m1 m2
  cases h : archedB t b with
  | true =>
    obtain ⟨gt, gb, hl, hp⟩ := arched_good h
    have hle := compsL_le t b
    have h12 := good_len' gt
    have HC := Lib.hid (fun w => components_any t b gt gb hl w)
    rw [h] at HR
    simp only [if_true] at HR ⊢
    generalize compsL t b = n at *
    have hw : IntKind.i64.wrap ((n : Int) - 1) = (n : Int) - 1 := IntWalk.i64_in _ (by omega)
    clear h gt gb hl hp hle h12
    go_enter Try.func9, Try.ntmps9
    go_wp2_with fail
    refine HR.out.mono ?_
    rintro e w1 ⟨rfl, hb1⟩
    have HB1 := Lib.hid (Below.step HB.out hb1); clear hb1 k0 k1
    go_wp2_with (first
      | ((with_reducible refine wp_storePairN rfl (.tmp 4) (.tmp 9) rfl t b rfl rfl ?_); intro w2 hs2 hb2; have HQ2 := Lib.hid hs2; have HB2 := Lib.hid (Below.step HB1.out hb2); clear hs2 hb2)
      | (with_reducible refine wp_loadPair rfl (.tmp 4) rfl w1.heap.size t b rfl HQ2.out ?_)
      | (go_at_call 43; ((with_reducible refine (HC.out _).mono ?_); rintro e w3 ⟨rfl, hb3⟩; have HB3 := Lib.hid (Below.step HB2.out hb3); clear hb3)))
    go_ret2
    exact ⟨rfl, HB3.out⟩
  | false =>
    rw [h] at HR
    simp only [Bool.false_eq_true, if_false] at HR ⊢
    clear h
    go_enter Try.func9, Try.ntmps9
    go_wp2_with fail
    refine HR.out.mono ?_
    rintro e w1 ⟨rfl, hb1⟩
    have HB1 := Lib.hid (Below.step HB.out hb1); clear hb1 k0 k1
    go_wp2_with ((with_reducible refine wp_storePairN rfl (.tmp 4) (.tmp 9) rfl [] [] rfl rfl ?_); intro w2 hs2 hb2; have HB2 := Lib.hid (Below.step HB1.out hb2); clear hs2 hb2)
    go_ret2
    exact ⟨rfl, HB2.out⟩

set_option maxHeartbeats 1000000 in
theorem exSome_any (t b : List Int) (w : World) (u1 u2 : Value) (h1 : Rd w u1 t) (h2 : Rd w u2 b) (m1 : t.length ≤ 1048576) (m2 : b.length ≤ 1048576) :
    Calls Try.prog 39 #[.agg #[u1, u2]] w (Tells w (archedB t b)) := by
  unfold archedB
  have hA := Box2.new 26 w u1 u2
  have B1 : Below w.heap.size w (w.alloc (.cells #[u1, u2] 26)) := Below.alloc1 w _
  have k0 := hA.c0; have k1 := hA.c1
  have HR := Lib.hid (mePair_any t b _ u1 u2 (h1.below B1) (h2.below B1) m1 m2)
  have HB := Lib.hid B1; have HA := Lib.hid hA
  obtain ⟨a1, c1, rfl, _⟩ := h1
  have hd : decide (0 < t.length) = decide ((0 : Int) < (t.length : Int)) := by rw [Bool.eq_iff_iff]; simp
  rw [hd]
  generalize t.length = n at *
  clear hA B1 h2 m1 m2 hd
  generalize pairOk t b = R at *
  cases R with
  | false =>
    go_enter Try.func39, Try.ntmps39
    go_wp2_with fail
    refine HR.out.mono ?_
    rintro e w1 ⟨rfl, hb1⟩
    have HB1 := Lib.hid (Below.step HB.out hb1); clear hb1 k0 k1
    go_wp2
    go_ret
    exact ⟨rfl, HB1.out⟩
  | true =>
    go_enter Try.func39, Try.ntmps39
    go_wp2_with fail
    refine HR.out.mono ?_
    rintro e w1 ⟨rfl, hb1⟩
    have q0 := (HA.out.below hb1).c0
    have HB1 := Lib.hid (Below.step HB.out hb1); clear hb1 k0 k1
    go_wp2
    go_ret
    exact ⟨by simp, HB1.out⟩

set_option maxHeartbeats 1000000 in
theorem spec_MergeDistance (t b : List Int) (w : World) (u1 u2 : Value) (h1 : Rd w u1 t) (h2 : Rd w u2 b) (m1 : t.length ≤ 1048576) (m2 : b.length ≤ 1048576) :
    Calls Try.prog 10 #[.agg #[u1, u2]] w (GivesN w (res_MergeDistance t b) (ok_MergeDistance t b)) := by
  unfold res_MergeDistance ok_MergeDistance
  have hA := Box2.new 26 w u1 u2
  have B1 : Below w.heap.size w (w.alloc (.cells #[u1, u2] 26)) := Below.alloc1 w _
  have k0 := hA.c0; have k1 := hA.c1
  have HR := Lib.hid (exSome_any t b _ u1 u2 (h1.below B1) (h2.below B1) m1 m2)
  have HB := Lib.hid B1; have HA := Lib.hid hA; have H1 := Lib.hid (h1.below B1); have H2 := Lib.hid (h2.below B1)
  clear hA B1 h1 h2 m1 m2
  cases h : archedB t b with
  | false =>
    rw [h] at HR
    clear h
    simp only [Bool.false_eq_true, if_false]
    go_enter Try.func10, Try.ntmps10
    go_wp2_with fail
    refine HR.out.mono ?_
    rintro e w1 ⟨rfl, hb1⟩
    go_wp2
    go_ret2
    exact ⟨rfl, Below.step HB.out hb1⟩
  | true =>
    rw [h] at HR
    obtain ⟨gt, gb, hl, hp⟩ := arched_good h
    have hle := compsL_le t b
    have h12 := good_len' gt
    have HT := Lib.hid (fun w h1 h2 => meCount_any t b gt gb hl w u1 u2 h1 h2)
    simp only [if_true]
    unfold compsL at *
    generalize cntW (par t) (par b) t.length = n at *
    have hw : IntKind.i64.wrap ((n : Int) - 1) = (n : Int) - 1 := IntWalk.i64_in _ (by omega)
    clear h gt gb hl hp hle h12
    go_enter Try.func10, Try.ntmps10
    go_wp2_with fail
    refine HR.out.mono ?_
    rintro e w1 ⟨rfl, hb1⟩
    have m0 := (HA.out.below hb1).c0; have m1 := (HA.out.below hb1).c1
    have H11 := Lib.hid (H1.out.below hb1); have H21 := Lib.hid (H2.out.below hb1); have HB1 := Lib.hid (Below.step HB.out hb1)
    clear hb1 k0 k1
    go_wp2_with fail
    refine (HT.out _ H11.out H21.out).mono ?_
    rintro e w2 ⟨rfl, hb2⟩
    have HB2 := Lib.hid (Below.step HB1.out hb2); clear hb2
    go_wp2
    go_ret2
    exact ⟨rfl, HB2.out⟩

/-! ### ExchangeDistance -/
def distL (t b : List Int) : Int := ((t.length / 2 : Nat) : Int) - ((compsL t b : Nat) : Int)
def res_ExchangeDistance (t b : List Int) : Int := if pairOk t b then distL t b else 0
def ok_ExchangeDistance (t b : List Int) : Bool := pairOk t b

structure QS (w : World) (t b : List Int) (W : World) : Prop where
  p : PairIn W w.heap.size t b
  bel : Below w.heap.size w W
theorem QS.below {w W W' : World} {t b : List Int} (h : QS w t b W) (hb : Below W.heap.size W W') : QS w t b W' := ⟨h.p.below hb, Below.step h.bel hb⟩
theorem row_atP {W : World} {g : Nat} {t b : List Int} (h : PairIn W g t b) : W.rangeAt g 0 (pairC t b).toList := by
  intro j v hj
  rw [Nat.zero_add, cell_of_row _ _ j _ _ _ h]
  simpa using hj
def loadD (v : Value) : Sem Value := Instr.loadAt 58 v
theorem lQ_eqD (v : Value) : Instr.loadAt 58 v = loadD v := rfl
attribute [local go_sem ↓] lQ_eqD
theorem QS.to {w W : World} {t b : List Int} {P : Array Value} (e : pairC t b = P) (h : QS w t b W) : Hid (QS w t b W) ∧ (loadD (.pointer (some ⟨w.heap.size, 0, none⟩))).run Try.prog W = .ok (.agg P) W :=
  ⟨h, by rw [← e]; exact run_loadAt_mid W w.heap.size 0 58 (pairC t b).toList _ (row_atP h.p) Try.underlying58 rfl (by rw [pair_info]; rfl)⟩
theorem qs_keep {w W W' : World} {t b : List Int} {P : Array Value} (e : pairC t b = P) (h : Hid (QS w t b W) ∧ (loadD (.pointer (some ⟨w.heap.size, 0, none⟩))).run Try.prog W = .ok (.agg P) W) (hb : Below W.heap.size W W') : Hid (QS w t b W') ∧ (loadD (.pointer (some ⟨w.heap.size, 0, none⟩))).run Try.prog W' = .ok (.agg P) W' := (h.1.out.below hb).to e
set_option maxHeartbeats 4000000 in
theorem distance_any (t b : List Int) (gt : goodB t = true) (gb : goodB b = true) (hl : t.length = b.length) (w : World) :
    Calls Try.prog 69 #[.agg (pairC t b)] w fun e w' => e = .returned (.int .i64 (distL t b)) ∧ Below w.heap.size w w' := by
  have HSZ := Lib.hid (fun w => pairSize_any t b w)
  have HC := Lib.hid (fun w => components_any t b gt gb hl w)
  have hle := compsL_le t b
  have h12 := good_len' gt
  have hS0 : QS w t b (w.alloc (.cells (pairC t b) 58)) := ⟨PairIn.new w t b, Below.alloc1 _ _⟩
  obtain ⟨P, hP⟩ : ∃ P, pairC t b = P := ⟨_, rfl⟩
  have hS := (hS0.below (Below.refl (w.alloc (.cells (pairC t b) 58)).heap.size (w.alloc (.cells (pairC t b) 58))).drew).to hP
  have HE := Lib.hid hP
  rw [hP] at HSZ HC hS
  unfold distL
  generalize compsL t b = n at *
  generalize t.length = s at *
  have hd : (s : Int) / 2 = ((s / 2 : Nat) : Int) := by omega
  generalize s / 2 = q at *
  have hw : IntKind.i64.wrap ((q : Int) - (n : Int)) = (q : Int) - (n : Int) := IntWalk.i64_in _ (by omega)
  have hw2 : IntKind.i64.wrap (q : Int) = (q : Int) := IntWalk.i64_in _ (by omega)
  rw [hP]
  clear hS0 hP gt gb hl
  go_enter Try.func69, Try.ntmps69
  go_wp2_with fail
  go_region_held3 (fun w' => Hid (QS w t b w') ∧ (loadD (.pointer (some ⟨w.heap.size, 0, none⟩))).run Try.prog w' = .ok (.agg P) w')
    (first | assumption | exact qs_keep HE.out (by assumption) (by assumption))
    (first
      | (go_at_call 79; ((refine (HSZ.out _).mono ?_); rintro e w5 ⟨rfl, hb5⟩; have HBB := Lib.hid (qs_keep HE.out (by assumption) hb5).1.out.bel))
      | (go_at_call 43; ((refine (HC.out _).mono ?_); rintro e w6 ⟨rfl, hb6⟩; have HBB := Lib.hid (qs_keep HE.out (by assumption) hb6).1.out.bel)))
  all_goals
    go_wp2
    go_ret
    exact ⟨rfl, HBB.out⟩

theorem results_rb (tmps : Array Value) (w : World) (g : Nat) (t b : List Int) (ok : Bool) (hg : PairIn w g t b) (h2 : tmps.getD 4 undef = .pointer (some ⟨g, 0, none⟩)) (h3 : tmps.getD 5 undef = .bool ok) :
    (results Try.f68 tmps).run Try.prog w = .ok (.tuple #[.agg (pairC t b), .bool ok]) w := by
  have h2' : tmps[4]?.getD undef = .pointer (some ⟨g, 0, none⟩) := by simpa using h2
  have h3' : tmps[5]?.getD undef = .bool ok := by simpa using h3
  have hr : Try.f68.results = #[.cell 4 58, .tmp 5] := by kernel_rfl
  simp [results, hr, h2', h3', asAddr, run_loadPair w g t b hg]
set_option maxHeartbeats 2000000 in
theorem readBoth_any (t b : List Int) (w : World) (u1 u2 : Value) (h1 : Rd w u1 t) (h2 : Rd w u2 b) :
    Calls Try.prog 68 #[u1, u2] w (PairOut w (if pairOk t b then t else []) (if pairOk t b then b else []) (pairOk t b)) := by
  have hP := zero_in w
  have B1 := Below.alloc1 w (.cells zeroQ 58)
  have HR := Lib.hid (readPair_any t b _ u1 u2 (h1.below B1) (h2.below B1))
  have HP := Lib.hid hP; have HB := Lib.hid B1
  obtain ⟨a1, c1, rfl, _⟩ := h1
  obtain ⟨a2, c2, rfl, _⟩ := h2
  generalize (if pairOk t b then t else []) = T at *
  generalize (if pairOk t b then b else []) = B at *
  generalize pairOk t b = R at *
  clear hP B1
  unfold zeroQ at *
  go_enter Try.func68, Try.ntmps68
  go_wp2_with (first
    | (go_at_call 53; ((with_reducible refine HR.out.mono ?_); rintro e w1 ⟨rfl, hb1⟩; have HP1 := Lib.hid (HP.out.below hb1); have HB1 := Lib.hid (Below.step HB.out hb1); clear hb1))
    | ((with_reducible refine wp_storePair rfl (.tmp 4) (.tmp 10) rfl w.heap.size T B [] [] rfl rfl HP1.out ?_); intro w5 hp5 hg5))
  exact bodyPost_ret (results_rb _ _ w.heap.size T B R hp5 rfl rfl) rfl ⟨rfl, HB1.out.grown hg5 HB1.out.size (by intro k hk; simp at hk; omega)⟩

set_option maxHeartbeats 1000000 in
theorem impl_ExchangeDistance (t b : List Int) (w : World) (u1 u2 : Value) (h1 : Rd w u1 t) (h2 : Rd w u2 b) (m1 : t.length ≤ 1048576) (m2 : b.length ≤ 1048576) :
    Calls Try.prog 30 #[u1, u2] w (GivesN w (res_ExchangeDistance t b) (ok_ExchangeDistance t b)) := by
  unfold res_ExchangeDistance ok_ExchangeDistance
  have HR := Lib.hid (readBoth_any t b w u1 u2 h1 h2)
  obtain ⟨g1, g2, g3⟩ := read_good t b
  have HD := Lib.hid (fun w => distance_any _ _ g1 g2 g3 w)
  have e : (if pairOk t b then distL t b else 0) = distL (if pairOk t b then t else []) (if pairOk t b then b else []) := by
    cases pairOk t b with
    | true => rfl
    | false =>
      simp only [Bool.false_eq_true, if_false]
      unfold distL
      rw [compsL_nil]
      rfl
  rw [e]
  generalize (if pairOk t b then t else []) = T at *
  generalize (if pairOk t b then b else []) = B at *
  generalize pairOk t b = R at *
  generalize distL T B = D at *
  clear g1 g2 g3 e m1 m2
  obtain ⟨a1, c1, rfl, _⟩ := h1
  obtain ⟨a2, c2, rfl, _⟩ := h2
  go_enter Try.func30, Try.ntmps30
  go_wp2_with (first
    | (go_at_call 68; ((with_reducible refine HR.out.mono ?_); rintro e w1 ⟨rfl, hb1⟩; have HB1 := Lib.hid hb1; clear hb1))
    | ((with_reducible refine wp_storePairN rfl (.tmp 6) (.tmp 12) rfl T B rfl rfl ?_); intro w2 hs2 hb2; have HQ2 := Lib.hid hs2; have HB2 := Lib.hid (Below.step HB1.out hb2); clear hs2 hb2)
    | (with_reducible refine wp_loadPair rfl (.tmp 6) rfl w1.heap.size T B rfl HQ2.out ?_)
    | (go_at_call 69; ((with_reducible refine (HD.out _).mono ?_); rintro e w3 ⟨rfl, hb3⟩; have HB3 := Lib.hid (Below.step HB2.out hb3); clear hb3)))
  go_ret2
  exact ⟨rfl, HB3.out⟩


set_option maxHeartbeats 1000000 in
set_option maxRecDepth 100000 in
theorem exDistance_any (t b : List Int) (gt : goodB t = true) (gb : goodB b = true) (hl : t.length = b.length) (w : World) (u1 u2 : Value) (h1 : Rd w u1 t) (h2 : Rd w u2 b) :
    Calls Try.prog 48 #[u1, u2] w fun e w' => e = .returned (.int .i64 (distL t b)) ∧ Below w.heap.size w w' := by
  have HC := Lib.hid (meCount_any t b gt gb hl w u1 u2 h1 h2)
  have hle := compsL_le t b
  have h12 := good_len' gt
  unfold distL
  unfold compsL at *
  generalize cntW (par t) (par b) t.length = n at *
  obtain ⟨a1, c1, rfl, hx, hy, _⟩ := h1
  obtain ⟨a2, c2, rfl, _⟩ := h2
  unfold maxLen at hy
  generalize t.length = s at *
  have hd : (s : Int) / 2 = ((s / 2 : Nat) : Int) := by omega
  generalize s / 2 = q at *
  have hw : IntKind.i64.wrap ((q : Int) - (n : Int)) = (q : Int) - (n : Int) := IntWalk.i64_in _ (by omega)
  have hw2 : IntKind.i64.wrap (q : Int) = (q : Int) := IntWalk.i64_in _ (by omega)
  clear gt gb hl hle h12
  go_enter Try.func48, Try.ntmps48
  go_wp2_with fail
  refine HC.out.mono ?_
  rintro e w1 ⟨rfl, hb1⟩
  have HB1 := Lib.hid hb1; clear hb1
  go_wp2
  go_ret
  exact ⟨rfl, HB1.out⟩


end Go.Proofs.Ytogjclmmjdhfeac
