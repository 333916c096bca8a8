/- IsClosed, InsideOf, OutsideOf: the program's functions and the model's. -/
import Derived.Test.YtogjclmmjdhfeabCutIs
import Derived.Test.YtogjclmmjdhfeabCutAl
import Derived.Test.YtogjclmmjdhfeabCutAll
import Derived.Test.YtogjclmmjdhfeabPairM
namespace Go.Proofs.Ytogjclmmjdhfeab
open Go.RowKit
set_option linter.unusedSimpArgs false
set_option linter.unusedVariables false

theorem ok_pair {t b : List Int} (h : goodP t b) : pairOk t b = true := by simp [pairOk, h.1, h.2.1, h.2.2]
theorem two_new (w : World) : PairIn ((w.alloc (.cells #[.int .i64 0, .int .i64 0, .int .i64 0, .int .i64 0, .int .i64 0, .int .i64 0, .int .i64 0, .int .i64 0, .int .i64 0, .int .i64 0, .int .i64 0, .int .i64 0, .int .i64 0, .int .i64 0, .int .i64 0, .int .i64 0, .int .i64 0, .int .i64 0, .int .i64 0, .int .i64 0, .int .i64 0, .int .i64 0, .int .i64 0, .int .i64 0, .int .i64 0, .int .i64 0] 102)).alloc (.cells #[.int .i64 0, .int .i64 0] 142)) w.heap.size [] [] ∧ StrIn ((w.alloc (.cells #[.int .i64 0, .int .i64 0, .int .i64 0, .int .i64 0, .int .i64 0, .int .i64 0, .int .i64 0, .int .i64 0, .int .i64 0, .int .i64 0, .int .i64 0, .int .i64 0, .int .i64 0, .int .i64 0, .int .i64 0, .int .i64 0, .int .i64 0, .int .i64 0, .int .i64 0, .int .i64 0, .int .i64 0, .int .i64 0, .int .i64 0, .int .i64 0, .int .i64 0, .int .i64 0] 102)).alloc (.cells #[.int .i64 0, .int .i64 0] 142)) (w.heap.size + 1) 0 0 ∧ Below w.heap.size w ((w.alloc (.cells #[.int .i64 0, .int .i64 0, .int .i64 0, .int .i64 0, .int .i64 0, .int .i64 0, .int .i64 0, .int .i64 0, .int .i64 0, .int .i64 0, .int .i64 0, .int .i64 0, .int .i64 0, .int .i64 0, .int .i64 0, .int .i64 0, .int .i64 0, .int .i64 0, .int .i64 0, .int .i64 0, .int .i64 0, .int .i64 0, .int .i64 0, .int .i64 0, .int .i64 0, .int .i64 0] 102)).alloc (.cells #[.int .i64 0, .int .i64 0] 142)) := by
  refine ⟨(pair_zero w).below (Below.alloc1 _ _), ?_, Below.step (Below.alloc1 _ _) (Below.alloc1 _ _)⟩
  have := StrIn.new (w.alloc (.cells #[.int .i64 0, .int .i64 0, .int .i64 0, .int .i64 0, .int .i64 0, .int .i64 0, .int .i64 0, .int .i64 0, .int .i64 0, .int .i64 0, .int .i64 0, .int .i64 0, .int .i64 0, .int .i64 0, .int .i64 0, .int .i64 0, .int .i64 0, .int .i64 0, .int .i64 0, .int .i64 0, .int .i64 0, .int .i64 0, .int .i64 0, .int .i64 0, .int .i64 0, .int .i64 0] 102)) 0 0
  rw [World.size_alloc] at this
  exact this
/-- readStretch at any arguments -/
theorem readStretch_any (t b : List Int) (i j : Int) (w : World) (u1 u2 : Value) (h1 : Rd w u1 t) (h2 : Rd w u2 b) :
    Calls Try.prog 130 #[.agg #[u1, u2], .int .i64 i, .int .i64 j] w (StrOut w (if ok_IsClosed t b i j then t else []) (if ok_IsClosed t b i j then b else []) (if ok_IsClosed t b i j then i else 0) (if ok_IsClosed t b i j then j else 0) (ok_IsClosed t b i j)) := by
  cases h : ok_IsClosed t b i j with
  | false => exact readStretch_no t b i j h w u1 u2 h1 h2
  | true =>
    simp only [ok_IsClosed, Bool.and_eq_true] at h
    obtain ⟨x, y, rfl, rfl, hxy, hy⟩ := inS_yes h.2
    exact readStretch_yes t b x y (pairOk_good h.1) hxy hy w u1 u2 h1 h2

set_option maxHeartbeats 2000000 in
theorem impl_IsClosed (t b : List Int) (i j : Int) (w : World) (u1 u2 : Value) (h1 : Rd w u1 t) (h2 : Rd w u2 b) (m1 : t.length ≤ 1048576) (m2 : b.length ≤ 1048576) :
    Calls Try.prog 52 #[.agg #[u1, u2], .int .i64 i, .int .i64 j] w (GivesD w (res_IsClosed t b i j) (ok_IsClosed t b i j)) := by
  unfold res_IsClosed
  have hA := Box2.new 26 w u1 u2
  have B1 : Below w.heap.size w (w.alloc (.cells #[u1, u2] 26)) := Below.alloc1 w _
  have k0 := hA.c0; have k1 := hA.c1
  have hrd := readStretch_any t b i j _ u1 u2 (h1.below B1) (h2.below B1)
  have HB := Lib.hid B1
  clear hA B1 h1 h2
  cases h : ok_IsClosed t b i j with
  | false =>
    rw [h] at hrd
    simp only [Bool.false_eq_true, if_false] at hrd
    have HR := Lib.hid hrd; clear hrd h
    go_enter Try.func52, Try.ntmps52
    go_wp2_with fail
    refine HR.out.mono ?_
    rintro e w1 ⟨rfl, hb1⟩
    have HB1 := Lib.hid (Below.step HB.out hb1)
    have HT := Lib.hid (two_new w1)
    clear hb1 k0 k1
    go_wp2_with (first
      | ((with_reducible refine wp_storePair rfl (.tmp 8) (.tmp 16) rfl w1.heap.size [] [] [] [] rfl rfl HT.out.1 ?_); intro w2 hs2 hg2; have HS2 := Lib.hid (HT.out.2.1.grown hg2 (by simp)); have HB2 := Lib.hid ((Below.step HB1.out HT.out.2.2).grown hg2 (Nat.le_trans HB1.out.size HT.out.2.2.size) (by intro k hk; simp at hk; have := HB1.out.size; omega)); clear hs2 hg2)
      | ((with_reducible refine wp_storeStr rfl (.tmp 9) (.tmp 17) rfl (w1.heap.size + 1) 0 0 0 0 rfl rfl HS2.out ?_); intro w3 hs3 hg3; have HB3 := Lib.hid (HB2.out.grown hg3 HB2.out.size (by intro k hk; simp at hk; have := HB1.out.size; omega)); clear hs3 hg3))
    go_ret2
    exact ⟨rfl, HB3.out⟩
  | true =>
    rw [h] at hrd
    simp only [if_true] at hrd
    simp only [ok_IsClosed, Bool.and_eq_true] at h
    obtain ⟨x, y, rfl, rfl, hxy, hy⟩ := inS_yes h.2
    have h12 := pair12 (pairOk_good h.1)
    have HC := Lib.hid (fun w => isClosed_any t b x y hxy (by omega) w)
    have HR := Lib.hid hrd; clear hrd h
    simp only [Int.toNat_natCast, Bool.true_and]
    generalize closedL t b x y = R at *
    clear hxy hy h12
    go_enter Try.func52, Try.ntmps52
    go_wp2_with fail
    refine HR.out.mono ?_
    rintro e w1 ⟨rfl, hb1⟩
    have HB1 := Lib.hid (Below.step HB.out hb1)
    have HT := Lib.hid (two_new w1)
    clear hb1 k0 k1
    go_wp2_with (first
      | ((with_reducible refine wp_storePair rfl (.tmp 8) (.tmp 16) rfl w1.heap.size t b [] [] rfl rfl HT.out.1 ?_); intro w2 hs2 hg2; have HP2 := Lib.hid hs2; have HS2 := Lib.hid (HT.out.2.1.grown hg2 (by simp)); have HB2 := Lib.hid ((Below.step HB1.out HT.out.2.2).grown hg2 (Nat.le_trans HB1.out.size HT.out.2.2.size) (by intro k hk; simp at hk; have := HB1.out.size; omega)); clear hs2 hg2)
      | ((with_reducible refine wp_storeStr rfl (.tmp 9) (.tmp 17) rfl (w1.heap.size + 1) x y 0 0 rfl rfl HS2.out ?_); intro w3 hs3 hg3; have HS3 := Lib.hid hs3; have HP3 := Lib.hid (HP2.out.grown hg3 (by simp)); have HB3 := Lib.hid (HB2.out.grown hg3 HB2.out.size (by intro k hk; simp at hk; have := HB1.out.size; omega)); clear hs3 hg3)
      | (with_reducible refine wp_loadPairG (.tmp 8) rfl w1.heap.size t b rfl HP3.out (by with_unfolding_all rfl) ?_)
      | (with_reducible refine wp_loadStrG (.tmp 9) rfl (w1.heap.size + 1) x y rfl HS3.out (by with_unfolding_all rfl) ?_)
      | (go_at_call 131; ((with_reducible refine (HC.out _).mono ?_); rintro e w4 ⟨rfl, hb4⟩; have HB4 := Lib.hid (Below.step HB3.out hb4); clear hb4)))
    go_ret2
    exact ⟨rfl, HB4.out⟩

set_option maxHeartbeats 2000000 in
theorem spec_IsClosed (t b : List Int) (i j : Int) (w : World) (u1 u2 : Value) (h1 : Rd w u1 t) (h2 : Rd w u2 b) (m1 : t.length ≤ 1048576) (m2 : b.length ≤ 1048576) :
    Calls Try.prog 53 #[.agg #[u1, u2], .int .i64 i, .int .i64 j] w (GivesD w (res_IsClosed t b i j) (ok_IsClosed t b i j)) := by
  unfold res_IsClosed
  have hA := Box2.new 26 w u1 u2
  have B1 : Below w.heap.size w (w.alloc (.cells #[u1, u2] 26)) := Below.alloc1 w _
  have k0 := hA.c0; have k1 := hA.c1
  have hrd := siStretch_any t b i j _ u1 u2 (h1.below B1) (h2.below B1) m1 m2
  have HB := Lib.hid B1; have HA := Lib.hid hA; have H1 := Lib.hid (h1.below B1); have H2 := Lib.hid (h2.below B1)
  clear hA B1 h1 h2
  cases h : ok_IsClosed t b i j with
  | false =>
    rw [h] at hrd
    have HR := Lib.hid hrd; clear hrd h
    go_enter Try.func53, Try.ntmps53
    go_wp2_with fail
    refine HR.out.mono ?_
    rintro e w1 ⟨rfl, hb1⟩
    go_wp2
    go_ret2
    exact ⟨rfl, Below.step HB.out hb1⟩
  | true =>
    rw [h] at hrd
    simp only [ok_IsClosed, Bool.and_eq_true] at h
    obtain ⟨x, y, rfl, rfl, hxy, hy⟩ := inS_yes h.2
    have hgp := pairOk_good h.1
    have HC := Lib.hid (fun w h1 h2 => siClosed_any t b x y hxy hy hgp.2.2 (pair12 hgp).1 w u1 u2 h1 h2)
    have HR := Lib.hid hrd; clear hrd h hgp hxy hy
    simp only [Int.toNat_natCast, Bool.true_and]
    generalize closedL t b x y = R at *
    go_enter Try.func53, Try.ntmps53
    go_wp2_with fail
    refine HR.out.mono ?_
    rintro e w1 ⟨rfl, hb1⟩
    have n0 := (HA.out.below hb1).c0; have n1 := (HA.out.below hb1).c1
    have H11 := Lib.hid (H1.out.below hb1); have H21 := Lib.hid (H2.out.below hb1); have HB1 := Lib.hid (Below.step HB.out hb1)
    clear hb1 k0 k1
    go_wp2_with fail
    refine (HC.out _ H11.out H21.out).mono ?_
    rintro e w2 ⟨rfl, hb2⟩
    go_wp2
    go_ret2
    exact ⟨rfl, Below.step HB1.out hb2⟩

theorem results_rcl (tmps : Array Value) (w : World) (g h : Nat) (t b : List Int) (i j : Int) (ok : Bool) (hg : PairIn w g t b) (hh : StrIn w h i j) (h6 : tmps.getD 6 undef = .pointer (some ⟨g, 0, none⟩)) (h7 : tmps.getD 7 undef = .pointer (some ⟨h, 0, none⟩)) (h8 : tmps.getD 8 undef = .bool ok) :
    (results Try.f122 tmps).run Try.prog w = .ok (.tuple #[.agg (pairC t b), .agg #[.int .i64 i, .int .i64 j], .bool ok]) w := by
  have h6' : tmps[6]?.getD undef = .pointer (some ⟨g, 0, none⟩) := by simpa using h6
  have h7' : tmps[7]?.getD undef = .pointer (some ⟨h, 0, none⟩) := by simpa using h7
  have h8' : tmps[8]?.getD undef = .bool ok := by simpa using h8
  have hr : Try.f122.results = #[.cell 6 102, .cell 7 142, .tmp 8] := by kernel_rfl
  simp [results, hr, h6', h7', h8', asAddr, run_loadPair w g t b hg, run_loadStr w h i j hh]
def loadQ (v : Value) : Sem Value := Instr.loadAt 102 v
theorem loadQ_eq (v : Value) : Instr.loadAt 102 v = loadQ v := rfl
def loadT (v : Value) : Sem Value := Instr.loadAt 142 v
theorem loadT_eq (v : Value) : Instr.loadAt 142 v = loadT v := rfl
def storeR (v x : Value) : Sem Unit := Instr.storeAt 102 v x
theorem storeR_eq (v x : Value) : Instr.storeAt 102 v x = storeR v x := rfl
def storeT (v x : Value) : Sem Unit := Instr.storeAt 142 v x
theorem storeT_eq (v x : Value) : Instr.storeAt 142 v x = storeT v x := rfl
theorem run_storeR (w : World) (g : Nat) (t b : List Int) (ht : w.there g 0 26) :
    (storeR (.pointer (some ⟨g, 0, none⟩)) (.agg (pairC t b))).run Try.prog w = .ok () (w.setCells g 0 (pairC t b).toList) :=
  run_storeAt_mid w g 0 102 (pairC t b) (by rw [pairC_size]; exact ht) (by rw [pair_info, pairC_size]) (pairC_one t b)
theorem run_storeT (w : World) (g : Nat) (i j : Int) (ht : w.there g 0 2) :
    (storeT (.pointer (some ⟨g, 0, none⟩)) (.agg #[.int .i64 i, .int .i64 j])).run Try.prog w = .ok () (w.setCells g 0 [.int .i64 i, .int .i64 j]) :=
  run_storeAt_mid w g 0 142 #[.int .i64 i, .int .i64 j] ht (by rw [str_info]; rfl) (by simp [Value.oneCell'])
attribute [local go_sem ↓] loadQ_eq loadT_eq storeR_eq storeT_eq
theorem str_setsAll {w : World} {g : Nat} {i j i0 j0 : Int} (h : StrIn w g i0 j0) : StrIn (w.setCells g 0 [.int .i64 i, .int .i64 j]) g i j :=
  heap_setCell_same _ g 1 _ _ (.int .i64 j) (heap_setCell_same w g 0 _ _ (.int .i64 i) h)
theorem rcl_facts {w : World} {g0 g1 g6 g7 : Nat} {t b : List Int} {i j : Int} (h0 : PairIn w g0 t b) (h1 : StrIn w g1 i j) (h6 : PairIn w g6 [] []) (h7 : StrIn w g7 0 0) (hne : g6 ≠ g7) :
    (loadQ (.pointer (some ⟨g0, 0, none⟩))).run Try.prog w.drew = .ok (.agg (pairC t b)) w.drew ∧ (loadT (.pointer (some ⟨g1, 0, none⟩))).run Try.prog w.drew = .ok (.agg #[.int .i64 i, .int .i64 j]) w.drew ∧ w.drew.there g6 0 26 ∧ w.drew.there g7 0 2 ∧
    (w.drew.setCells g6 0 (pairC t b).toList).there g7 0 2 ∧ (w.drew.setCells g7 0 [.int .i64 i, .int .i64 j]).there g6 0 26 := by
  have a6 := row_free w.drew g6 0 _ _ (show PairIn w.drew g6 [] [] from h6) 26 (by rw [pairC_size]; omega)
  have a7 := row_free w.drew g7 0 _ _ (show StrIn w.drew g7 0 0 from h7) 2 (by simp)
  refine ⟨run_loadAt_mid w.drew g0 0 102 (pairC t b).toList _ (row_at (show PairIn w.drew g0 t b from h0)) Try.underlying102 rfl (by rw [pair_info]; rfl), run_loadAt_mid w.drew g1 0 142 [.int .i64 i, .int .i64 j] _ (row_at (show StrIn w.drew g1 i j from h1)) Try.underlying142 rfl (by rw [str_info]; rfl), a6, a7, World.there_setCells a7 _ _ _, World.there_setCells a6 _ _ _⟩
theorem rcl_fin1 {w0 w : World} {g6 g7 : Nat} {t b : List Int} {i j : Int} (h6 : PairIn w g6 [] []) (h7 : StrIn w g7 0 0) (hb : Below w0.heap.size w0 w) (hne : g6 ≠ g7) (l6 : w0.heap.size ≤ g6) (l7 : w0.heap.size ≤ g7) :
    PairIn ((w.drew.setCells g6 0 (pairC t b).toList).setCells g7 0 [.int .i64 i, .int .i64 j]) g6 t b ∧ StrIn ((w.drew.setCells g6 0 (pairC t b).toList).setCells g7 0 [.int .i64 i, .int .i64 j]) g7 i j ∧ Below w0.heap.size w0 ((w.drew.setCells g6 0 (pairC t b).toList).setCells g7 0 [.int .i64 i, .int .i64 j]) :=
  ⟨(pair_setsAll (show PairIn w.drew g6 [] [] from h6)).grown (grown_setsC g7 _ 0 _) (by simp; omega), str_setsAll ((show StrIn w.drew g7 0 0 from h7).grown (grown_setsC g6 _ 0 _) (by simp; omega)), Below.setCells g7 l7 _ 0 _ (Below.setCells g6 l6 _ 0 _ (Below.drew hb))⟩
theorem rcl_fin2 {w0 w : World} {g6 g7 : Nat} {t b : List Int} {i j : Int} (h6 : PairIn w g6 [] []) (h7 : StrIn w g7 0 0) (hb : Below w0.heap.size w0 w) (hne : g6 ≠ g7) (l6 : w0.heap.size ≤ g6) (l7 : w0.heap.size ≤ g7) :
    PairIn ((w.drew.setCells g7 0 [.int .i64 i, .int .i64 j]).setCells g6 0 (pairC t b).toList) g6 t b ∧ StrIn ((w.drew.setCells g7 0 [.int .i64 i, .int .i64 j]).setCells g6 0 (pairC t b).toList) g7 i j ∧ Below w0.heap.size w0 ((w.drew.setCells g7 0 [.int .i64 i, .int .i64 j]).setCells g6 0 (pairC t b).toList) :=
  ⟨pair_setsAll ((show PairIn w.drew g6 [] [] from h6).grown (grown_setsC g7 _ 0 _) (by simp; omega)), (str_setsAll (show StrIn w.drew g7 0 0 from h7)).grown (grown_setsC g6 _ 0 _) (by simp; omega), Below.setCells g6 l6 _ 0 _ (Below.setCells g7 l7 _ 0 _ (Below.drew hb))⟩
theorem rcl_world {w0 w : World} {g0 g1 g6 g7 : Nat} {t b : List Int} {i j : Int} (h0 : PairIn w g0 t b) (h1 : StrIn w g1 i j) (h6 : PairIn w g6 [] []) (h7 : StrIn w g7 0 0) (hb : Below w0.heap.size w0 w) (hne : g6 ≠ g7) (l6 : w0.heap.size ≤ g6) (l7 : w0.heap.size ≤ g7) (n1 : g1 ≠ g6) (n0 : g0 ≠ g7) :
    ∃ W6 W7 W67 W76, (loadQ (.pointer (some ⟨g0, 0, none⟩))).run Try.prog w.drew = .ok (.agg (pairC t b)) w.drew ∧ (loadT (.pointer (some ⟨g1, 0, none⟩))).run Try.prog w.drew = .ok (.agg #[.int .i64 i, .int .i64 j]) w.drew ∧
      (storeR (.pointer (some ⟨g6, 0, none⟩)) (.agg (pairC t b))).run Try.prog w.drew = .ok () W6 ∧ (storeT (.pointer (some ⟨g7, 0, none⟩)) (.agg #[.int .i64 i, .int .i64 j])).run Try.prog w.drew = .ok () W7 ∧
      (storeT (.pointer (some ⟨g7, 0, none⟩)) (.agg #[.int .i64 i, .int .i64 j])).run Try.prog W6 = .ok () W67 ∧ (storeR (.pointer (some ⟨g6, 0, none⟩)) (.agg (pairC t b))).run Try.prog W7 = .ok () W76 ∧
      (loadT (.pointer (some ⟨g1, 0, none⟩))).run Try.prog W6 = .ok (.agg #[.int .i64 i, .int .i64 j]) W6 ∧ (loadQ (.pointer (some ⟨g0, 0, none⟩))).run Try.prog W7 = .ok (.agg (pairC t b)) W7 ∧
      (PairIn W67 g6 t b ∧ StrIn W67 g7 i j ∧ Below w0.heap.size w0 W67) ∧ (PairIn W76 g6 t b ∧ StrIn W76 g7 i j ∧ Below w0.heap.size w0 W76) := by
  obtain ⟨y1, y2, y3, y4, y5, y6⟩ := rcl_facts h0 h1 h6 h7 hne
  exact ⟨_, _, _, _, y1, y2, run_storeR _ g6 t b y3, run_storeT _ g7 i j y4, run_storeT _ g7 i j y5, run_storeR _ g6 t b y6, run_loadAt_mid _ g1 0 142 [.int .i64 i, .int .i64 j] _ (row_at ((show StrIn w.drew g1 i j from h1).grown (grown_setsC g6 _ 0 _) (by simp; omega))) Try.underlying142 rfl (by rw [str_info]; rfl), run_loadAt_mid _ g0 0 102 (pairC t b).toList _ (row_at ((show PairIn w.drew g0 t b from h0).grown (grown_setsC g7 _ 0 _) (by simp; omega))) Try.underlying102 rfl (by rw [pair_info]; rfl), rcl_fin1 h6 h7 hb hne l6 l7, rcl_fin2 h6 h7 hb hne l6 l7⟩
set_option maxRecDepth 100000 in
set_option maxHeartbeats 4000000 in
theorem readClosed_noa (t b : List Int) (i j : Int) (h : ok_IsClosed t b i j = false) (w : World) (u1 u2 : Value) (h1 : Rd w u1 t) (h2 : Rd w u2 b) :
    Calls Try.prog 122 #[.agg #[u1, u2], .int .i64 i, .int .i64 j] w (StrOut w [] [] 0 0 false) := by
  obtain ⟨hA, hP, hS, B3⟩ := rst_new w u1 u2
  have k0 := hA.c0; have k1 := hA.c1
  have HP := Lib.hid hP; have HS := Lib.hid hS; have HB := Lib.hid B3; have H1 := Lib.hid (h1.below B3); have H2 := Lib.hid (h2.below B3)
  have HR := Lib.hid (fun w h1 h2 => readStretch_no t b i j h w u1 u2 h1 h2)
  clear h
  clear hA hP hS B3 h1 h2
  go_enter Try.func122, Try.ntmps122
  go_wp2_with fail
  refine (HR.out _ H1.out H2.out).mono ?_
  rintro e w1 ⟨rfl, hb1⟩
  have HP1 := Lib.hid (HP.out.below hb1); have HS1 := Lib.hid (HS.out.below hb1); have HB1 := Lib.hid (Below.step HB.out hb1)
  have HT := Lib.hid (two_new w1)
  have hlt : w.heap.size + 1 + 1 < w1.heap.size := HS1.out.lt
  have HP2 := Lib.hid (HP1.out.below HT.out.2.2); have HS2 := Lib.hid (HS1.out.below HT.out.2.2); have HB2 := Lib.hid (Below.step HB1.out HT.out.2.2)
  clear hb1 k0 k1
  go_wp2_with (first
    | ((with_reducible refine wp_storePair rfl (.tmp 9) (.tmp 17) rfl w1.heap.size [] [] [] [] rfl rfl HT.out.1 ?_); intro w3 hs3 hg3; have HQ3 := Lib.hid hs3; have HX3 := Lib.hid (HT.out.2.1.grown hg3 (by simp)); have HP3 := Lib.hid (HP2.out.grown hg3 (by simp; omega)); have HS3 := Lib.hid (HS2.out.grown hg3 (by simp; omega)); have HB3 := Lib.hid (HB2.out.grown hg3 HB2.out.size (by intro k hk; simp at hk; omega)); clear hs3 hg3)
    | ((with_reducible refine wp_storeStr rfl (.tmp 10) (.tmp 18) rfl (w1.heap.size + 1) 0 0 0 0 rfl rfl HX3.out ?_); intro w4 hs4 hg4; have HX4 := Lib.hid hs4; have HQ4 := Lib.hid (HQ3.out.grown hg4 (by simp)); have HP4 := Lib.hid (HP3.out.grown hg4 (by simp; omega)); have HS4 := Lib.hid (HS3.out.grown hg4 (by simp; omega)); have HB4 := Lib.hid (HB3.out.grown hg4 HB3.out.size (by intro k hk; simp at hk; omega)); clear hs4 hg4)
    | ((with_reducible refine wp_storePair rfl (.tmp 6) (.tmp 28) rfl (w.heap.size + 1) [] [] [] [] rfl rfl HP4.out ?_); intro w6 hs6 hg6; have HP6 := Lib.hid hs6; have HS6 := Lib.hid (HS4.out.grown hg6 (by simp)); have HB6 := Lib.hid (HB4.out.grown hg6 HB4.out.size (by intro k hk; simp at hk; omega)); clear hs6 hg6)
    | ((with_reducible refine wp_storeStr rfl (.tmp 7) (.tmp 29) rfl (w.heap.size + 1 + 1) 0 0 0 0 rfl rfl HS6.out ?_); intro w7 hs7 hg7; have HS7 := Lib.hid hs7; have HP7 := Lib.hid (HP6.out.grown hg7 (by simp)); have HB7 := Lib.hid (HB6.out.grown hg7 HB6.out.size (by intro k hk; simp at hk; omega)); clear hs7 hg7))
  exact bodyPost_ret (results_rcl _ _ (w.heap.size + 1) (w.heap.size + 1 + 1) [] [] 0 0 false HP7.out HS7.out rfl rfl rfl) rfl ⟨rfl, HB7.out⟩
set_option maxRecDepth 100000 in
set_option maxHeartbeats 4000000 in
theorem readClosed_nob (t b : List Int) (x y : Nat) (hg : goodP t b) (hxy : x < y) (hy : y < t.length) (hc : closedL t b x y = false) (w : World) (u1 u2 : Value) (h1 : Rd w u1 t) (h2 : Rd w u2 b) :
    Calls Try.prog 122 #[.agg #[u1, u2], .int .i64 (x : Int), .int .i64 (y : Int)] w (StrOut w [] [] 0 0 false) := by
  obtain ⟨hA, hP, hS, B3⟩ := rst_new w u1 u2
  have k0 := hA.c0; have k1 := hA.c1
  have HP := Lib.hid hP; have HS := Lib.hid hS; have HB := Lib.hid B3; have H1 := Lib.hid (h1.below B3); have H2 := Lib.hid (h2.below B3)
  have HR := Lib.hid (fun w h1 h2 => readStretch_yes t b x y hg hxy hy w u1 u2 h1 h2)
  have hcl := fun w => isClosed_any t b x y hxy (by have := (pair12 hg).1; omega) w
  rw [hc] at hcl
  have HC := Lib.hid hcl
  clear hg hxy hy hc hcl
  clear hA hP hS B3 h1 h2
  go_enter Try.func122, Try.ntmps122
  go_wp2_with fail
  refine (HR.out _ H1.out H2.out).mono ?_
  rintro e w1 ⟨rfl, hb1⟩
  have HP1 := Lib.hid (HP.out.below hb1); have HS1 := Lib.hid (HS.out.below hb1); have HB1 := Lib.hid (Below.step HB.out hb1)
  have HT := Lib.hid (two_new w1)
  have hlt : w.heap.size + 1 + 1 < w1.heap.size := HS1.out.lt
  have HP2 := Lib.hid (HP1.out.below HT.out.2.2); have HS2 := Lib.hid (HS1.out.below HT.out.2.2); have HB2 := Lib.hid (Below.step HB1.out HT.out.2.2)
  clear hb1 k0 k1
  go_wp2_with (first
    | ((with_reducible refine wp_storePair rfl (.tmp 9) (.tmp 17) rfl w1.heap.size t b [] [] rfl rfl HT.out.1 ?_); intro w3 hs3 hg3; have HQ3 := Lib.hid hs3; have HX3 := Lib.hid (HT.out.2.1.grown hg3 (by simp)); have HP3 := Lib.hid (HP2.out.grown hg3 (by simp; omega)); have HS3 := Lib.hid (HS2.out.grown hg3 (by simp; omega)); have HB3 := Lib.hid (HB2.out.grown hg3 HB2.out.size (by intro k hk; simp at hk; omega)); clear hs3 hg3)
    | ((with_reducible refine wp_storeStr rfl (.tmp 10) (.tmp 18) rfl (w1.heap.size + 1) x y 0 0 rfl rfl HX3.out ?_); intro w4 hs4 hg4; have HX4 := Lib.hid hs4; have HQ4 := Lib.hid (HQ3.out.grown hg4 (by simp)); have HP4 := Lib.hid (HP3.out.grown hg4 (by simp; omega)); have HS4 := Lib.hid (HS3.out.grown hg4 (by simp; omega)); have HB4 := Lib.hid (HB3.out.grown hg4 HB3.out.size (by intro k hk; simp at hk; omega)); clear hs4 hg4)
    | (with_reducible refine wp_loadPairG (.tmp 9) rfl w1.heap.size t b rfl HQ4.out (by with_unfolding_all rfl) ?_)
    | (with_reducible refine wp_loadStrG (.tmp 10) rfl (w1.heap.size + 1) x y rfl HX4.out (by with_unfolding_all rfl) ?_)
    | (go_at_call 131; ((with_reducible refine (HC.out _).mono ?_); rintro e w5 ⟨rfl, hb5⟩; have HX5 := Lib.hid (HX4.out.below hb5); have HQ5 := Lib.hid (HQ4.out.below hb5); have HP5 := Lib.hid (HP4.out.below hb5); have HS5 := Lib.hid (HS4.out.below hb5); have HB5 := Lib.hid (Below.step HB4.out hb5); clear hb5))
    | ((with_reducible refine wp_storePair rfl (.tmp 6) (.tmp 28) rfl (w.heap.size + 1) [] [] [] [] rfl rfl HP5.out ?_); intro w6 hs6 hg6; have HP6 := Lib.hid hs6; have HS6 := Lib.hid (HS5.out.grown hg6 (by simp)); have HB6 := Lib.hid (HB5.out.grown hg6 HB5.out.size (by intro k hk; simp at hk; omega)); clear hs6 hg6)
    | ((with_reducible refine wp_storeStr rfl (.tmp 7) (.tmp 29) rfl (w.heap.size + 1 + 1) 0 0 0 0 rfl rfl HS6.out ?_); intro w7 hs7 hg7; have HS7 := Lib.hid hs7; have HP7 := Lib.hid (HP6.out.grown hg7 (by simp)); have HB7 := Lib.hid (HB6.out.grown hg7 HB6.out.size (by intro k hk; simp at hk; omega)); clear hs7 hg7))
  exact bodyPost_ret (results_rcl _ _ (w.heap.size + 1) (w.heap.size + 1 + 1) [] [] 0 0 false HP7.out HS7.out rfl rfl rfl) rfl ⟨rfl, HB7.out⟩
set_option maxRecDepth 100000 in
set_option maxHeartbeats 4000000 in
theorem readClosed_yes (t b : List Int) (x y : Nat) (hg : goodP t b) (hxy : x < y) (hy : y < t.length) (hc : closedL t b x y = true) (w : World) (u1 u2 : Value) (h1 : Rd w u1 t) (h2 : Rd w u2 b) :
    Calls Try.prog 122 #[.agg #[u1, u2], .int .i64 (x : Int), .int .i64 (y : Int)] w (StrOut w t b x y true) := by
  obtain ⟨hA, hP, hS, B3⟩ := rst_new w u1 u2
  have k0 := hA.c0; have k1 := hA.c1
  have HP := Lib.hid hP; have HS := Lib.hid hS; have HB := Lib.hid B3; have H1 := Lib.hid (h1.below B3); have H2 := Lib.hid (h2.below B3)
  have HR := Lib.hid (fun w h1 h2 => readStretch_yes t b x y hg hxy hy w u1 u2 h1 h2)
  have hcl := fun w => isClosed_any t b x y hxy (by have := (pair12 hg).1; omega) w
  rw [hc] at hcl
  have HC := Lib.hid hcl
  clear hg hxy hy hc hcl
  clear hA hP hS B3 h1 h2
  go_enter Try.func122, Try.ntmps122
  go_wp2_with fail
  refine (HR.out _ H1.out H2.out).mono ?_
  rintro e w1 ⟨rfl, hb1⟩
  have HP1 := Lib.hid (HP.out.below hb1); have HS1 := Lib.hid (HS.out.below hb1); have HB1 := Lib.hid (Below.step HB.out hb1)
  have HT := Lib.hid (two_new w1)
  have hlt : w.heap.size + 1 + 1 < w1.heap.size := HS1.out.lt
  have HP2 := Lib.hid (HP1.out.below HT.out.2.2); have HS2 := Lib.hid (HS1.out.below HT.out.2.2); have HB2 := Lib.hid (Below.step HB1.out HT.out.2.2)
  clear hb1 k0 k1
  go_wp2_with (first
    | ((with_reducible refine wp_storePair rfl (.tmp 9) (.tmp 17) rfl w1.heap.size t b [] [] rfl rfl HT.out.1 ?_); intro w3 hs3 hg3; have HQ3 := Lib.hid hs3; have HX3 := Lib.hid (HT.out.2.1.grown hg3 (by simp)); have HP3 := Lib.hid (HP2.out.grown hg3 (by simp; omega)); have HS3 := Lib.hid (HS2.out.grown hg3 (by simp; omega)); have HB3 := Lib.hid (HB2.out.grown hg3 HB2.out.size (by intro k hk; simp at hk; omega)); clear hs3 hg3)
    | ((with_reducible refine wp_storeStr rfl (.tmp 10) (.tmp 18) rfl (w1.heap.size + 1) x y 0 0 rfl rfl HX3.out ?_); intro w4 hs4 hg4; have HX4 := Lib.hid hs4; have HQ4 := Lib.hid (HQ3.out.grown hg4 (by simp)); have HP4 := Lib.hid (HP3.out.grown hg4 (by simp; omega)); have HS4 := Lib.hid (HS3.out.grown hg4 (by simp; omega)); have HB4 := Lib.hid (HB3.out.grown hg4 HB3.out.size (by intro k hk; simp at hk; omega)); clear hs4 hg4)
    | (with_reducible refine wp_loadPairG (.tmp 9) rfl w1.heap.size t b rfl HQ4.out (by with_unfolding_all rfl) ?_)
    | (with_reducible refine wp_loadStrG (.tmp 10) rfl (w1.heap.size + 1) x y rfl HX4.out (by with_unfolding_all rfl) ?_)
    | (go_at_call 131; ((with_reducible refine (HC.out _).mono ?_); rintro e w5 ⟨rfl, hb5⟩; have HX5 := Lib.hid (HX4.out.below hb5); have HQ5 := Lib.hid (HQ4.out.below hb5); have HP5 := Lib.hid (HP4.out.below hb5); have HS5 := Lib.hid (HS4.out.below hb5); have HB5 := Lib.hid (Below.step HB4.out hb5); clear hb5))
    | fail)
  have hne : w.heap.size + 1 ≠ w.heap.size + 1 + 1 := by omega
  obtain ⟨W6, W7, W67, W76, y1, y2, z1, z2, z3, z4, z5, z6, F1, F2⟩ := rcl_world HQ5.out HX5.out HP5.out HS5.out HB5.out hne (Nat.le_succ _) (by omega) (by omega) (by omega)
  have HF1 := Lib.hid F1; have HF2 := Lib.hid F2
  have HE : ∃ P, pairC t b = P := ⟨_, rfl⟩
  obtain ⟨P, hP⟩ := HE
  have HPE := Lib.hid hP
  rw [hP] at y1 z1 z4 z6 ⊢
  clear F1 F2 hP HQ5 HX5 HP5 HS5 HB5 HQ4 HX4 HP4 HS4 HB4 HQ3 HX3 HP3 HS3 HB3 HT HP2 HS2 HB2 HP1 HS1 HB1 HC HR H1 H2 HP HS HB
  generalize w5 = wz at *
  go_region_with fail
  all_goals
    go_wp2_with fail
    rw [← HPE.out]
    first
      | exact bodyPost_ret (results_rcl _ _ (w.heap.size + 1) (w.heap.size + 1 + 1) t b x y true HF1.out.1 HF1.out.2.1 rfl rfl rfl) rfl ⟨rfl, HF1.out.2.2⟩
      | exact bodyPost_ret (results_rcl _ _ (w.heap.size + 1) (w.heap.size + 1 + 1) t b x y true HF2.out.1 HF2.out.2.1 rfl rfl rfl) rfl ⟨rfl, HF2.out.2.2⟩

end Go.Proofs.Ytogjclmmjdhfeab
