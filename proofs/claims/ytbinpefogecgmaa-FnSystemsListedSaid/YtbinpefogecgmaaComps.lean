/- ComponentsOf, IsMeander, CurveOfPoints, WayFrom: the program's functions and the model's. -/
import Derived.Test.YtbinpefogecgmaaMeCol
import Derived.Test.YtbinpefogecgmaaWalk
import Derived.Test.YtbinpefogecgmaaReadPair
import Derived.Test.YtbinpefogecgmaaNum
import Derived.Lib.SliceRun
namespace Go.Proofs.Ytbinpefogecgmaa
open Go.RowKit
set_option linter.unusedSimpArgs false
set_option linter.unusedVariables false

def compsL (t b : List Int) : Nat := cntW (par t) (par b) t.length
theorem compsL_nil : compsL [] [] = 0 := rfl
theorem compsL_le (t b : List Int) : compsL t b ≤ t.length := cnt_le _ _ _
def ok_ComponentsOf (t b : List Int) : Bool := pairOk t b
def res_ComponentsOf (t b : List Int) : Int := if pairOk t b then ((compsL t b : Nat) : Int) else 0
def ok_IsMeander (t b : List Int) : Bool := pairOk t b
def res_IsMeander (t b : List Int) : Bool := pairOk t b && decide (compsL t b = 1)
def ok_CurveOfPoints (t b : List Int) : Bool := pairOk t b
def res_CurveOfPoints (t b : List Int) : List Int := if pairOk t b then colN (par t) (par b) t.length else []
theorem len_CurveOfPoints (t b : List Int) : (res_CurveOfPoints t b).length ≤ 1000000 := by
  unfold res_CurveOfPoints
  cases h : pairOk t b with
  | false => simp
  | true =>
    obtain ⟨g1, g2, _⟩ := pairOk_facts h
    have := good_len' g1
    have : (colN (par t) (par b) t.length).length = t.length := colS_length _ _ _ _
    simp; omega
def ok_WayFrom (t b : List Int) (x : Int) : Bool := pairOk t b && inB x 0 ((t.length : Int) - 1)
def res_WayFrom (t b : List Int) (x : Int) : List Int := if ok_WayFrom t b x then wayV (par t) (par b) t.length x.toNat else []
theorem len_WayFrom (t b : List Int) (x : Int) : (res_WayFrom t b x).length ≤ 1000000 := by
  unfold res_WayFrom
  cases h : ok_WayFrom t b x with
  | false => simp
  | true =>
    simp only [ok_WayFrom, Bool.and_eq_true] at h
    obtain ⟨g1, g2, _⟩ := pairOk_facts h.1
    have := good_len' g1
    have := wayV_len (par t) (par b) t.length x.toNat
    simp; omega
/-- what readPair gives is a pair, if only the empty one -/
theorem read_good (t b : List Int) : goodB (if pairOk t b then t else []) = true ∧ goodB (if pairOk t b then b else []) = true ∧ (if pairOk t b then t else []).length = (if pairOk t b then b else []).length := by
  cases h : pairOk t b with
  | false => exact ⟨rfl, rfl, rfl⟩
  | true => simpa using pairOk_facts h

theorem wp_storeArrNew {ops : Array Oper} {rest : List Oper} {o : Oper} {a : Act} {w : World} {Q : Exit → Act → World → Prop} (hgd : o.guard = none) (x y : Operand) (ho : o.op = .store 74 x y)
    (c : List Int) (hx : a.eval x = .pointer (some ⟨w.heap.size, 0, none⟩)) (hy : a.eval y = .agg (idxA c))
    (h : ∀ w', w'.heap[w.heap.size]? = some (.cells (idxA c) 74 (0, 0)) → Below w.heap.size w w' → wpList Try.prog ops Q rest (a.put o.dst undef) w') : wpList Try.prog ops Q (o :: rest) a (w.alloc (.cells #[.int .i64 0, .int .i64 0, .int .i64 0, .int .i64 0, .int .i64 0, .int .i64 0, .int .i64 0, .int .i64 0, .int .i64 0, .int .i64 0, .int .i64 0, .int .i64 0] 74)) := by
  have h0 := heap_alloc_new w (.cells #[.int .i64 0, .int .i64 0, .int .i64 0, .int .i64 0, .int .i64 0, .int .i64 0, .int .i64 0, .int .i64 0, .int .i64 0, .int .i64 0, .int .i64 0, .int .i64 0] 74)
  refine wpList_store_row hgd _ x y ho w.heap.size (idxA c) hx hy 74 _ h0 (by rw [arr12_info, idxA_size]) (by rw [idxA_size]; rfl) (by rw [idxA]; exact all_oneCell_toArray (fun v hv => by simp only [List.mem_map] at hv; obtain ⟨x, _, rfl⟩ := hv; rfl)) ?_
  refine h _ (setRow_heap _ w.heap.size _ _ _ _ h0) ((Below.alloc1 w _).trans ⟨rfl, rfl, rfl, by simp, fun k hk => setRow_other _ w.heap.size k _ (by omega)⟩)
theorem curves_of (t b : List Int) (gt : goodB t = true) (gb : goodB b = true) (hl : t.length = b.length) (w : World) :
    Calls Try.prog 114 #[.agg (pairC t b)] w fun e w' => e = .returned (.tuple #[.agg (idxA (colN (par t) (par b) t.length)), .int .i64 ((compsL t b : Nat) : Int)]) ∧ Below w.heap.size w w' := by
  have pb := good_paired gb
  rw [← hl] at pb
  exact curves_any t b (par t) (par b) t.length (good_paired gt) pb (good_len' gt) rfl (fun k hk => good_cell gt k hk) (fun k hk => good_cell gb k (by omega)) w

theorem components_any (t b : List Int) (gt : goodB t = true) (gb : goodB b = true) (hl : t.length = b.length) (w : World) :
    Calls Try.prog 118 #[.agg (pairC t b)] w fun e w' => e = .returned (.int .i64 ((compsL t b : Nat) : Int)) ∧ Below w.heap.size w w' := by
  have HC := Lib.hid (fun w => curves_of t b gt gb hl w)
  have HP := Lib.hid (PairIn.new w t b)
  generalize compsL t b = N at *
  clear gt gb hl
  go_enter Try.func118, Try.ntmps118
  go_wp2_with (first
    | (with_reducible refine wp_loadPair rfl (.tmp 1) rfl w.heap.size t b rfl HP.out ?_)
    | (go_at_call 114; ((with_reducible refine (HC.out _).mono ?_); rintro e w1 ⟨rfl, hb1⟩; have HB := Lib.hid (Below.step (Below.alloc1 w (.cells (pairC t b) 101)) hb1); clear hb1))
    | ((with_reducible refine wp_storeArrNew rfl (.tmp 3) (.tmp 8) rfl _ rfl rfl ?_); intro w2 hs2 hb2; have HB2 := Lib.hid (Below.step HB.out hb2); clear hs2 hb2))
  go_ret
  exact ⟨rfl, HB2.out⟩

theorem impl_ComponentsOf (t b : List Int) (w : World) (u1 u2 : Value) (h1 : Rd w u1 t) (h2 : Rd w u2 b) (m1 : t.length ≤ 1048576) (m2 : b.length ≤ 1048576) :
    Calls Try.prog 60 #[.agg #[u1, u2]] w (GivesN w (res_ComponentsOf t b) (ok_ComponentsOf t b)) := by
  have hres : res_ComponentsOf t b = ((compsL (if pairOk t b then t else []) (if pairOk t b then b else []) : Nat) : Int) := by
    unfold res_ComponentsOf
    cases pairOk t b <;> simp [compsL_nil]
  obtain ⟨q1, q2, q3⟩ := read_good t b
  rw [hres]
  unfold ok_ComponentsOf
  have hA := Box2.new 56 w u1 u2
  have B1 : Below w.heap.size w (w.alloc (.cells #[u1, u2] 56)) := Below.alloc1 w _
  have k0 := hA.c0; have k1 := hA.c1
  have hrd := readPair_any t b _ u1 u2 (h1.below B1) (h2.below B1)
  have HB := Lib.hid B1; have HR := Lib.hid hrd
  clear hA B1 h1 h2 hrd hres
  generalize (if pairOk t b then t else []) = T at *
  generalize (if pairOk t b then b else []) = B at *
  generalize pairOk t b = R at *
  have HC := Lib.hid (fun w => components_any T B q1 q2 q3 w)
  clear q1 q2 q3
  generalize compsL T B = N at *
  go_enter Try.func60, Try.ntmps60
  go_wp2_with fail
  refine HR.out.mono ?_
  rintro e w1 ⟨rfl, hb1⟩
  have HB1 := Lib.hid (Below.step HB.out hb1); clear hb1 k0 k1
  go_wp2_with (first
    | ((with_reducible refine wp_storePairN rfl (.tmp 4) (.tmp 9) rfl T B rfl rfl ?_); intro w2 hs2 hb2; have HS2 := Lib.hid hs2; have HB2 := Lib.hid (Below.step HB1.out hb2); clear hs2 hb2)
    | (with_reducible refine wp_loadPair rfl (.tmp 4) rfl w1.heap.size T B rfl HS2.out ?_)
    | (go_at_call 118; ((with_reducible refine (HC.out _).mono ?_); rintro e w3 ⟨rfl, hb3⟩; have HB3 := Lib.hid (Below.step HB2.out hb3); clear hb3)))
  go_ret2
  exact ⟨rfl, HB3.out⟩

theorem isMeander_any (t b : List Int) (gt : goodB t = true) (gb : goodB b = true) (hl : t.length = b.length) (w : World) :
    Calls Try.prog 125 #[.agg (pairC t b)] w fun e w' => e = .returned (.bool (decide (compsL t b = 1))) ∧ Below w.heap.size w w' := by
  have HC := Lib.hid (fun w => components_any t b gt gb hl w)
  have HP := Lib.hid (PairIn.new w t b)
  have HE : Hid ((((compsL t b : Nat) : Int) == 1) = decide (compsL t b = 1)) := by
    show _ = _
    rw [Bool.eq_iff_iff]; simp; omega
  rw [← HE.out]
  generalize compsL t b = N at *
  clear gt gb hl
  go_enter Try.func125, Try.ntmps125
  go_wp2_with (first
    | (with_reducible refine wp_loadPair rfl (.tmp 1) rfl w.heap.size t b rfl HP.out ?_)
    | (go_at_call 118; ((with_reducible refine (HC.out _).mono ?_); rintro e w1 ⟨rfl, hb1⟩; have HB := Lib.hid (Below.step (Below.alloc1 w (.cells (pairC t b) 101)) hb1); clear hb1)))
  go_ret
  exact ⟨rfl, HB.out⟩

theorem impl_IsMeander (t b : List Int) (w : World) (u1 u2 : Value) (h1 : Rd w u1 t) (h2 : Rd w u2 b) (m1 : t.length ≤ 1048576) (m2 : b.length ≤ 1048576) :
    Calls Try.prog 70 #[.agg #[u1, u2]] w (GivesD w (res_IsMeander t b) (ok_IsMeander t b)) := by
  have hres : res_IsMeander t b = decide (compsL (if pairOk t b then t else []) (if pairOk t b then b else []) = 1) := by
    unfold res_IsMeander
    cases pairOk t b <;> simp [compsL_nil]
  obtain ⟨q1, q2, q3⟩ := read_good t b
  rw [hres]
  unfold ok_IsMeander
  have hA := Box2.new 56 w u1 u2
  have B1 : Below w.heap.size w (w.alloc (.cells #[u1, u2] 56)) := Below.alloc1 w _
  have k0 := hA.c0; have k1 := hA.c1
  have hrd := readPair_any t b _ u1 u2 (h1.below B1) (h2.below B1)
  have HB := Lib.hid B1; have HR := Lib.hid hrd
  clear hA B1 h1 h2 hrd hres
  generalize (if pairOk t b then t else []) = T at *
  generalize (if pairOk t b then b else []) = B at *
  generalize pairOk t b = R at *
  have HC := Lib.hid (fun w => isMeander_any T B q1 q2 q3 w)
  clear q1 q2 q3
  generalize decide (compsL T B = 1) = N at *
  go_enter Try.func70, Try.ntmps70
  go_wp2_with fail
  refine HR.out.mono ?_
  rintro e w1 ⟨rfl, hb1⟩
  have HB1 := Lib.hid (Below.step HB.out hb1); clear hb1 k0 k1
  go_wp2_with (first
    | ((with_reducible refine wp_storePairN rfl (.tmp 4) (.tmp 9) rfl T B rfl rfl ?_); intro w2 hs2 hb2; have HS2 := Lib.hid hs2; have HB2 := Lib.hid (Below.step HB1.out hb2); clear hs2 hb2)
    | (with_reducible refine wp_loadPair rfl (.tmp 4) rfl w1.heap.size T B rfl HS2.out ?_)
    | (go_at_call 125; ((with_reducible refine (HC.out _).mono ?_); rintro e w3 ⟨rfl, hb3⟩; have HB3 := Lib.hid (Below.step HB2.out hb3); clear hb3)))
  go_ret2
  exact ⟨rfl, HB3.out⟩

theorem Own.lit0 (B : Nat) (w : World) (hB : B ≤ w.heap.size) : Own B (w.alloc (.cells #[] 3)) (.slice (some ⟨w.heap.size, 0, none⟩) 0 0) [] :=
  World.ownsRow_lit w #[] 0 hB (by unfold maxLen; omega) rfl
set_option maxRecDepth 100000 in
set_option maxHeartbeats 1000000 in
theorem clone_any (b o n c : Nat) (l : List Int) (w : World) (h : Rd w (.slice (some ⟨b, o, none⟩) n c) l) (hl : l.length ≤ 1000000) :
    Calls Try.prog 119 #[.slice (some ⟨b, o, none⟩) n c] w (Made w l) := by
  have HO := Lib.hid (Own.lit0 w.heap.size w (Nat.le_refl _))
  have HR := Lib.hid (h.below (Below.alloc1 w (.cells #[] 3)))
  have HL := Lib.hid hl
  clear h hl
  have q22 : ∀ (w : World) (a : Option Addr) (n c n' c' : Nat), (binOp .eql 26 (.slice a n c) (.slice none n' c')).run Try.prog w = .ok (.bool a.isNone) w := fun w a n c n' c' => Lib.run_eql_slice_nil w _ _ a n c n' c' Try.underlying26
  go_enter Try.func119, Try.ntmps119
  go_wp2_with (at_builtin; refine wp_append _ rfl _ _ rfl w.heap.size _ _ [] l rfl rfl HO.out HR.out (by have := HL.out; simp; omega) (by simp) ?_; intro v' w2 hown2 hgr hbel2; obtain ⟨x1, y1, z1, rfl⟩ := hown2.form'; have HO2 := Lib.hid hown2; have HB2 := Lib.hid ((Below.alloc1 w (.cells #[] 3)).trans hbel2); clear hown2 hgr hbel2)
  go_ret
  exact ⟨_, rfl, HO2.out, HB2.out⟩

theorem idx_rd {w : World} {g n : Nat} {c : List Int} (h : w.heap[g]? = some (.cells (idxA c) 74 (0, 0))) (hl : c.length = n) (hn : n ≤ 12) (hd : ∀ x, x < n → 0 ≤ c.getD x 0) : Rd w (.slice (some ⟨g, 0, none⟩) n 12) c := by
  refine ⟨some ⟨g, 0, none⟩, 12, by rw [hl], by omega, by unfold maxLen; omega, by simp, .inr ⟨g, 0, rfl, fun k hk => ?_⟩⟩
  rw [Nat.zero_add, cell_of_row w g _ _ _ _ h, idxA_get c k (by omega), idxV, getD_in c k _ hk, if_neg (by have := hd k (by omega); omega)]

set_option maxHeartbeats 1000000 in
theorem impl_CurveOfPoints (t b : List Int) (w : World) (u1 u2 : Value) (h1 : Rd w u1 t) (h2 : Rd w u2 b) (m1 : t.length ≤ 1048576) (m2 : b.length ≤ 1048576) :
    Calls Try.prog 61 #[.agg #[u1, u2]] w (Gives w (res_CurveOfPoints t b) (ok_CurveOfPoints t b)) := by
  unfold res_CurveOfPoints ok_CurveOfPoints
  have hA := Box2.new 56 w u1 u2
  have B1 : Below w.heap.size w (w.alloc (.cells #[u1, u2] 56)) := Below.alloc1 w _
  have k0 := hA.c0; have k1 := hA.c1
  have hrd := readPair_any t b _ u1 u2 (h1.below B1) (h2.below B1)
  have HB := Lib.hid B1
  clear hA B1 h1 h2
  cases hR : pairOk t b with
  | false =>
    simp only [hR, Bool.false_eq_true, if_false] at hrd ⊢
    have HR := Lib.hid hrd; clear hrd hR
    go_enter Try.func61, Try.ntmps61
    go_wp2_with fail
    refine HR.out.mono ?_
    rintro e w1 ⟨rfl, hb1⟩
    have HB1 := Lib.hid (Below.step HB.out hb1); clear hb1 k0 k1
    go_wp2_with ((with_reducible refine wp_storePairN rfl (.tmp 4) (.tmp 11) rfl [] [] rfl rfl ?_); intro w2 hs2 hb2; have HB2 := Lib.hid (Below.step HB1.out hb2); clear hs2 hb2)
    go_ret2
    exact ⟨_, rfl, Own.nil _ _, HB2.out⟩
  | true =>
    simp only [hR, if_true] at hrd ⊢
    obtain ⟨q1, q2, q3⟩ := pairOk_facts hR
    have HC := Lib.hid (fun w => curves_of t b q1 q2 q3 w)
    have HSZ := Lib.hid (fun w => pairSize_any t b w)
    have pb := good_paired q2
    rw [← q3] at pb
    have hk := col_ok (good_paired q1) pb
    have HRD := Lib.hid (fun w g h => idx_rd (w := w) (g := g) (n := t.length) (c := colN (par t) (par b) t.length) h hk.len (good_len' q1) (fun x hx => hk.done x hx hx))
    have HLN := Lib.hid hk.len
    have HR := Lib.hid hrd
    have hn12 := good_len' q1
    have hal := fun b w => run_mates b t.length w hn12
    clear hrd hR q1 q2 q3 pb hk
    generalize compsL t b = N at *
    generalize colN (par t) (par b) t.length = c at *
    obtain ⟨n, hn⟩ : ∃ n, n = t.length := ⟨_, rfl⟩
    rw [← hn] at hn12 hal HRD HLN HSZ
    clear hn
    go_enter Try.func61, Try.ntmps61
    go_wp2_with fail
    refine HR.out.mono ?_
    rintro e w1 ⟨rfl, hb1⟩
    have HB1 := Lib.hid (Below.step HB.out hb1); clear hb1 k0 k1
    go_wp2_with (first
      | ((with_reducible refine wp_storePairN rfl (.tmp 4) (.tmp 11) rfl t b rfl rfl ?_); intro w2 hs2 hb2; have HS2 := Lib.hid hs2; have HB2 := Lib.hid (Below.step HB1.out hb2); clear hs2 hb2)
      | ((with_reducible refine wp_loadPair rfl (.tmp 4) rfl w1.heap.size t b rfl HS2.out ?_); go_at_call 114; ((with_reducible refine (HC.out _).mono ?_); rintro e w3 ⟨rfl, hb3⟩; have HS3 := Lib.hid (HS2.out.below hb3); have HB3 := Lib.hid (Below.step HB2.out hb3); clear hb3))
      | (with_reducible refine wp_loadPair rfl (.tmp 4) rfl w1.heap.size t b rfl HS2.out ?_)
      | (go_at_call 114; ((with_reducible refine (HC.out _).mono ?_); rintro e w3 ⟨rfl, hb3⟩; have HS3 := Lib.hid (HS2.out.below hb3); have HB3 := Lib.hid (Below.step HB2.out hb3); clear hb3 HS2))
      | ((with_reducible refine wp_storeArrNew rfl (.tmp 6) (.tmp 18) rfl _ rfl rfl ?_); intro w4 hs4 hb4; have HA4 := Lib.hid hs4; have HS4 := Lib.hid (HS3.out.below hb4); have HB4 := Lib.hid (Below.step HB3.out hb4); clear hs4 hb4)
      | (with_reducible refine wp_loadPair rfl (.tmp 4) rfl w1.heap.size t b rfl HS4.out ?_)
      | (go_at_call 115; ((with_reducible refine (HSZ.out _).mono ?_); rintro e w5 ⟨rfl, hb5⟩; have HA5 := Lib.hid (blk_below HA4.out hb5); have HB5 := Lib.hid (Below.step HB4.out hb5); clear hb5))
      | (go_at_call 119; ((with_reducible refine (clone_any _ _ _ _ c _ (HRD.out _ _ HA5.out) (by rw [HLN.out]; omega)).mono ?_); rintro e w6 ⟨v, rfl, ho6, hb6⟩; obtain ⟨x1, y1, z1, rfl⟩ := ho6.form'; have HO6 := Lib.hid ho6; have HB6 := Lib.hid (Below.step HB5.out hb6); clear ho6 hb6)))
    go_ret2
    exact ⟨_, rfl, HO6.out.mono HB5.out.size, HB6.out⟩



theorem spec_CurveOfPoints (t b : List Int) (w : World) (u1 u2 : Value) (h1 : Rd w u1 t) (h2 : Rd w u2 b) (m1 : t.length ≤ 1048576) (m2 : b.length ≤ 1048576) :
    Calls Try.prog 62 #[.agg #[u1, u2]] w (Gives w (res_CurveOfPoints t b) (ok_CurveOfPoints t b)) := by
  unfold res_CurveOfPoints ok_CurveOfPoints
  have hA := Box2.new 56 w u1 u2
  have B1 : Below w.heap.size w (w.alloc (.cells #[u1, u2] 56)) := Below.alloc1 w _
  have k0 := hA.c0; have k1 := hA.c1
  have hrd := mePair_any t b _ u1 u2 (h1.below B1) (h2.below B1) m1 m2
  have HB := Lib.hid B1; have HA := Lib.hid hA; have H1 := Lib.hid (h1.below B1); have H2 := Lib.hid (h2.below B1)
  clear hA B1 h1 h2
  cases e1 : pairOk t b with
  | false =>
    rw [e1] at hrd
    have HR := Lib.hid hrd; clear hrd e1
    go_enter Try.func62, Try.ntmps62
    go_wp2_with fail
    refine HR.out.mono ?_
    rintro e w1 ⟨rfl, hb1⟩
    go_wp2
    go_ret2
    exact ⟨_, rfl, Own.nil _ _, Below.step HB.out hb1⟩
  | true =>
    rw [e1] at hrd
    obtain ⟨g1, g2, g3⟩ := pairOk_facts e1
    have HT := Lib.hid (fun w h1 h2 => meColours_any t b g1 g2 g3 w u1 u2 h1 h2)
    have HR := Lib.hid hrd; clear hrd e1 g1 g2 g3
    simp only [if_true]
    generalize colN (par t) (par b) t.length = N at *
    go_enter Try.func62, Try.ntmps62
    go_wp2_with fail
    refine HR.out.mono ?_
    rintro e w1 ⟨rfl, hb1⟩
    have m0 := (HA.out.below hb1).c0; have m1 := (HA.out.below hb1).c1
    have H11 := Lib.hid (H1.out.below hb1); have H21 := Lib.hid (H2.out.below hb1); have HB1 := Lib.hid (Below.step HB.out hb1)
    clear hb1 k0 k1
    go_wp2_with fail
    refine (HT.out _ H11.out H21.out).mono ?_
    rintro e w2 ⟨v, rfl, ho2, hb2⟩
    obtain ⟨x1, y1, z1, rfl⟩ := ho2.form'
    have HO2 := Lib.hid ho2; clear ho2
    go_wp2
    go_ret2
    exact ⟨_, rfl, HO2.out.mono HB1.out.size, Below.step HB1.out hb2⟩

end Go.Proofs.Ytbinpefogecgmaa
