/- ComponentsOf, IsMeander, CurveOfPoints, WayFrom: the program's functions and the model's. -/
import Derived.Test.YtogjclmmjdhfeacMeCol
import Derived.Test.YtogjclmmjdhfeacWalk
import Derived.Test.YtogjclmmjdhfeacReadPair
import Derived.Test.YtogjclmmjdhfeacNum
import Derived.Lib.SliceRun
namespace Go.Proofs.Ytogjclmmjdhfeac
open Go.RowKit
set_option linter.unusedSimpArgs false
set_option linter.unusedVariables false

def compsL (t b : List Int) : Nat := cntW (par t) (par b) t.length
theorem compsL_nil : compsL [] [] = 0 := rfl
theorem compsL_le (t b : List Int) : compsL t b ≤ t.length := cnt_le _ _ _
def ok_ComponentsOf (t b : List Int) : Bool := pairOk t b
def res_ComponentsOf (t b : List Int) : Int := if pairOk t b then ((compsL t b : Nat) : Int) else 0
def ok_IsMeander (t b : List Int) : Bool := pairOk t b
def res_IsMeander (t b : List Int) : Bool := pairOk t b && decide (compsL t b = 1)
def ok_CurveOfPoints (t b : List Int) : Bool := pairOk t b
def res_CurveOfPoints (t b : List Int) : List Int := if pairOk t b then colN (par t) (par b) t.length else []
theorem len_CurveOfPoints (t b : List Int) : (res_CurveOfPoints t b).length ≤ 1000000 := by
  unfold res_CurveOfPoints
  cases h : pairOk t b with
  | false => simp
  | true =>
    obtain ⟨g1, g2, _⟩ := pairOk_facts h
    have := good_len' g1
    have : (colN (par t) (par b) t.length).length = t.length := colS_length _ _ _ _
    simp; omega
def ok_WayFrom (t b : List Int) (x : Int) : Bool := pairOk t b && inB x 0 ((t.length : Int) - 1)
def res_WayFrom (t b : List Int) (x : Int) : List Int := if ok_WayFrom t b x then wayV (par t) (par b) t.length x.toNat else []
theorem len_WayFrom (t b : List Int) (x : Int) : (res_WayFrom t b x).length ≤ 1000000 := by
  unfold res_WayFrom
  cases h : ok_WayFrom t b x with
  | false => simp
  | true =>
    simp only [ok_WayFrom, Bool.and_eq_true] at h
    obtain ⟨g1, g2, _⟩ := pairOk_facts h.1
    have := good_len' g1
    have := wayV_len (par t) (par b) t.length x.toNat
    simp; omega
/-- what readPair gives is a pair, if only the empty one -/
theorem read_good (t b : List Int) : goodB (if pairOk t b then t else []) = true ∧ goodB (if pairOk t b then b else []) = true ∧ (if pairOk t b then t else []).length = (if pairOk t b then b else []).length := by
  cases h : pairOk t b with
  | false => exact ⟨rfl, rfl, rfl⟩
  | true => simpa using pairOk_facts h

theorem wp_storeArrNew {ops : Array Oper} {rest : List Oper} {o : Oper} {a : Act} {w : World} {Q : Exit → Act → World → Prop} (hgd : o.guard = none) (x y : Operand) (ho : o.op = .store 54 x y)
    (c : List Int) (hx : a.eval x = .pointer (some ⟨w.heap.size, 0, none⟩)) (hy : a.eval y = .agg (idxA c))
    (h : ∀ w', w'.heap[w.heap.size]? = some (.cells (idxA c) 54 (0, 0)) → Below w.heap.size w w' → wpList Try.prog ops Q rest (a.put o.dst undef) w') : wpList Try.prog ops Q (o :: rest) a (w.alloc (.cells #[.int .i64 0, .int .i64 0, .int .i64 0, .int .i64 0, .int .i64 0, .int .i64 0, .int .i64 0, .int .i64 0, .int .i64 0, .int .i64 0, .int .i64 0, .int .i64 0] 54)) := by
  have h0 := heap_alloc_new w (.cells #[.int .i64 0, .int .i64 0, .int .i64 0, .int .i64 0, .int .i64 0, .int .i64 0, .int .i64 0, .int .i64 0, .int .i64 0, .int .i64 0, .int .i64 0, .int .i64 0] 54)
  refine wpList_store_row hgd _ x y ho w.heap.size (idxA c) hx hy 54 _ h0 (by rw [arr12_info, idxA_size]) (by rw [idxA_size]; rfl) (by rw [idxA]; exact all_oneCell_toArray (fun v hv => by simp only [List.mem_map] at hv; obtain ⟨x, _, rfl⟩ := hv; rfl)) ?_
  refine h _ (setRow_heap _ w.heap.size _ _ _ _ h0) ((Below.alloc1 w _).trans ⟨rfl, rfl, rfl, by simp, fun k hk => setRow_other _ w.heap.size k _ (by omega)⟩)
theorem curves_of (t b : List Int) (gt : goodB t = true) (gb : goodB b = true) (hl : t.length = b.length) (w : World) :
    Calls Try.prog 80 #[.agg (pairC t b)] w fun e w' => e = .returned (.tuple #[.agg (idxA (colN (par t) (par b) t.length)), .int .i64 ((compsL t b : Nat) : Int)]) ∧ Below w.heap.size w w' := by
  have pb := good_paired gb
  rw [← hl] at pb
  exact curves_any t b (par t) (par b) t.length (good_paired gt) pb (good_len' gt) rfl (fun k hk => good_cell gt k hk) (fun k hk => good_cell gb k (by omega)) w

theorem components_any (t b : List Int) (gt : goodB t = true) (gb : goodB b = true) (hl : t.length = b.length) (w : World) :
    Calls Try.prog 43 #[.agg (pairC t b)] w fun e w' => e = .returned (.int .i64 ((compsL t b : Nat) : Int)) ∧ Below w.heap.size w w' := by
  have HC := Lib.hid (fun w => curves_of t b gt gb hl w)
  have HP := Lib.hid (PairIn.new w t b)
  generalize compsL t b = N at *
  clear gt gb hl
  go_enter Try.func43, Try.ntmps43
  go_wp2_with (first
    | (with_reducible refine wp_loadPair rfl (.tmp 1) rfl w.heap.size t b rfl HP.out ?_)
    | (go_at_call 80; ((with_reducible refine (HC.out _).mono ?_); rintro e w1 ⟨rfl, hb1⟩; have HB := Lib.hid (Below.step (Below.alloc1 w (.cells (pairC t b) 58)) hb1); clear hb1))
    | ((with_reducible refine wp_storeArrNew rfl (.tmp 3) (.tmp 8) rfl _ rfl rfl ?_); intro w2 hs2 hb2; have HB2 := Lib.hid (Below.step HB.out hb2); clear hs2 hb2))
  go_ret
  exact ⟨rfl, HB2.out⟩

theorem impl_ComponentsOf (t b : List Int) (w : World) (u1 u2 : Value) (h1 : Rd w u1 t) (h2 : Rd w u2 b) (m1 : t.length ≤ 1048576) (m2 : b.length ≤ 1048576) :
    Calls Try.prog 18 #[.agg #[u1, u2]] w (GivesN w (res_ComponentsOf t b) (ok_ComponentsOf t b)) := by
  have hres : res_ComponentsOf t b = ((compsL (if pairOk t b then t else []) (if pairOk t b then b else []) : Nat) : Int) := by
    unfold res_ComponentsOf
    cases pairOk t b <;> simp [compsL_nil]
  obtain ⟨q1, q2, q3⟩ := read_good t b
  rw [hres]
  unfold ok_ComponentsOf
  have hA := Box2.new 26 w u1 u2
  have B1 : Below w.heap.size w (w.alloc (.cells #[u1, u2] 26)) := Below.alloc1 w _
  have k0 := hA.c0; have k1 := hA.c1
  have hrd := readPair_any t b _ u1 u2 (h1.below B1) (h2.below B1)
  have HB := Lib.hid B1; have HR := Lib.hid hrd
  clear hA B1 h1 h2 hrd hres
  generalize (if pairOk t b then t else []) = T at *
  generalize (if pairOk t b then b else []) = B at *
  generalize pairOk t b = R at *
  have HC := Lib.hid (fun w => components_any T B q1 q2 q3 w)
  clear q1 q2 q3
  generalize compsL T B = N at *
  go_enter Try.func18, Try.ntmps18
  go_wp2_with fail
  refine HR.out.mono ?_
  rintro e w1 ⟨rfl, hb1⟩
  have HB1 := Lib.hid (Below.step HB.out hb1); clear hb1 k0 k1
  go_wp2_with (first
    | ((with_reducible refine wp_storePairN rfl (.tmp 4) (.tmp 9) rfl T B rfl rfl ?_); intro w2 hs2 hb2; have HS2 := Lib.hid hs2; have HB2 := Lib.hid (Below.step HB1.out hb2); clear hs2 hb2)
    | (with_reducible refine wp_loadPair rfl (.tmp 4) rfl w1.heap.size T B rfl HS2.out ?_)
    | (go_at_call 43; ((with_reducible refine (HC.out _).mono ?_); rintro e w3 ⟨rfl, hb3⟩; have HB3 := Lib.hid (Below.step HB2.out hb3); clear hb3)))
  go_ret2
  exact ⟨rfl, HB3.out⟩

theorem isMeander_any (t b : List Int) (gt : goodB t = true) (gb : goodB b = true) (hl : t.length = b.length) (w : World) :
    Calls Try.prog 89 #[.agg (pairC t b)] w fun e w' => e = .returned (.bool (decide (compsL t b = 1))) ∧ Below w.heap.size w w' := by
  have HC := Lib.hid (fun w => components_any t b gt gb hl w)
  have HP := Lib.hid (PairIn.new w t b)
  have HE : Hid ((((compsL t b : Nat) : Int) == 1) = decide (compsL t b = 1)) := by
    show _ = _
    rw [Bool.eq_iff_iff]; simp; omega
  rw [← HE.out]
  generalize compsL t b = N at *
  clear gt gb hl
  go_enter Try.func89, Try.ntmps89
  go_wp2_with (first
    | (with_reducible refine wp_loadPair rfl (.tmp 1) rfl w.heap.size t b rfl HP.out ?_)
    | (go_at_call 43; ((with_reducible refine (HC.out _).mono ?_); rintro e w1 ⟨rfl, hb1⟩; have HB := Lib.hid (Below.step (Below.alloc1 w (.cells (pairC t b) 58)) hb1); clear hb1)))
  go_ret
  exact ⟨rfl, HB.out⟩






end Go.Proofs.Ytogjclmmjdhfeac
