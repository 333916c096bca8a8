/- PermutationOf and CycleOf in the program. -/
import Derived.Test.YtkohmdhjjnmfgabWdWord
import Derived.Test.YtkohmdhjjnmfgabWdRow
import Derived.Test.YtkohmdhjjnmfgabOwn
namespace Go.Proofs.Ytkohmdhjjnmfgab
open Go.RowKit
set_option linter.unusedSimpArgs false
set_option linter.unusedVariables false

theorem lit0W (B : Nat) (w : World) (hB : B ≤ w.heap.size) : Own B (w.alloc (.cells #[] 3)) (.slice (some ⟨w.heap.size, 0, none⟩) 0 0) [] :=
  World.ownsRow_lit w #[] 0 hB (by unfold maxLen; omega) rfl
set_option maxRecDepth 100000 in
set_option maxHeartbeats 1000000 in
theorem cloneW_any (b o n c : Nat) (l : List Int) (w : World) (h : Rd w (.slice (some ⟨b, o, none⟩) n c) l) (hl : l.length ≤ 1000000) :
    Calls Try.prog 65 #[.slice (some ⟨b, o, none⟩) n c] w (Made w l) := by
  have HO := Lib.hid (lit0W w.heap.size w (Nat.le_refl _))
  have HR := Lib.hid (h.below (Below.alloc1 w (.cells #[] 3)))
  have HL := Lib.hid hl
  clear h hl
  have q22 : ∀ (w : World) (a : Option Addr) (n c n' c' : Nat), (binOp .eql 22 (.slice a n c) (.slice none n' c')).run Try.prog w = .ok (.bool a.isNone) w := fun w a n c n' c' => Lib.run_eql_slice_nil w _ _ a n c n' c' Try.underlying22
  go_enter Try.func65, Try.ntmps65
  go_wp2_with (at_builtin; refine wp_append _ rfl _ _ rfl w.heap.size _ _ [] l rfl rfl HO.out HR.out (by have := HL.out; simp; omega) (by simp) ?_; intro v' w2 hown2 hgr hbel2; obtain ⟨x1, y1, z1, rfl⟩ := hown2.form'; have HO2 := Lib.hid hown2; have HB2 := Lib.hid ((Below.alloc1 w (.cells #[] 3)).trans hbel2); clear hown2 hgr hbel2)
  go_ret
  exact ⟨_, rfl, HO2.out, HB2.out⟩

theorem run_ats (b n : Nat) (w : World) (hn : n ≤ 12) : (Instr.sliceAt 49 (.pointer (some ⟨b, 0, none⟩)) none (some (.int .i64 (n : Int))) none).run Try.prog w = .ok (.slice (some ⟨b, 0, none⟩) n 12) w := by
  have h := run_sliceAt_array_h (P := Try.prog) w 49 ⟨b, 0, none⟩ (by rw [arrayLen12, arrayElem12]; exact arrayUnder12) .i64 (n : Int) (by omega) (by rw [arrayLen12]; omega)
  rw [h, arrayLen12, arrayElem12]
  obtain ⟨i0, hi, hz0, hz1, hz2⟩ := info_parts Try.info3
  simp [sizeOf, typeInfo, hi, hz1, slicedAt, Result.andThen, Addr.add]

/-- points whose array and size are told apart -/
def ptG (a : List Int) (n : Nat) : List Value := ints a ++ [.int .i64 (n : Int)]
theorem ptL_G (l : List Int) : ptL l = ptG (l ++ List.replicate (12 - l.length) 0) l.length := rfl
theorem ptG_length {a : List Int} (n : Nat) (h : a.length = 12) : (ptG a n).length = 13 := by simp [ptG, ints, h]
theorem ptG_get {a : List Int} (n : Nat) (h : a.length = 12) (i : Nat) (hi : i < 12) : (ptG a n)[i]? = some (.int .i64 (a.getD i 0)) := by
  unfold ptG
  rw [List.getElem?_append_left (by simp [ints, h]; exact hi)]
  simp only [ints, List.getElem?_map, List.getD, List.getElem?_eq_getElem (show i < a.length by omega)]
  rfl
theorem ptG_last {a : List Int} (n : Nat) (h : a.length = 12) : (ptG a n)[12]? = some (.int .i64 (n : Int)) := by
  unfold ptG
  rw [List.getElem?_append_right (by simp [ints, h])]
  simp [ints, h]

set_option maxHeartbeats 1000000 in
theorem listG_any (a : List Int) (n : Nat) (w : World) (ha : a.length = 12) (hn : n ≤ 12) :
    Calls Try.prog 40 #[.agg (ptG a n).toArray] w (Made w (a.take n)) := by
  have hw : (w.alloc (.cells (ptG a n).toArray 51)).heap[w.heap.size]? = some (.cells (ptG a n).toArray 51 (0, 0)) := heap_alloc_new w _
  have hlast : (w.alloc (.cells (ptG a n).toArray 51)).cell? ⟨w.heap.size, 12, none⟩ = some (.int .i64 (n : Int)) := by
    rw [cell_of_row _ _ 12 _ _ _ hw, List.getElem?_toArray, ptG_last n ha]
  have hrd : Rd (w.alloc (.cells (ptG a n).toArray 51)) (.slice (some ⟨w.heap.size, 0, none⟩) n 12) (a.take n) := by
    have hl : (a.take n).length = n := by rw [List.length_take]; omega
    refine ⟨_, 12, by rw [hl], by omega, by unfold maxLen; omega, by simp, .inr ⟨w.heap.size, 0, rfl, fun k hk => ?_⟩⟩
    rw [Nat.zero_add, cell_of_row _ _ k _ _ _ hw, List.getElem?_toArray, ptG_get n ha k (by omega)]
    simp only [List.getD, List.getElem?_take]
    rw [if_pos (by omega)]
  have hsl := run_ats w.heap.size n (w.alloc (.cells (ptG a n).toArray 51)) hn
  have hcl := cloneW_any w.heap.size 0 n 12 (a.take n) _ hrd (by rw [List.length_take]; omega)
  have HC := Lib.hid hcl
  generalize a.take n = l at *
  generalize (ptG a n).toArray = C at *
  clear hw hrd hcl
  have hall := fun b w => run_ats b n w hn
  go_enter Try.func40, Try.ntmps40
  go_wp2_with (go_at_call 65; refine HC.out.mono ?_; rintro e w2 ⟨v2, rfl, hown, hb2⟩)
  go_ret
  exact ⟨_, rfl, hown.mono (by simp), (Below.alloc1 w _).trans (hb2.mono (by simp))⟩

theorem list_pts (l : List Int) (w : World) (hl : l.length ≤ 12) : Calls Try.prog 40 #[.agg (ptC l)] w (Made w l) := by
  have := listG_any (l ++ List.replicate (12 - l.length) 0) l.length w (by simp; omega) hl
  rw [← ptL_G, List.take_left' rfl] at this
  exact this

set_option maxHeartbeats 2000000 in
theorem following_any (p b : List Int) (x i : Nat) (w : World) (hp : p.length ≤ 12) (hb : b.length = 12) (hx : x < 12) (hi : b.getD x 0 = (i : Int)) (hip : i < p.length) :
    Calls Try.prog 42 #[.agg (wdC p b), .int .i64 x] w (IntOut w (p.getD ((i + 1) % p.length) 0)) := by
  have hw : WdIn (w.alloc (.cells (wdC p b) 53)) w.heap.size p b := heap_alloc_new w _
  have c1 := hw.idx hp hb x hx
  rw [hi] at c1
  have c2 := hw.size hp
  have hjl : (i + 1) % p.length < p.length := Nat.mod_lt _ (by omega)
  have c3 := hw.cell hp ((i + 1) % p.length) (by omega)
  have hrem : ((i : Int) + 1).tmod (p.length : Int) = (((i + 1) % p.length : Nat) : Int) := by
    rw [Int.natCast_emod, Int.natCast_add]
    exact Int.tmod_eq_emod_of_nonneg (by omega)
  obtain ⟨n, hn⟩ : ∃ n, n = p.length := ⟨_, rfl⟩
  rw [← hn] at c2 c3 hjl hrem hip hp ⊢
  generalize (i + 1) % n = j at c3 hjl hrem ⊢
  generalize p.getD j 0 = y at c3 ⊢
  have hj1 : (0 : Int) ≤ (j : Int) := by omega
  have hj2 : (j : Int) < 12 := by omega
  have hx1 : (0 : Int) ≤ (x : Int) := by omega
  have hx2 : (x : Int) < 12 := by omega
  have hn0 : (n : Int) ≠ 0 := by omega
  have hwi : IntKind.i64.wrap ((i : Int) + 1) = (i : Int) + 1 := IntWalk.i64_in _ (by omega)
  clear hw hn hi
  go_enter Try.func42, Try.ntmps42
  go_wp2
  go_region
  go_wp2
  go_ret
  exact ⟨rfl, Below.drew (Below.alloc1 _ _)⟩

def ok_PermutationOf (t b : List Int) : Bool := oneB t b
def res_PermutationOf (t b : List Int) : List Int := wsel t b
theorem len_PermutationOf (t b : List Int) : (res_PermutationOf t b).length ≤ 1000000 := by have := wsel_len t b; unfold res_PermutationOf; omega
set_option maxHeartbeats 2000000 in
theorem impl_PermutationOf (t b : List Int) (w : World) (u1 u2 : Value) (h1 : Rd w u1 t) (h2 : Rd w u2 b) (m1 : t.length ≤ 1048576) (m2 : b.length ≤ 1048576) :
    Calls Try.prog 13 #[.agg #[u1, u2]] w (Gives w (res_PermutationOf t b) (ok_PermutationOf t b)) := by
  have hA := Box2.new 28 w u1 u2
  have B1 : Below w.heap.size w (w.alloc (.cells #[u1, u2] 28)) := Below.alloc1 w _
  have k0 := hA.c0; have k1 := hA.c1
  have hrd := wordOf_any t b _ u1 u2 (h1.below B1) (h2.below B1)
  have hp := wsel_len t b
  have hi := wseli_len t b
  unfold res_PermutationOf ok_PermutationOf
  generalize wsel t b = p at *
  generalize wseli t b = q at *
  generalize oneB t b = R at *
  have hl := fun w => list_pts p w hp
  have HR := Lib.hid hrd; have HB := Lib.hid B1; have HP := Lib.hid hp; have HI := Lib.hid hi; have HL := Lib.hid hl
  clear hA B1 h1 h2 hrd hp hi hl
  go_enter Try.func13, Try.ntmps13
  go_wp2_with fail
  refine HR.out.mono ?_
  rintro e w1 ⟨rfl, hb1⟩
  have HB1 := Lib.hid (Below.step HB.out hb1)
  clear hb1 k0 k1
  go_wp2_with (first
      | ((with_reducible refine wp_storeNewWd rfl (.tmp 4) (.tmp 9) rfl w1 p q HP.out HI.out rfl rfl ?_); intro w2 hs2 hb2; have HW2 := Lib.hid hs2; have HB2 := Lib.hid (Below.step HB1.out hb2); clear hs2)
      | (with_reducible refine wp_loadPtW rfl (.tmp 11) rfl w1.heap.size p q HP.out rfl HW2.out ?_)
      | (go_at_call 40; refine (HL.out _).mono ?_; rintro e w3 ⟨v3, rfl, hown, hb3⟩))
  go_ret2
  exact ⟨_, rfl, hown.mono HB2.out.size, Below.step HB2.out hb3⟩

def ok_CycleOf (t b : List Int) : Bool := oneB t b
def res_CycleOf (t b : List Int) : List Int := tellL (wsel t b).length fun k => (wsel t b).getD ((((wseli t b).getD k 0).toNat + 1) % (wsel t b).length) 0
theorem len_CycleOf (t b : List Int) : (res_CycleOf t b).length ≤ 1000000 := by have := wsel_len t b; unfold res_CycleOf; rw [tellL_length]; omega
theorem wseli_at (t b : List Int) (k : Nat) (hk : k < (wsel t b).length) : ∃ i : Nat, (wseli t b).getD k 0 = (i : Int) ∧ i < (wsel t b).length := by
  unfold wsel wseli at *
  cases h : oneB t b with
  | true =>
    rw [h, selL_yes] at hk
    obtain ⟨_, _, hw, _⟩ := one_facts h
    obtain ⟨i, h1, _, h2⟩ := word_has hw hk
    exact ⟨i, h2, h1⟩
  | false => rw [h, selL_no] at hk; simp at hk
set_option maxHeartbeats 2000000 in
theorem impl_CycleOf (t b : List Int) (w : World) (u1 u2 : Value) (h1 : Rd w u1 t) (h2 : Rd w u2 b) (m1 : t.length ≤ 1048576) (m2 : b.length ≤ 1048576) :
    Calls Try.prog 20 #[.agg #[u1, u2]] w (Gives w (res_CycleOf t b) (ok_CycleOf t b)) := by
  have hA := Box2.new 28 w u1 u2
  have B1 : Below w.heap.size w (w.alloc (.cells #[u1, u2] 28)) := Below.alloc1 w _
  have k0 := hA.c0; have k1 := hA.c1
  have hrd := wordOf_any t b _ u1 u2 (h1.below B1) (h2.below B1)
  have hp := wsel_len t b
  have hi := wseli_len t b
  have hat := wseli_at t b
  unfold res_CycleOf ok_CycleOf
  generalize wsel t b = p at *
  generalize wseli t b = q at *
  generalize oneB t b = R at *
  have hl := fun w => row_fol p (fun k => p.getD (((q.getD k 0).toNat + 1) % p.length) 0) (.agg (wdC p q)) w hp (fun k w hk => by
    obtain ⟨i, h1, h2⟩ := hat k hk
    have := following_any p q k i w hp hi (by omega) h1 h2
    rw [h1, Int.toNat_natCast]
    exact this)
  generalize (tellL p.length fun k => p.getD (((q.getD k 0).toNat + 1) % p.length) 0) = out at hl ⊢
  have HR := Lib.hid hrd; have HB := Lib.hid B1; have HP := Lib.hid hp; have HI := Lib.hid hi; have HL := Lib.hid hl
  clear hA B1 h1 h2 hrd hp hi hl hat
  go_enter Try.func20, Try.ntmps20
  go_wp2_with fail
  refine HR.out.mono ?_
  rintro e w1 ⟨rfl, hb1⟩
  have HB1 := Lib.hid (Below.step HB.out hb1)
  clear hb1 k0 k1
  go_wp2_with (first
      | ((with_reducible refine wp_storeNewWd rfl (.tmp 4) (.tmp 9) rfl w1 p q HP.out HI.out rfl rfl ?_); intro w2 hs2 hb2; have HW2 := Lib.hid hs2; have HB2 := Lib.hid (Below.step HB1.out hb2); clear hs2)
      | (with_reducible refine wp_loadPtW rfl (.tmp 11) rfl w1.heap.size p q HP.out rfl HW2.out ?_)
      | (with_reducible refine wp_loadWd rfl (.tmp 4) rfl w1.heap.size p q HP.out HI.out rfl HW2.out ?_)
      | (go_at_call 41; refine (HL.out _).mono ?_; rintro e w3 ⟨v3, rfl, hown, hb3⟩))
  go_ret2
  exact ⟨_, rfl, hown.mono HB2.out.size, Below.step HB2.out hb3⟩

end Go.Proofs.Ytkohmdhjjnmfgab
