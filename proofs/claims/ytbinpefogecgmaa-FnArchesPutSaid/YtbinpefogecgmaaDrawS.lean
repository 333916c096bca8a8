/- Systems drawn. -/
import Derived.Test.YtbinpefogecgmaaCur
import Derived.Test.YtbinpefogecgmaaParse
import Derived.Test.YtbinpefogecgmaaFlat
import Derived.Test.YtbinpefogecgmaaRain
import Derived.Test.YtbinpefogecgmaaShift
import Derived.Test.YtbinpefogecgmaaListsLaw
namespace Go.Proofs.Ytbinpefogecgmaa
open Go.RowKit
set_option linter.unusedSimpArgs false
set_option linter.unusedVariables false

theorem CurOut.below {w w1 w2 : World} {g M : Nat} {v : Value} (h : CurOut w g v M w1) (hb : Below w1.heap.size w1 w2) : CurOut w g v M w2 :=
  ⟨h.1.below hb, ⟨hb.os.trans h.2.os, hb.tape.trans h.2.tape, hb.output.trans h.2.output, Nat.le_trans h.2.size hb.size, fun k hk hne => (hb.block k (Nat.lt_of_lt_of_le hk h.2.size)).trans (h.2.block k hk hne)⟩⟩
/-- rows of the call's own may be written -/
theorem CurOut.wrote {w w1 w2 : World} {g M : Nat} {v : Value} {row : Option Nat} (h : CurOut w g v M w1) (hg : w1.grownBy w2 row) (hr : ∀ k, row = some k → w.heap.size ≤ k) (hgl : g < w.heap.size) : CurOut w g v M w2 :=
  ⟨h.1.grown hg (fun e => by have := hr g e.symm; omega), ⟨hg.os.trans h.2.os, hg.tape.trans h.2.tape, hg.output.trans h.2.output, Nat.le_trans h.2.size hg.size, fun k hk hne => (hg.block k (Nat.lt_of_lt_of_le hk h.2.size) (fun e => by have := hr k e.symm; omega)).trans (h.2.block k hk hne)⟩⟩
theorem CurOut.own {w w1 : World} {g M B : Nat} {v u : Value} {ls : List Int} (h : CurOut w g v M w1) (ho : Own B w u ls) (hB : g < B) : Own B w1 u ls :=
  ho.grown h.2 (fun k hk e => by have := (ho.lt k hk).1; simp at e; omega)
theorem CurOut.mono {w w1 : World} {g M M' : Nat} {v : Value} (h : CurOut w g v M w1) (hm : M ≤ M') : CurOut w g v M' w1 := ⟨h.1.mono hm, h.2⟩
/-- a list drawn -/
def DrewL (w : World) (g : Nat) (v : Value) (M K : Nat) (e : Ending) (w' : World) : Prop := ∃ (u : Value) (ls : List Int), e = .returned u ∧ Own w.heap.size w' u ls ∧ ls.length ≤ K ∧ CurOut w g v M w'

theorem res_Parse_len (s : ByteArray) : (res_ParseSystem s).length ≤ 12 := by
  unfold res_ParseSystem
  cases h : parsed s with
  | none => simp
  | some q => have := (parsed_len h).2; simpa using this
set_option maxHeartbeats 4000000 in
set_option maxRecDepth 100000 in
theorem sure_any (g M n : Nat) (v : Value) (l : List Int) (w : World) (h : CurC w g v M) (hr : RdY w v l) (hM : M ≤ 800000) (hn : n ≤ 100) :
    Calls Try.prog 85 #[.pointer (some ⟨g, 0, none⟩), .int .i64 (n : Int)] w (DrewL w g v (M + 4 * n) 12) := by
  have HONE := Lib.hid (fun (k : Nat) (w1 : World) (hk : k ≤ 2 * n) (ho : CurOut w g v (M + 2 * k) w1) => one_any g (M + 2 * k) 2 v l w1 ho.1 (CurOut.rd hr h ho) (by omega) (by omega))
  have HP := Lib.hid (fun (s : ByteArray) w (hs : s.size ≤ 1000) => ahParse_any s w (by omega))
  have H := Lib.hid h
  clear h hr
  go_enter Try.func85, Try.ntmps85
  go_wp2_with fail
  go_loopw [5, 6, 7, 8] (fun s o f i wr => ∃ (k op lf : Nat) (t : ByteArray), k ≤ 2 * n ∧ i = .int .i64 (k : Int) ∧ o = .int .i64 (op : Int) ∧ f = .int .i64 (lf : Int) ∧ op + 2 * lf + k = 2 * n ∧ s = .string t ∧ t.size = k ∧ CurOut w g v (M + 2 * k) wr) (fun _ _ _ i _ => 2 * n - (intOf i).toNat)
  case atStart => exact ⟨0, 0, n, ByteArray.empty, by omega, rfl, rfl, rfl, by omega, rfl, rfl, CurOut.refl H.out⟩
  case round =>
    obtain ⟨k, op, lf, t, hk, rfl, rfl, rfl, hsum, rfl, hts, hout⟩ := hrel
    generalize wr = wc at *
    have hw0 : IntKind.i64.wrap (2 * (n : Int)) = 2 * (n : Int) := IntWalk.i64_in _ (by omega)
    by_cases hlt : k < 2 * n
    · have HOUT := Lib.hid hout
      have HO1 := Lib.hid (HONE.out k wc hk hout)
      have HTS := Lib.hid hts
      have hts2 : t.size ≤ 200 := by omega
      have hlt2 : (k : Int) < 2 * (n : Int) := by omega
      clear hout hts
      by_cases hl : 0 < lf
      · by_cases ho : op = 0
        · subst ho
          have h0 : (0 : Int) < (lf : Int) := by omega
          have hw1 : IntKind.i64.wrap ((lf : Int) - 1) = (lf : Int) - 1 := IntWalk.i64_in _ (by omega)
          have HL := Lib.hid hl
          have HS := Lib.hid hsum
          clear hsum
          go_wp2
          go_roundw
          case rel => exact ⟨k + 1, 1, lf - 1, _, by omega, by go_num, rfl, by have := HL.out; congr 1; omega, by have := HS.out; have := HL.out; omega, rfl, by rw [ByteArray.size_append, HTS.out]; rfl, (CurOut.mono HOUT.out (by omega))⟩
          case measure => simp [intOf]; omega
        · have hop : ((op : Int) == 0) = false := beq_eq_false_iff_ne.2 (by omega)
          have h0 : (0 : Int) < (lf : Int) := by omega
          have hw1 : IntKind.i64.wrap ((lf : Int) - 1) = (lf : Int) - 1 := IntWalk.i64_in _ (by omega)
          have hw2 : IntKind.i64.wrap ((op : Int) - 1) = (op : Int) - 1 := IntWalk.i64_in _ (by omega)
          have hw3 : IntKind.i64.wrap ((op : Int) + 1) = (op : Int) + 1 := IntWalk.i64_in _ (by omega)
          have HS := Lib.hid hsum
          have HOP := Lib.hid ho; have HL := Lib.hid hl
          have HIF : Hid (∀ b : Bool, b = true ∨ b = false) := fun b => by cases b <;> simp
          clear hsum
          go_wp2_with (go_at_call 73; refine HO1.out.mono ?_; rintro e w1 ⟨b, rfl, ho⟩; have HO2 := Lib.hid (CurOut.trans HOUT.out ho); clear ho; rcases HIF.out b with rfl | rfl)
          all_goals
            go_wp2
            go_roundw
            case rel =>
              first
                | exact ⟨k + 1, op + 1, lf - 1, _, by omega, by go_num, by first | rfl | (congr 1), by have := HL.out; congr 1; omega, by have := HS.out; have := HL.out; omega, rfl, by rw [ByteArray.size_append, HTS.out]; rfl, (CurOut.mono HO2.out (by omega))⟩
                | exact ⟨k + 1, op - 1, lf, _, by omega, by go_num, by have := HOP.out; congr 1; omega, rfl, by have := HS.out; have := HOP.out; omega, rfl, by rw [ByteArray.size_append, HTS.out]; rfl, (CurOut.mono HO2.out (by omega))⟩
            case measure => simp [intOf]; omega
      · obtain rfl : lf = 0 := by omega
        have hop : 0 < op := by omega
        have hw2 : IntKind.i64.wrap ((op : Int) - 1) = (op : Int) - 1 := IntWalk.i64_in _ (by omega)
        have HS := Lib.hid hsum; have HOP := Lib.hid hop
        clear hsum
        go_wp2
        go_roundw
        case rel => exact ⟨k + 1, op - 1, 0, _, by omega, by go_num, by have := HOP.out; congr 1; omega, rfl, by have := HS.out; have := HOP.out; omega, rfl, by rw [ByteArray.size_append, HTS.out]; rfl, (CurOut.mono HOUT.out (by omega))⟩
        case measure => simp [intOf]; omega
    · obtain rfl : k = 2 * n := by omega
      have hlt2 : ¬ ((2 * n : Nat) : Int) < 2 * (n : Int) := by omega
      have HOUT := Lib.hid hout
      have HPS := Lib.hid (fun w => HP.out t w (by omega))
      have HRL := Lib.hid (res_Parse_len t)
      generalize res_ParseSystem t = R at *
      generalize ok_ParseSystem t = OK at *
      clear hout hsum
      go_wp2_with (go_at_call 88; refine (HPS.out _).mono ?_; rintro e w1 ⟨u, rfl, ho, hb⟩; obtain ⟨y1, y2, y3, rfl⟩ := ho.form'; have HO := Lib.hid ho; have HB := Lib.hid hb; clear ho hb)
      go_ret
      exact ⟨_, R, rfl, HO.out.mono HOUT.out.2.size, HRL.out, (CurOut.mono (CurOut.below HOUT.out HB.out) (by omega))⟩
theorem CurOut.lt {w w1 : World} {g M : Nat} {v : Value} (h : CurOut w g v M w1) : w.heap.size ≤ w1.heap.size := h.2.size
set_option maxHeartbeats 4000000 in
set_option maxRecDepth 100000 in
theorem system_any (g M m : Nat) (v : Value) (l : List Int) (w : World) (h : CurC w g v M) (hr : RdY w v l) (hM : M ≤ 700000) (hm : m ≤ 6) :
    Calls Try.prog 94 #[.pointer (some ⟨g, 0, none⟩), .int .i64 (m : Int)] w (DrewL w g v (M + 40) 14) := by
  have hgl := h.lt
  have HRY := Lib.hid (fun w1 K (ho : CurOut w g v K w1) => CurOut.rd hr h ho)
  have HP0 := Lib.hid (pick_any g M ((m : Int) + 1) v l w h hr (by omega) (by omega))
  have HPK := Lib.hid (fun (K : Nat) (n : Int) (w1 : World) (ho : CurOut w g v K w1) (hK : K ≤ 800000) (hn : n ≤ 1000) => pick_any g K n v l w1 ho.1 (CurOut.rd hr h ho) (by omega) (by omega))
  have HSU := Lib.hid (fun (K n : Nat) (w1 : World) (ho : CurOut w g v K w1) (hK : K ≤ 800000) (hn : n ≤ 6) => sure_any g K n v l w1 ho.1 (CurOut.rd hr h ho) (by omega) (by omega))
  have hw1 : IntKind.i64.wrap ((m : Int) + 1) = (m : Int) + 1 := IntWalk.i64_in _ (by omega)
  clear h hr
  go_enter Try.func94, Try.ntmps94
  go_wp2_with fail
  refine HP0.out.mono ?_
  rintro e w1 ⟨x, rfl, ⟨hx0, hx1⟩, ho1⟩
  obtain ⟨n, rfl⟩ := Int.eq_ofNat_of_zero_le hx0
  have hn6 : n ≤ 6 := by rcases hx1 with hx1 | hx1 <;> omega
  have HO1 := Lib.hid ho1
  clear hx0 hx1 ho1
  go_wp2_with fail
  refine (HSU.out _ n w1 HO1.out (by omega) hn6).mono ?_
  rintro e w2 ⟨u, ls, rfl, hq2, hl2, ho2⟩
  obtain ⟨y1, c2, rfl, hc1, hc2⟩ := hq2.form
  unfold maxLen at hc2
  have HO2 := Lib.hid (CurOut.mono (HO1.out.trans ho2) (show M + 2 + 4 * n ≤ M + 26 by omega))
  have HQ2 := Lib.hid (hq2.mono HO1.out.lt)
  clear hq2 ho2
  go_wp2_with fail
  refine (HPK.out _ 16 w2 HO2.out (by omega) (by omega)).mono ?_
  rintro e w3 ⟨d, rfl, ⟨hd0, hd1⟩, ho3⟩
  have HO3 := Lib.hid (HO2.out.trans ho3)
  have HQ3 := Lib.hid (CurOut.own ho3 HQ2.out hgl)
  clear ho3
  have hd : d = 0 ∨ d = 1 ∨ d = 2 ∨ d = 3 ∨ (d ≠ 0 ∧ d ≠ 1 ∧ d ≠ 2 ∧ d ≠ 3) := by omega
  clear hd0 hd1
  rcases hd with rfl | rfl | rfl | rfl | ⟨n0, n1, n2, n3⟩
  · by_cases hz : ls.length = 0
    · have hz2 : ¬ (0 : Int) < (ls.length : Int) := by omega
      have HLZ := Lib.hid hz
      clear hz
      go_wp2_with fail
      go_ret
      exact ⟨_, ls, rfl, HQ3.out, by omega, CurOut.mono HO3.out (by omega)⟩
    · have hz2 : (0 : Int) < (ls.length : Int) := by omega
      have hw2 : IntKind.i64.wrap ((ls.length : Int) + 2) = (ls.length : Int) + 2 := IntWalk.i64_in _ (by omega)
      obtain ⟨gq, rfl, _⟩ := HQ3.out.get 0 (by omega)
      go_wp2_with fail
      refine (HPK.out _ (ls.length : Int) w3 HO3.out (by omega) (by omega)).mono ?_
      rintro e w4 ⟨x, rfl, ⟨hx0, hx1⟩, ho4⟩
      obtain ⟨j, rfl⟩ := Int.eq_ofNat_of_zero_le hx0
      have hj : j < ls.length := by rcases hx1 with hx1 | hx1 <;> omega
      have HO4 := Lib.hid (HO3.out.trans ho4)
      have HQ4 := Lib.hid (CurOut.own ho4 HQ3.out hgl)
      clear ho4 hx0 hx1
      go_wp2_with fail
      refine (HPK.out _ ((ls.length : Int) + 2) w4 HO4.out (by omega) (by omega)).mono ?_
      rintro e w5 ⟨z, rfl, ⟨hz0, hz1⟩, ho5⟩
      have HO5 := Lib.hid (HO4.out.trans ho5)
      have HQ5 := Lib.hid (CurOut.own ho5 HQ4.out hgl)
      have hw3 : IntKind.i64.wrap (z - 1) = z - 1 := IntWalk.i64_in _ (by omega)
      have hji : (j : Int) < (ls.length : Int) := by omega
      have hj0 : (0 : Int) ≤ (j : Int) := by omega
      clear ho5 hz1
      go_wp2_with ((refine wp_storeOwn rfl (.tmp 30) (.tmp 29) rfl w.heap.size gq j ls.length c2 ls (z - 1) rfl rfl HQ5.out hj ?_); intro w6 hq6 hg6; have HQ6 := Lib.hid hq6; have HO6 := Lib.hid (CurOut.wrote HO5.out hg6 (fun k hk => by simp at hk; subst hk; exact (HQ5.out.lt _ rfl).1) hgl); clear hq6 hg6)
      go_ret
      exact ⟨_, ls.set j (z - 1), rfl, HQ6.out, by rw [List.length_set]; omega, CurOut.mono HO6.out (by omega)⟩
  · have hw2 : IntKind.i64.wrap ((ls.length : Int) + 1) = (ls.length : Int) + 1 := IntWalk.i64_in _ (by omega)
    have HQ4 := Lib.hid (HQ3.out.below (Below.alloc1 w3 (.cells #[.int .i64 ((ls.length : Int) + 1)] 3)))
    go_wp2_with (at_builtin; refine wp_append _ rfl (.tmp 33) (.tmp 37) rfl w.heap.size _ (.slice (some ⟨w3.heap.size, 0, none⟩) 1 1) ls [(ls.length : Int) + 1] rfl rfl HQ4.out (Own.lit1 _ w3 _ (Nat.le_refl _)).rd (by simp; omega) (by have := HO3.out.lt; simp; omega) ?_; intro v5 w5 hq5 hg5 hb5; obtain ⟨x1, x2, x3, rfl⟩ := hq5.form'; have HQ5 := Lib.hid hq5; have HO5 := Lib.hid (CurOut.wrote (CurOut.below HO3.out (Below.alloc1 w3 (.cells #[.int .i64 ((ls.length : Int) + 1)] 3))) hg5 (fun k hk => (HQ4.out.lt k hk).1) hgl); clear hq5 hg5 hb5)
    go_ret
    exact ⟨_, ls ++ [(ls.length : Int) + 1], rfl, HQ5.out, by simp; omega, CurOut.mono HO5.out (by omega)⟩
  · go_wp2_with fail
    refine (HPK.out _ 2 w3 HO3.out (by omega) (by omega)).mono ?_
    rintro e w4 ⟨x, rfl, ⟨hx0, hx1⟩, ho4⟩
    obtain ⟨j, rfl⟩ := Int.eq_ofNat_of_zero_le hx0
    have hj : j ≤ 1 := by rcases hx1 with hx1 | hx1 <;> omega
    have HO4 := Lib.hid (HO3.out.trans ho4)
    have hw2 : IntKind.i64.wrap (6 + (j : Int)) = ((6 + j : Nat) : Int) := by rw [show (6 : Int) + (j : Int) = ((6 + j : Nat) : Int) by omega]; exact IntWalk.i64_in _ (by omega)
    clear ho4 hx0 hx1
    go_wp2_with fail
    refine (ahFlat_upto (6 + j) (by omega) w4).mono ?_
    rintro e w5 ⟨q, rfl, hq5, hb5⟩
    obtain ⟨x1, x2, x3, rfl⟩ := hq5.form'
    have HQ5 := Lib.hid (hq5.mono HO4.out.lt); have HO5 := Lib.hid (HO4.out.below hb5)
    have HLE : Hid ((flats (6 + j)).length ≤ 14) := by show _ ≤ _; rw [flats_length]; omega
    clear hq5 hb5
    go_wp2_with fail
    go_ret
    exact ⟨_, flats (6 + j), rfl, HQ5.out, HLE.out, CurOut.mono HO5.out (by omega)⟩
  · go_wp2_with fail
    refine (HPK.out _ 7 w3 HO3.out (by omega) (by omega)).mono ?_
    rintro e w4 ⟨x, rfl, ⟨hx0, hx1⟩, ho4⟩
    obtain ⟨j, rfl⟩ := Int.eq_ofNat_of_zero_le hx0
    have hj : j ≤ 6 := by rcases hx1 with hx1 | hx1 <;> omega
    have HO4 := Lib.hid (HO3.out.trans ho4)
    clear ho4 hx0 hx1
    go_wp2_with fail
    refine (ahRainbow_any j hj w4).mono ?_
    rintro e w5 ⟨q, rfl, hq5, hb5⟩
    obtain ⟨x1, x2, x3, rfl⟩ := hq5.form'
    have HQ5 := Lib.hid (hq5.mono HO4.out.lt); have HO5 := Lib.hid (HO4.out.below hb5)
    have HLE : Hid ((rainbow j).length ≤ 14) := by show _ ≤ _; rw [rainbow_len]; omega
    clear hq5 hb5
    go_wp2_with fail
    go_ret
    exact ⟨_, rainbow j, rfl, HQ5.out, HLE.out, CurOut.mono HO5.out (by omega)⟩
  · have k0 : (d == 0) = false := beq_eq_false_iff_ne.2 n0
    have k1 : (d == 1) = false := beq_eq_false_iff_ne.2 n1
    have k2 : (d == 2) = false := beq_eq_false_iff_ne.2 n2
    have k3 : (d == 3) = false := beq_eq_false_iff_ne.2 n3
    clear n0 n1 n2 n3
    go_wp2_with fail
    go_ret
    exact ⟨_, ls, rfl, HQ3.out, by omega, CurOut.mono HO3.out (by omega)⟩

end Go.Proofs.Ytbinpefogecgmaa
