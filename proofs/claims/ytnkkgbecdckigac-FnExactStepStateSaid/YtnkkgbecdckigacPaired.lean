/- The program's isPaired and crosses. -/
import Derived.Test.YtnkkgbecdckigacRound
import Derived.Test.YtnkkgbecdckigacOwn
namespace Go.Proofs.Ytnkkgbecdckigac
open Go.RowKit Go.Maps
set_option linter.unusedSimpArgs false
set_option linter.unusedVariables false

/-- how often each number is there, so far -/
def cntN (r : List Int) (k j : Nat) : Nat := (r.take k).count (j : Int)
def cntL (r : List Int) (k : Nat) : List Int := (List.range 12).map fun j => (cntN r k j : Int)
theorem cntL_len (r : List Int) (k : Nat) : (cntL r k).length = 12 := by simp [cntL]
theorem cntL_zero (r : List Int) : cntL r 0 = [0, 0, 0, 0, 0, 0, 0, 0, 0, 0, 0, 0] := by rfl
theorem cntL_get (r : List Int) (k q : Nat) (hq : q < 12) : (cntL r k).getD q 0 = (cntN r k q : Int) := by
  simp [cntL, List.getD, hq]
theorem cntN_le (r : List Int) (k j : Nat) : cntN r k j ≤ k := by
  unfold cntN
  have := List.count_le_length (a := (j : Int)) (l := r.take k)
  rw [List.length_take] at this
  omega
theorem cntL_succ (r : List Int) (k q : Nat) (hk : k < r.length) (hq : q < 12) (hx : r.getD k 0 = (q : Int)) : (cntL r k).set q ((cntN r k q : Int) + 1) = cntL r (k + 1) := by
  apply List.ext_getElem
  · simp [cntL]
  · intro i h1 h2
    have hi : i < 12 := by simpa [cntL] using h2
    rw [List.getElem_set]
    simp only [cntL, List.getElem_map, List.getElem_range]
    have hs : cntN r (k + 1) i = cntN r k i + if (q : Int) == (i : Int) then 1 else 0 := by
      unfold cntN
      rw [List.take_succ_eq_append_getElem hk, List.count_append, show r[k] = (q : Int) by rw [← hx]; simp [List.getD, hk], List.count_singleton]
    by_cases e : q = i
    · subst e
      rw [if_pos rfl, hs]; simp
    · rw [if_neg e, hs]
      have : ((q : Int) == (i : Int)) = false := by
        have : ¬ (q : Int) = (i : Int) := by omega
        simpa using this
      rw [this]; simp
theorem cntN_all (r : List Int) (j : Nat) : cntN r r.length j = r.count (j : Int) := by unfold cntN; rw [List.take_length]

def TimesIn (w : World) (b : Nat) (r : List Int) (k : Nat) : Prop := w.heap[b]? = some (.cells (ints (cntL r k)).toArray 75 (0, 0))
theorem TimesIn.below {w w' : World} {b k : Nat} {r : List Int} (h : TimesIn w b r k) (hb : Below w.heap.size w w') : TimesIn w' b r k := (hb.block b (Array.getElem?_eq_some_iff.1 h).1).trans h
theorem TimesIn.cell {w : World} {b k : Nat} {r : List Int} (h : TimesIn w b r k) (q : Nat) (hq : q < 12) : w.cell? ⟨b, q, none⟩ = some (.int .i64 (cntN r k q : Int)) := by
  rw [cell_of_row w b q _ _ _ h, List.getElem?_toArray, ← cntL_get r k q hq]
  simp [ints, List.getD, cntL_len, hq]
theorem TimesIn.free {w : World} {b k : Nat} {r : List Int} (h : TimesIn w b r k) (q : Nat) : w.frozen? ⟨b, q, none⟩ = false := frozen_of_row w b q _ _ h
theorem TimesIn.more {w : World} {b k q : Nat} {r : List Int} (h : TimesIn w b r k) (hk : k < r.length) (hq : q < 12) (hx : r.getD k 0 = (q : Int)) : TimesIn (w.setCell ⟨b, q, none⟩ (.int .i64 ((cntN r k q : Int) + 1))) b r (k + 1) := by
  have := row_put (k := q) h (.int .i64 ((cntN r k q : Int) + 1))
  unfold TimesIn
  rw [this, ← cntL_succ r k q hk hq hx]
  simp [ints]
theorem below_cell {B b : Nat} {w0 w : World} {v : Value} {q : Nat} (h : Below B w0 w) (hb : B ≤ b) : Below B w0 (w.setCell ⟨b, q, none⟩ v) := h.setCell (p := ⟨b, q, none⟩) hb v

theorem setCell_grown (w : World) (b o : Nat) (v : Value) : w.grownBy (w.setCell ⟨b, o, none⟩ v) (some b) :=
  ⟨rfl, rfl, rfl, by simp, fun k hk hne => RowKit.Below.heap_setCell _ _ _ _ (by intro e; exact hne (by rw [e]))⟩
def Part12 (r : List Int) : Prop := ∀ k, k < r.length → ∃ q : Nat, q < 12 ∧ r.getD k 0 = (q : Int)
set_option maxHeartbeats 4000000 in
set_option maxRecDepth 100000 in
theorem frPaired_any (u d : List Int) (c : Int) (w : World) (hu : u.length ≤ 6) (hd : d.length ≤ 6) (hp : Part12 (roundL u d)) :
    Calls Try.prog 72 #[.agg (frC u d c)] w fun e w' => e = .returned (.bool (twiceB (roundL u d))) ∧ Below w.heap.size w w' := by
  have HU := Lib.hid hu; have HD := Lib.hid hd
  have HRO := Lib.hid (fun w => round_any u d c w hu hd)
  have hrl : (roundL u d).length ≤ 12 := by unfold roundL; rw [List.length_append, List.length_reverse]; omega
  have h0 : FrIn ((w.alloc (.cells (frC u d c) 66)).alloc (.cells #[.int .i64 0, .int .i64 0, .int .i64 0, .int .i64 0, .int .i64 0, .int .i64 0, .int .i64 0, .int .i64 0, .int .i64 0, .int .i64 0, .int .i64 0, .int .i64 0] 75)) w.heap.size u d c := FrIn.below (heap_alloc_new w _) (Below.alloc1 _ _)
  have h1 : TimesIn ((w.alloc (.cells (frC u d c) 66)).alloc (.cells #[.int .i64 0, .int .i64 0, .int .i64 0, .int .i64 0, .int .i64 0, .int .i64 0, .int .i64 0, .int .i64 0, .int .i64 0, .int .i64 0, .int .i64 0, .int .i64 0] 75)) (w.heap.size + 1) (roundL u d) 0 := by
    have := heap_alloc_new (w.alloc (.cells (frC u d c) 66)) (.cells #[.int .i64 0, .int .i64 0, .int .i64 0, .int .i64 0, .int .i64 0, .int .i64 0, .int .i64 0, .int .i64 0, .int .i64 0, .int .i64 0, .int .i64 0, .int .i64 0] 75)
    rw [World.size_alloc] at this
    unfold TimesIn
    rw [cntL_zero]
    exact this
  have hb0 : Below w.heap.size w ((w.alloc (.cells (frC u d c) 66)).alloc (.cells #[.int .i64 0, .int .i64 0, .int .i64 0, .int .i64 0, .int .i64 0, .int .i64 0, .int .i64 0, .int .i64 0, .int .i64 0, .int .i64 0, .int .i64 0, .int .i64 0] 75)) := (Below.alloc1 w _).alloc (by simp) _
  unfold twiceB
  generalize roundL u d = r at *
  obtain ⟨R, hR⟩ : ∃ R, allFrom (fun i => decide (r.count (r.getD i 0) = 2)) 0 r.length = R := ⟨_, rfl⟩
  rw [hR]
  have HR := Lib.hid hR; clear hR
  have HF := Lib.hid h0; have HT := Lib.hid h1; have HB := Lib.hid hb0; have HP := Lib.hid hp
  clear hu hd h0 h1 hb0 hp
  go_enter Try.func72, Try.ntmps72
  go_wp2_with (first
    | (with_reducible refine wp_loadFr rfl (.tmp 1) rfl w.heap.size u d c HU.out HD.out rfl HF.out ?_)
    | (go_at_call 91; ((refine (HRO.out _).mono ?_); rintro e w1 ⟨v1, rfl, ho1, hb1⟩; obtain ⟨a1, c1, rfl, hx1, hx2⟩ := ho1.form; unfold maxLen at hx2; have HO1 := Lib.hid ho1; have HF1 := Lib.hid (HF.out.below hb1); have HT1 := Lib.hid (HT.out.below hb1); have HB1 := Lib.hid (Below.step HB.out hb1); have hs1 := hb1.size; simp only [World.size_alloc] at hs1; clear ho1 hb1)))
  go_loopw [11] (fun i wr => ∃ k : Nat, k ≤ r.length ∧ i = .int .i64 k ∧ Hid (TimesIn wr (w.heap.size + 1) r k) ∧ Hid (Own (w.heap.size + 1 + 1) wr (.slice a1 r.length c1) r) ∧ Hid (FrIn wr w.heap.size u d c) ∧ Hid (Below w.heap.size w wr)) (fun i _ => r.length - (intOf i).toNat)
  case atStart => exact ⟨0, by omega, rfl, HT1, Lib.hid (by simpa using HO1.out), HF1, HB1⟩
  case round =>
    clear HO1 HF1 HT1 HB1 HF HT HB
    obtain ⟨k, hk, rfl, HT, HO, HF, HB⟩ := hrel
    generalize wr = wc at *
    by_cases hlt : k < r.length
    · obtain ⟨q, hq, hx⟩ := HP.out k hlt
      obtain ⟨b1, o1, c1', e1, _, _, hcl⟩ := HO.out.rd.at (by omega)
      simp only [Value.slice.injEq, true_and] at e1
      obtain ⟨rfl, rfl⟩ := e1
      have hck := hcl k hlt
      rw [hx] at hck
      have hc := HT.out.cell q hq
      have hf := HT.out.free q
      have hle := cntN_le r k q
      have HM := Lib.hid (HT.out.more hlt hq hx)
      generalize cntN r k q = z at *
      have hw : IntKind.i64.wrap ((z : Int) + 1) = (z : Int) + 1 := IntWalk.i64_in _ (by omega)
      have HG := Lib.hid (setCell_grown wc (w.heap.size + 1) q (.int .i64 ((z : Int) + 1)))
      have HLT := Lib.hid HO.out.lt
      clear hcl hx
      go_wp2
      go_roundw
      case rel => exact ⟨k + 1, by omega, by go_num, HM, Lib.hid (HO.out.grown HG.out (fun j hj e => by simp at e; have := (HLT.out j hj).1; omega)), Lib.hid ((HG.out.block _ HF.out.lt (by simp)).trans HF.out), Lib.hid (below_cell HB.out (by omega))⟩
      case measure => simp [intOf]; omega
    · obtain rfl : k = r.length := by omega
      have HTA := Lib.hid (fun q (hq : q < 12) => show wc.cell? ⟨w.heap.size + 1, q, none⟩ = some (.int .i64 ((r.count (q : Int) : Nat) : Int)) from by rw [HT.out.cell q hq, cntN_all])
      have HT0 := Lib.hid HT.out
      clear HT HO hlt
      go_wp2_with (first
        | (with_reducible refine wp_loadFr rfl (.tmp 1) rfl w.heap.size u d c HU.out HD.out rfl HF.out ?_)
        | (go_at_call 91; ((refine (HRO.out _).mono ?_); rintro e w2 ⟨v2, rfl, ho2, hb2⟩; obtain ⟨a2, c2, rfl, hy1, hy2⟩ := ho2.form; unfold maxLen at hy2; have HO2 := Lib.hid ho2; have HB2 := Lib.hid (Below.step HB.out hb2); have HTB := Lib.hid (fun q hq => (hb2.cell (p := ⟨w.heap.size + 1, q, none⟩) (World.block_lt_of_cell? wc _ (HTA.out q hq))).trans (HTA.out q hq)); clear ho2 hb2)))
      go_loop [24] (fun i => ∃ k : Nat, k ≤ r.length ∧ i = .int .i64 k ∧ Hid (allFrom (fun i => decide (r.count (r.getD i 0) = 2)) k (r.length - k) = R)) (fun i => r.length - (intOf i).toNat)
      case atStart => exact ⟨0, by omega, rfl, HR.out⟩
      case round =>
        obtain ⟨k, hk, rfl, HK⟩ := hrel
        clear HR
        by_cases hlt : k < r.length
        · have hK := HK.out
          rw [show r.length - k = (r.length - (k + 1)) + 1 by omega] at hK
          clear HK
          obtain ⟨q, hq, hx⟩ := HP.out k hlt
          obtain ⟨b1, o1, c1', e1, _, _, hcl⟩ := HO2.out.rd.at (by omega)
          simp only [Value.slice.injEq, true_and] at e1
          obtain ⟨rfl, rfl⟩ := e1
          have hck := hcl k hlt
          rw [hx] at hck
          have hc := HTB.out q hq
          cases hm : decide (r.count (r.getD k 0) = 2) with
          | true =>
            have HK := Lib.hid (allFrom_yes hK hm)
            rw [hx] at hm
            have hz : (((r.count (q : Int) : Nat) : Int) != 2) = false := by
              have h2 := of_decide_eq_true hm
              rw [h2]; rfl
            generalize r.count (q : Int) = z at *
            clear hcl hx hm hK
            go_wp2
            go_round
            case rel => exact ⟨k + 1, by omega, by go_num, HK⟩
            case measure => simp [intOf]; omega
          | false =>
            have HK := Lib.hid (allFrom_no hK hm)
            rw [hx] at hm
            have hz : (((r.count (q : Int) : Nat) : Int) != 2) = true := by
              have h2 := of_decide_eq_false hm
              have h3 : ¬ ((r.count (q : Int) : Nat) : Int) = 2 := by omega
              simpa using h3
            generalize r.count (q : Int) = z at *
            clear hcl hx hm hK
            go_wp2
            go_ret
            exact ⟨by rw [HK.out]; rfl, HB2.out⟩
        · obtain rfl : k = r.length := by omega
          have hK := HK.out
          rw [Nat.sub_self] at hK
          have HR : Hid (true = R) := hK
          clear hK HK
          go_wp2
          go_ret
          exact ⟨by rw [← HR.out]; rfl, HB2.out⟩

end Go.Proofs.Ytnkkgbecdckigac
