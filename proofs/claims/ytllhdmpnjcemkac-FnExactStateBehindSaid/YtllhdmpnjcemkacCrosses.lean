/- The program's isPaired and crosses. -/
/- The program's crosses. -/
import Derived.Test.YtllhdmpnjcemkacRound
import Derived.Test.YtllhdmpnjcemkacOwn
namespace Go.Proofs.Ytllhdmpnjcemkac
open Go.RowKit Go.Maps
set_option linter.unusedSimpArgs false
set_option linter.unusedVariables false

/-- how often each number is there, so far -/
def cntN (r : List Int) (k j : Nat) : Nat := (r.take k).count (j : Int)
def cntL (r : List Int) (k : Nat) : List Int := (List.range 12).map fun j => (cntN r k j : Int)
theorem cntL_len (r : List Int) (k : Nat) : (cntL r k).length = 12 := by simp [cntL]
theorem cntL_zero (r : List Int) : cntL r 0 = [0, 0, 0, 0, 0, 0, 0, 0, 0, 0, 0, 0] := by rfl
theorem cntL_get (r : List Int) (k q : Nat) (hq : q < 12) : (cntL r k).getD q 0 = (cntN r k q : Int) := by
  simp [cntL, List.getD, hq]
theorem cntN_le (r : List Int) (k j : Nat) : cntN r k j ≤ k := by
  unfold cntN
  have := List.count_le_length (a := (j : Int)) (l := r.take k)
  rw [List.length_take] at this
  omega
theorem cntL_succ (r : List Int) (k q : Nat) (hk : k < r.length) (hq : q < 12) (hx : r.getD k 0 = (q : Int)) : (cntL r k).set q ((cntN r k q : Int) + 1) = cntL r (k + 1) := by
  apply List.ext_getElem
  · simp [cntL]
  · intro i h1 h2
    have hi : i < 12 := by simpa [cntL] using h2
    rw [List.getElem_set]
    simp only [cntL, List.getElem_map, List.getElem_range]
    have hs : cntN r (k + 1) i = cntN r k i + if (q : Int) == (i : Int) then 1 else 0 := by
      unfold cntN
      rw [List.take_succ_eq_append_getElem hk, List.count_append, show r[k] = (q : Int) by rw [← hx]; simp [List.getD, hk], List.count_singleton]
    by_cases e : q = i
    · subst e
      rw [if_pos rfl, hs]; simp
    · rw [if_neg e, hs]
      have : ((q : Int) == (i : Int)) = false := by
        have : ¬ (q : Int) = (i : Int) := by omega
        simpa using this
      rw [this]; simp
theorem cntN_all (r : List Int) (j : Nat) : cntN r r.length j = r.count (j : Int) := by unfold cntN; rw [List.take_length]

def TimesIn (w : World) (b : Nat) (r : List Int) (k : Nat) : Prop := w.heap[b]? = some (.cells (ints (cntL r k)).toArray 65 (0, 0))
theorem TimesIn.below {w w' : World} {b k : Nat} {r : List Int} (h : TimesIn w b r k) (hb : Below w.heap.size w w') : TimesIn w' b r k := (hb.block b (Array.getElem?_eq_some_iff.1 h).1).trans h
theorem TimesIn.cell {w : World} {b k : Nat} {r : List Int} (h : TimesIn w b r k) (q : Nat) (hq : q < 12) : w.cell? ⟨b, q, none⟩ = some (.int .i64 (cntN r k q : Int)) := by
  rw [cell_of_row w b q _ _ _ h, List.getElem?_toArray, ← cntL_get r k q hq]
  simp [ints, List.getD, cntL_len, hq]
theorem TimesIn.free {w : World} {b k : Nat} {r : List Int} (h : TimesIn w b r k) (q : Nat) : w.frozen? ⟨b, q, none⟩ = false := frozen_of_row w b q _ _ h
theorem TimesIn.more {w : World} {b k q : Nat} {r : List Int} (h : TimesIn w b r k) (hk : k < r.length) (hq : q < 12) (hx : r.getD k 0 = (q : Int)) : TimesIn (w.setCell ⟨b, q, none⟩ (.int .i64 ((cntN r k q : Int) + 1))) b r (k + 1) := by
  have := row_put (k := q) h (.int .i64 ((cntN r k q : Int) + 1))
  unfold TimesIn
  rw [this, ← cntL_succ r k q hk hq hx]
  simp [ints]
theorem below_cell {B b : Nat} {w0 w : World} {v : Value} {q : Nat} (h : Below B w0 w) (hb : B ≤ b) : Below B w0 (w.setCell ⟨b, q, none⟩ v) := h.setCell (p := ⟨b, q, none⟩) hb v

theorem setCell_grown (w : World) (b o : Nat) (v : Value) : w.grownBy (w.setCell ⟨b, o, none⟩ v) (some b) :=
  ⟨rfl, rfl, rfl, by simp, fun k hk hne => RowKit.Below.heap_setCell _ _ _ _ (by intro e; exact hne (by rw [e]))⟩
def Part12 (r : List Int) : Prop := ∀ k, k < r.length → ∃ q : Nat, q < 12 ∧ r.getD k 0 = (q : Int)
set_option maxHeartbeats 4000000 in
set_option maxRecDepth 100000 in
theorem frPaired_any (u d : List Int) (c : Int) (w : World) (hu : u.length ≤ 6) (hd : d.length ≤ 6) (hp : Part12 (roundL u d)) :
    Calls Try.prog 88 #[.agg (frC u d c)] w fun e w' => e = .returned (.bool (twiceB (roundL u d))) ∧ Below w.heap.size w w' := by
  have HU := Lib.hid hu; have HD := Lib.hid hd
  have HRO := Lib.hid (fun w => round_any u d c w hu hd)
  have hrl : (roundL u d).length ≤ 12 := by unfold roundL; rw [List.length_append, List.length_reverse]; omega
  have h0 : FrIn ((w.alloc (.cells (frC u d c) 77)).alloc (.cells #[.int .i64 0, .int .i64 0, .int .i64 0, .int .i64 0, .int .i64 0, .int .i64 0, .int .i64 0, .int .i64 0, .int .i64 0, .int .i64 0, .int .i64 0, .int .i64 0] 65)) w.heap.size u d c := FrIn.below (heap_alloc_new w _) (Below.alloc1 _ _)
  have h1 : TimesIn ((w.alloc (.cells (frC u d c) 77)).alloc (.cells #[.int .i64 0, .int .i64 0, .int .i64 0, .int .i64 0, .int .i64 0, .int .i64 0, .int .i64 0, .int .i64 0, .int .i64 0, .int .i64 0, .int .i64 0, .int .i64 0] 65)) (w.heap.size + 1) (roundL u d) 0 := by
    have := heap_alloc_new (w.alloc (.cells (frC u d c) 77)) (.cells #[.int .i64 0, .int .i64 0, .int .i64 0, .int .i64 0, .int .i64 0, .int .i64 0, .int .i64 0, .int .i64 0, .int .i64 0, .int .i64 0, .int .i64 0, .int .i64 0] 65)
    rw [World.size_alloc] at this
    unfold TimesIn
    rw [cntL_zero]
    exact this
  have hb0 : Below w.heap.size w ((w.alloc (.cells (frC u d c) 77)).alloc (.cells #[.int .i64 0, .int .i64 0, .int .i64 0, .int .i64 0, .int .i64 0, .int .i64 0, .int .i64 0, .int .i64 0, .int .i64 0, .int .i64 0, .int .i64 0, .int .i64 0] 65)) := (Below.alloc1 w _).alloc (by simp) _
  unfold twiceB
  generalize roundL u d = r at *
  obtain ⟨R, hR⟩ : ∃ R, allFrom (fun i => decide (r.count (r.getD i 0) = 2)) 0 r.length = R := ⟨_, rfl⟩
  rw [hR]
  have HR := Lib.hid hR; clear hR
  have HF := Lib.hid h0; have HT := Lib.hid h1; have HB := Lib.hid hb0; have HP := Lib.hid hp
  clear hu hd h0 h1 hb0 hp
  go_enter Try.func88, Try.ntmps88
  go_wp2_with (first
    | (with_reducible refine wp_loadFr rfl (.tmp 1) rfl w.heap.size u d c HU.out HD.out rfl HF.out ?_)
    | (go_at_call 113; ((refine (HRO.out _).mono ?_); rintro e w1 ⟨v1, rfl, ho1, hb1⟩; obtain ⟨a1, c1, rfl, hx1, hx2⟩ := ho1.form; unfold maxLen at hx2; have HO1 := Lib.hid ho1; have HF1 := Lib.hid (HF.out.below hb1); have HT1 := Lib.hid (HT.out.below hb1); have HB1 := Lib.hid (Below.step HB.out hb1); have hs1 := hb1.size; simp only [World.size_alloc] at hs1; clear ho1 hb1)))
  go_loopw [11] (fun i wr => ∃ k : Nat, k ≤ r.length ∧ i = .int .i64 k ∧ Hid (TimesIn wr (w.heap.size + 1) r k) ∧ Hid (Own (w.heap.size + 1 + 1) wr (.slice a1 r.length c1) r) ∧ Hid (FrIn wr w.heap.size u d c) ∧ Hid (Below w.heap.size w wr)) (fun i _ => r.length - (intOf i).toNat)
  case atStart => exact ⟨0, by omega, rfl, HT1, Lib.hid (by simpa using HO1.out), HF1, HB1⟩
  case round =>
    clear HO1 HF1 HT1 HB1 HF HT HB
    obtain ⟨k, hk, rfl, HT, HO, HF, HB⟩ := hrel
    generalize wr = wc at *
    by_cases hlt : k < r.length
    · obtain ⟨q, hq, hx⟩ := HP.out k hlt
      obtain ⟨b1, o1, c1', e1, _, _, hcl⟩ := HO.out.rd.at (by omega)
      simp only [Value.slice.injEq, true_and] at e1
      obtain ⟨rfl, rfl⟩ := e1
      have hck := hcl k hlt
      rw [hx] at hck
      have hc := HT.out.cell q hq
      have hf := HT.out.free q
      have hle := cntN_le r k q
      have HM := Lib.hid (HT.out.more hlt hq hx)
      generalize cntN r k q = z at *
      have hw : IntKind.i64.wrap ((z : Int) + 1) = (z : Int) + 1 := IntWalk.i64_in _ (by omega)
      have HG := Lib.hid (setCell_grown wc (w.heap.size + 1) q (.int .i64 ((z : Int) + 1)))
      have HLT := Lib.hid HO.out.lt
      clear hcl hx
      go_wp2
      go_roundw
      case rel => exact ⟨k + 1, by omega, by go_num, HM, Lib.hid (HO.out.grown HG.out (fun j hj e => by simp at e; have := (HLT.out j hj).1; omega)), Lib.hid ((HG.out.block _ HF.out.lt (by simp)).trans HF.out), Lib.hid (below_cell HB.out (by omega))⟩
      case measure => simp [intOf]; omega
    · obtain rfl : k = r.length := by omega
      have HTA := Lib.hid (fun q (hq : q < 12) => show wc.cell? ⟨w.heap.size + 1, q, none⟩ = some (.int .i64 ((r.count (q : Int) : Nat) : Int)) from by rw [HT.out.cell q hq, cntN_all])
      have HT0 := Lib.hid HT.out
      clear HT HO hlt
      go_wp2_with (first
        | (with_reducible refine wp_loadFr rfl (.tmp 1) rfl w.heap.size u d c HU.out HD.out rfl HF.out ?_)
        | (go_at_call 113; ((refine (HRO.out _).mono ?_); rintro e w2 ⟨v2, rfl, ho2, hb2⟩; obtain ⟨a2, c2, rfl, hy1, hy2⟩ := ho2.form; unfold maxLen at hy2; have HO2 := Lib.hid ho2; have HB2 := Lib.hid (Below.step HB.out hb2); have HTB := Lib.hid (fun q hq => (hb2.cell (p := ⟨w.heap.size + 1, q, none⟩) (World.block_lt_of_cell? wc _ (HTA.out q hq))).trans (HTA.out q hq)); clear ho2 hb2)))
      go_loop [24] (fun i => ∃ k : Nat, k ≤ r.length ∧ i = .int .i64 k ∧ Hid (allFrom (fun i => decide (r.count (r.getD i 0) = 2)) k (r.length - k) = R)) (fun i => r.length - (intOf i).toNat)
      case atStart => exact ⟨0, by omega, rfl, HR.out⟩
      case round =>
        obtain ⟨k, hk, rfl, HK⟩ := hrel
        clear HR
        by_cases hlt : k < r.length
        · have hK := HK.out
          rw [show r.length - k = (r.length - (k + 1)) + 1 by omega] at hK
          clear HK
          obtain ⟨q, hq, hx⟩ := HP.out k hlt
          obtain ⟨b1, o1, c1', e1, _, _, hcl⟩ := HO2.out.rd.at (by omega)
          simp only [Value.slice.injEq, true_and] at e1
          obtain ⟨rfl, rfl⟩ := e1
          have hck := hcl k hlt
          rw [hx] at hck
          have hc := HTB.out q hq
          cases hm : decide (r.count (r.getD k 0) = 2) with
          | true =>
            have HK := Lib.hid (allFrom_yes hK hm)
            rw [hx] at hm
            have hz : (((r.count (q : Int) : Nat) : Int) != 2) = false := by
              have h2 := of_decide_eq_true hm
              rw [h2]; rfl
            generalize r.count (q : Int) = z at *
            clear hcl hx hm hK
            go_wp2
            go_round
            case rel => exact ⟨k + 1, by omega, by go_num, HK⟩
            case measure => simp [intOf]; omega
          | false =>
            have HK := Lib.hid (allFrom_no hK hm)
            rw [hx] at hm
            have hz : (((r.count (q : Int) : Nat) : Int) != 2) = true := by
              have h2 := of_decide_eq_false hm
              have h3 : ¬ ((r.count (q : Int) : Nat) : Int) = 2 := by omega
              simpa using h3
            generalize r.count (q : Int) = z at *
            clear hcl hx hm hK
            go_wp2
            go_ret
            exact ⟨by rw [HK.out]; rfl, HB2.out⟩
        · obtain rfl : k = r.length := by omega
          have hK := HK.out
          rw [Nat.sub_self] at hK
          have HR : Hid (true = R) := hK
          clear hK HK
          go_wp2
          go_ret
          exact ⟨by rw [← HR.out]; rfl, HB2.out⟩

end Go.Proofs.Ytllhdmpnjcemkac

namespace Go.Proofs.Ytllhdmpnjcemkac
open Go.RowKit Go.Maps
set_option linter.unusedSimpArgs false
set_option linter.unusedVariables false

theorem Own.cut {B g n c : Nat} {w : World} {l : List Int} (h : Own B w (.slice (some ⟨g, 0, none⟩) n c) l) (k : Nat) (hk : k ≤ n) : Own B w (.slice (some ⟨g, 0, none⟩) k c) (l.take k) := by
  rcases h.2 with ⟨h0, _⟩ | ⟨g', cap, cur, hv, hB, hg, hnc, hcm, hcs, ht⟩
  · cases h0
  · simp only [Value.slice.injEq, Option.some.injEq, Addr.mk.injEq, and_true, true_and] at hv
    obtain ⟨rfl, hn, rfl⟩ := hv
    have hl : (l.take k).length = k := by rw [List.length_take]; omega
    refine ⟨by rw [ints_length, hl]; omega, .inr ⟨g, c, cur, by rw [hl], hB, hg, by omega, hcm, hcs, ?_⟩⟩
    rw [hl, Nat.mul_one]
    rw [Nat.mul_one] at ht
    have e : cur.toList.take k = (cur.toList.take l.length).take k := by rw [List.take_take, Nat.min_eq_left (by omega)]
    rw [e, ht]
    unfold ints
    rw [List.map_take]
theorem canc_cons (O : List Int) (x : Int) (r : List Int) : canc O (x :: r) = if topIs O x then canc (dropTop O) r else canc (O ++ [x]) r := by rw [canc]
theorem drop_at {r : List Int} {k : Nat} (h : k < r.length) : r.drop k = r.getD k 0 :: r.drop (k + 1) := by
  rw [List.drop_eq_getElem_cons h]
  simp [List.getD, h]
set_option maxHeartbeats 4000000 in
set_option maxRecDepth 100000 in
theorem frCrosses_any (u d : List Int) (c : Int) (w : World) (hu : u.length ≤ 6) (hd : d.length ≤ 6) :
    Calls Try.prog 89 #[.agg (frC u d c)] w fun e w' => e = .returned (.bool (!decide ((canc [] (roundL u d)).length = 0))) ∧ Below w.heap.size w w' := by
  have HU := Lib.hid hu; have HD := Lib.hid hd
  have HRO := Lib.hid (fun w => round_any u d c w hu hd)
  have hrl : (roundL u d).length ≤ 12 := by unfold roundL; rw [List.length_append, List.length_reverse]; omega
  have HF := Lib.hid (show FrIn (w.alloc (.cells (frC u d c) 77)) w.heap.size u d c from heap_alloc_new w _)
  have HB := Lib.hid (show Below w.heap.size w (w.alloc (.cells (frC u d c) 77)) from Below.alloc1 w _)
  generalize roundL u d = r at *
  obtain ⟨F, hF⟩ : ∃ F, canc [] r = F := ⟨_, rfl⟩
  rw [hF]
  have HR : Hid (canc [] (r.drop 0) = F) := hF
  obtain ⟨bF, hbF⟩ : ∃ b, (!decide (F.length = 0)) = b := ⟨_, rfl⟩
  rw [hbF]
  have HBF := Lib.hid hbF
  clear hu hd hF hbF
  go_enter Try.func89, Try.ntmps89
  go_wp2_with (first
    | (with_reducible refine wp_loadFr rfl (.tmp 1) rfl w.heap.size u d c HU.out HD.out rfl HF.out ?_)
    | (go_at_call 113; ((refine (HRO.out _).mono ?_); rintro e w1 ⟨v1, rfl, ho1, hb1⟩; obtain ⟨a1, c1, rfl, hx1, hx2⟩ := ho1.form; unfold maxLen at hx2; have HO1 := Lib.hid ho1; have HB1 := Lib.hid (Below.step HB.out hb1); have hs1 := hb1.size; simp only [World.size_alloc] at hs1; clear ho1 hb1)))
  go_loopw [3, 10] (fun o i wr => ∃ (k : Nat) (O : List Int), k ≤ r.length ∧ i = .int .i64 k ∧ O.length ≤ k ∧ Hid (canc O (r.drop k) = F) ∧ Own w1.heap.size wr o O ∧ Below w1.heap.size w1 wr) (fun _ i _ => r.length - (intOf i).toNat)
  case atStart => exact ⟨0, [], by omega, rfl, Nat.le_refl _, HR, Own.nil _ _, Below.refl _ _⟩
  case round =>
    clear HR
    obtain ⟨k, O, hk, rfl, hok, HC, hown, hbel⟩ := hrel
    generalize wr = wc at *
    obtain ⟨a, cp, rfl, hm1, hm2⟩ := hown.form
    unfold maxLen at hm2
    by_cases hlt : k < r.length
    · obtain ⟨b1, o1, c1', e1, _, _, hcl⟩ := (HO1.out.rd.below hbel).at (by omega)
      simp only [Value.slice.injEq, true_and] at e1
      obtain ⟨rfl, rfl⟩ := e1
      have hck := hcl k hlt
      have hc := HC.out
      rw [drop_at hlt, canc_cons] at hc
      generalize r.getD k 0 = x at *
      have hsz := hbel.size
      have HO := Lib.hid hown; have HBE := Lib.hid hbel
      clear hcl HC hown hbel
      rcases snoc_cases O with rfl | ⟨p, y, rfl⟩
      · have HN : Hid (canc [x] (r.drop (k + 1)) = F) := by
          rw [show topIs [] x = false from rfl, if_neg (by simp)] at hc
          exact hc
        clear hc
        simp only [List.length_nil] at hm1 HO
        go_wp2_with (at_builtin; refine wp_append _ rfl (.tmp 30) (.tmp 32) rfl w1.heap.size _ _ [] [x] rfl rfl (HO.out.below (Below.alloc1 _ _)) (Own.lit1 _ wc x (Nat.le_refl _)).rd (by simp) (by simp; omega) ?_; intro v4 w4 ho4 hg4 hb4; have HO4 := Lib.hid ho4; have HB4 := Lib.hid ((HBE.out.alloc hsz _).trans hb4); clear ho4 hg4 hb4)
        go_roundw
        case rel => exact ⟨k + 1, [x], by omega, by go_num, by simp, HN, HO4.out, HB4.out⟩
        case measure => simp [intOf]; omega
      · rw [topIs_snoc, dropTop_snoc] at hc
        have hl : (p ++ [y]).length = p.length + 1 := by simp
        rw [hl] at hm1 HO hok
        rw [hl]
        have hg := HO.out.rd.at (by rw [hl]; omega)
        rw [hl] at hg
        obtain ⟨g, off, c2, e2, _, _, hcg⟩ := hg
        have hga : ∃ g, a = some ⟨g, 0, none⟩ := by
          rcases HO.out.shape with ⟨h0, _⟩ | ⟨g', c', h0, _⟩
          · cases h0
          · simp at h0; exact ⟨g', h0.1⟩
        obtain ⟨g', rfl⟩ := hga
        simp only [Value.slice.injEq, Option.some.injEq, Addr.mk.injEq, and_true, true_and] at e2
        obtain ⟨⟨rfl, rfl⟩, rfl⟩ := e2
        have hcy := hcg p.length (by omega)
        rw [Nat.zero_add, show (p ++ [y]).getD p.length 0 = y by simp [List.getD]] at hcy
        obtain ⟨n, hn⟩ : ∃ n, n = p.length := ⟨_, rfl⟩
        rw [← hn] at hcy hok hm1 HO
        rw [← hn]
        have HNN := Lib.hid hn
        have hn12 : n ≤ 12 := by omega
        clear hcg hl hn
        by_cases e : y = x
        · have HN : Hid (canc p (r.drop (k + 1)) = F) := by
            rw [if_pos (by simpa using e)] at hc; exact hc
          have hyx : (y == x) = true := by simpa using e
          have HP : Hid (Own w1.heap.size wc (.slice (some ⟨g', 0, none⟩) n cp) p) := by
            have := HO.out.cut n (by omega)
            rwa [List.take_left' HNN.out.symm] at this
          clear hc e
          go_wp2
          go_roundw
          case rel => exact ⟨k + 1, p, by omega, by go_num, by have := HNN.out; omega, HN, HP.out, HBE.out⟩
          case measure => simp [intOf]; omega
        · have HN : Hid (canc (p ++ [y] ++ [x]) (r.drop (k + 1)) = F) := by
            rw [if_neg (by simpa using e)] at hc; exact hc
          have hyx : (y == x) = false := by simpa using e
          clear hc e
          go_wp2_with (at_builtin; refine wp_append _ rfl (.tmp 30) (.tmp 32) rfl w1.heap.size _ _ (p ++ [y]) [x] rfl rfl (HO.out.below (Below.alloc1 _ _)) (Own.lit1 _ wc x (Nat.le_refl _)).rd (by have := HNN.out; simp; omega) (by simp; omega) ?_; intro v4 w4 ho4 hg4 hb4; have HO4 := Lib.hid ho4; have HB4 := Lib.hid ((HBE.out.alloc hsz _).trans hb4); clear ho4 hg4 hb4)
          go_roundw
          case rel => exact ⟨k + 1, p ++ [y] ++ [x], by omega, by go_num, by have := HNN.out; simp; omega, HN, HO4.out, HB4.out⟩
          case measure => simp [intOf]; omega
    · obtain rfl : k = r.length := by omega
      have hc := HC.out
      rw [List.drop_length] at hc
      have hF : O = F := hc
      subst hF
      have HBE := Lib.hid hbel
      clear HC hc hown hbel
      obtain ⟨n, hn⟩ : ∃ n, n = O.length := ⟨_, rfl⟩
      rw [← hn] at hm1 ⊢
      have HN := Lib.hid hn
      clear hn hok
      by_cases h : 0 < n
      · have HQ : Hid (bF = true) := by show bF = true; rw [← HBF.out, ← HN.out]; simp; omega
        go_wp2
        go_ret
        exact ⟨by rw [HQ.out]; rfl, Below.step HB1.out HBE.out⟩
      · have HQ : Hid (bF = false) := by show bF = false; rw [← HBF.out, ← HN.out]; simp; omega
        go_wp2
        go_ret
        exact ⟨by rw [HQ.out]; rfl, Below.step HB1.out HBE.out⟩

end Go.Proofs.Ytllhdmpnjcemkac
