/- The model's siAll, siShortest, siWhole. -/
/- The model's siShortest and siWhole; IsWhole, ShortestClosed, ClosedStretches of the model. -/
import Derived.Test.YtaeeopdiodaiaabCutSp
import Derived.Test.YtaeeopdiodaiaabCutSh
import Derived.Test.YtaeeopdiodaiaabLists
import Derived.BigRegion
import Derived.Deep.QuietTactic
import Derived.BigQuiet
import Derived.Deep.MidRow
namespace Go.Proofs.Ytaeeopdiodaiaab
open Go.RowKit
set_option linter.unusedSimpArgs false
set_option linter.unusedVariables false

/-- the rows met when i, i + 1 + k are next -/
def cutsUp (t b : List Int) (i k : Nat) : List (List Int) := ((strUp t.length i ++ strFrom t.length i k).filter fun p => closedL t b p.1 p.2).map rowOf
theorem cutsUp_zero (t b : List Int) : cutsUp t b 0 0 = [] := by simp [cutsUp, strUp, strFrom]
theorem cutsUp_full (t b : List Int) : cutsUp t b t.length 0 = (cutsL t b).map rowOf := by simp [cutsUp, strFrom, cutsL, strAll]
theorem cutsUp_row (t b : List Int) (i : Nat) : cutsUp t b i (t.length - i - 1) = cutsUp t b (i + 1) 0 := by simp [cutsUp, strFrom, strUp, strRow]
theorem cutsUp_next (t b : List Int) (i k : Nat) (hk : i + 1 + k < t.length) : cutsUp t b i (k + 1) = cutsUp t b i k ++ if decide (k + 2 < t.length) && closedL t b i (i + 1 + k) then [rowOf (i, i + 1 + k)] else [] := by
  unfold cutsUp
  rw [strFrom]
  by_cases h : k + 2 < t.length
  · rw [if_pos ⟨by omega, h⟩, ← List.append_assoc, List.filter_append, List.map_append]
    cases hc : closedL t b i (i + 1 + k) <;> simp [h, hc, List.filter_cons]
  · rw [if_neg (by omega)]
    simp [h]
theorem cutsUp_le (t b : List Int) (i k : Nat) (h12 : t.length ≤ 12) (hi : i ≤ t.length) (hk : k ≤ t.length) : (cutsUp t b i k).length ≤ 200 := by
  unfold cutsUp
  rw [List.length_map]
  refine Nat.le_trans (List.length_filter_le _ _) ?_
  rw [List.length_append]
  have h1 := strUp_len t.length i
  have h2 := strFrom_len t.length i k
  have h3 : i * t.length ≤ 12 * 12 := Nat.mul_le_mul (by omega) h12
  omega

theorem chain2 {w w1 w2 w3 : World} {A A' : Obj} {B : Nat} (h : Below B w w1) (h2 : Below w1.heap.size w1 w2) (hB : B ≤ w1.heap.size) (h3 : Below B ((w2.alloc A).alloc A') w3) : Below B w w3 :=
  (((h.trans (h2.mono hB)).alloc (Nat.le_trans hB h2.size) A).alloc (by have := h2.size; simp; omega) A').trans h3
theorem own_row2 (w : World) (x y : Int) (lo : Nat) (hlo : lo ≤ w.heap.size) : Own lo (w.alloc (.cells #[.int .i64 x, .int .i64 y] 3)) (.slice (some ⟨w.heap.size, 0, none⟩) 2 2) [x, y] :=
  World.ownsRow_lit w #[.int .i64 x, .int .i64 y] 2 hlo (by unfold maxLen; omega) rfl
set_option maxHeartbeats 4000000 in
set_option maxRecDepth 100000 in
theorem siAll_any (t b : List Int) (hl : t.length = b.length) (h12 : t.length ≤ 12) (w : World) (u1 u2 : Value) (h1 : Rd w u1 t) (h2 : Rd w u2 b) :
    Calls Try.prog 69 #[.agg #[u1, u2]] w (MadeLL w ((cutsL t b).map rowOf)) := by
  have hA := Box2.new 33 w u1 u2
  have B1 : Below w.heap.size w (w.alloc (.cells #[u1, u2] 33)) := Below.alloc1 w _
  have HC := Lib.hid (fun (i j : Nat) (hij : i < j) (hj : j < t.length) (w : World) h1 h2 => siClosed_any t b i j hij hj hl h12 w u1 u2 h1 h2)
  have H1 := Lib.hid (h1.below B1); have H2 := Lib.hid (h2.below B1)
  have HNX := Lib.hid (fun i k hk => cutsUp_next t b i k hk); have HRW := Lib.hid (fun i => cutsUp_row t b i); have HLE := Lib.hid (fun i k hi hk => cutsUp_le t b i k h12 hi hk); have HZ := Lib.hid (cutsUp_zero t b)
  rw [← cutsUp_full]
  obtain ⟨a1, c1, rfl, hc1, hm1, _⟩ := h1
  unfold maxLen at hm1
  clear h2 hl
  generalize hn : t.length = n at *
  have HN := Lib.hid hn; clear hn
  have HA := Lib.hid hA; have HB := Lib.hid B1
  have k0 := hA.c0; have k1 := hA.c1
  clear hA B1
  go_enter Try.func69, Try.ntmps69
  go_wp2
  generalize w.alloc (.cells #[.slice a1 n c1, u2] 33) = W1 at *
  go_loopw [4, 5] (fun o x wr => ∃ (i : Nat) (vs : List Value), i ≤ n ∧ x = .int .i64 (i : Int) ∧ OwnLL W1.heap.size wr.heap.size wr o vs (cutsUp t b i 0) ∧ Hid (Below W1.heap.size W1 wr)) (fun _ x _ => n - (intOf x).toNat)
  case atStart => exact ⟨0, [], by omega, rfl, by rw [HZ.out]; exact OwnLL.nil _ _ (Nat.le_refl _), Below.refl _ _⟩
  case round =>
    obtain ⟨i, vs, hi, rfl, hown, HBE⟩ := hrel
    clear HZ
    generalize wr = wa at *
    by_cases hlt : i < n
    · have HOW := Lib.hid hown; clear hown
      go_wp2
      go_loopw [4, 6] (fun o y wr => ∃ (k : Nat) (vs : List Value), i + 1 + k ≤ n ∧ y = .int .i64 ((i + 1 + k : Nat) : Int) ∧ OwnLL W1.heap.size wr.heap.size wr o vs (cutsUp t b i k) ∧ Hid (Below W1.heap.size W1 wr)) (fun _ y _ => n - (intOf y).toNat)
      case atStart => exact ⟨0, vs, by omega, by simp, HOW.out, HBE⟩
      case round =>
        obtain ⟨k, vs, hk, rfl, hown, HBF⟩ := hrel
        clear HOW
        generalize wr = wb at *
        by_cases hkl : i + 1 + k < n
        · have hnx := HNX.out i k hkl
          have hle := HLE.out i k (by omega) (by omega)
          have HCI := Lib.hid (HC.out i (i + 1 + k) (by omega) hkl wb (H1.out.below HBF.out) (H2.out.below HBF.out))
          generalize cutsUp t b i k = S at *
          have hro : rowOf (i, i + 1 + k) = [(i : Int), ((i + 1 + k : Nat) : Int)] := rfl
          rw [hro] at hnx
          obtain ⟨j, hj⟩ : ∃ j, i + 1 + k = j := ⟨_, rfl⟩
          have hk2 : k + 2 = j - i + 1 := by omega
          have hij : i < j := by omega
          rw [hj] at hkl hnx HCI ⊢
          rw [hk2] at hnx
          have hjk : j - i - 1 = k := by omega
          have HJ := Lib.hid hj
          clear hj hk2 hro
          have k0 := (HA.out.below HBF.out).c0; have k1 := (HA.out.below HBF.out).c1
          have HOW := Lib.hid hown; have HNX1 := Lib.hid hnx; have HL := Lib.hid hle
          have hsz := HBF.out.size
          clear hown hnx hle hjk
          by_cases hp : j - i + 1 < n
          · have hp2 : (j : Int) - (i : Int) + 1 < (n : Int) := by omega
            have hd : decide ((j : Int) - (i : Int) + 1 < (n : Int)) = true := decide_eq_true hp2
            have HP := Lib.hid (decide_eq_true hp)
            cases hcl : closedL t b i j with
            | true =>
              rw [hcl] at HCI
              have hsn : cutsUp t b i (k + 1) = S ++ [[(i : Int), (j : Int)]] := by rw [HNX1.out, HP.out, hcl]; rfl
              have HSN := Lib.hid hsn; clear hsn hcl
              go_wp2_with (first
                | (go_at_call 97; ((with_reducible refine HCI.out.mono ?_); rintro e w5 ⟨rfl, hb5⟩; have HO5 := Lib.hid (OwnLL.below HOW.out hb5); have HB5 := Lib.hid hb5; have hs5 := hb5.size; clear hb5))
                | (at_builtin; refine wp_appendLL _ rfl (.tmp 34) (.tmp 38) rfl W1.heap.size wb.heap.size w5.heap.size (w5.heap.size + 1) _ (.slice (some ⟨w5.heap.size, 0, none⟩) 2 2) _ S [(i : Int), (j : Int)] rfl rfl (by have := cell_lit1 (w5.alloc (.cells #[.int .i64 (i : Int), .int .i64 (j : Int)] 3)) (.slice (some ⟨w5.heap.size, 0, none⟩) 2 2) 28; rw [World.size_alloc] at this; exact this) (OwnLL.below HO5.out (Below.step (Below.alloc1 w5 (.cells #[.int .i64 (i : Int), .int .i64 (j : Int)] 3)) (Below.alloc1 _ _))) (Own.below (own_row2 w5 (i : Int) (j : Int) w5.heap.size (Nat.le_refl _)) (Below.alloc1 _ _)) hs5 (by omega) (by have := HL.out; omega) (by simp; omega) ?_; intro v' w7 hown7 hgr7 hbel7 _; have HO7 := Lib.hid hown7; have HB7 := Lib.hid (chain2 HBF.out HB5.out hsz hbel7); clear hown7 hgr7 hbel7))
              go_roundw
              case rel => exact ⟨k + 1, _, by have := HJ.out; omega, by have := HJ.out; go_num, by rw [HSN.out]; exact HO7.out, HB7.out⟩
              case measure => simp [intOf]; omega
            | false =>
              rw [hcl] at HCI
              have hsn : cutsUp t b i (k + 1) = S := by rw [HNX1.out, HP.out, hcl]; simp
              have HSN := Lib.hid hsn; clear hsn hcl
              go_wp2_with (go_at_call 97; ((with_reducible refine HCI.out.mono ?_); rintro e w5 ⟨rfl, hb5⟩; have HO5 := Lib.hid (OwnLL.mono (OwnLL.below HOW.out hb5) (Nat.le_refl _) hb5.size (Nat.le_refl _)); have HB5 := Lib.hid (Below.step HBF.out hb5); clear hb5))
              go_roundw
              case rel => exact ⟨k + 1, _, by have := HJ.out; omega, by have := HJ.out; go_num, by rw [HSN.out]; exact HO5.out, HB5.out⟩
              case measure => simp [intOf]; omega
          · have hp2 : ¬ ((j : Int) - (i : Int) + 1 < (n : Int)) := by omega
            have hd : decide ((j : Int) - (i : Int) + 1 < (n : Int)) = false := decide_eq_false hp2
            have hsn : cutsUp t b i (k + 1) = S := by rw [HNX1.out, decide_eq_false hp]; simp
            have HSN := Lib.hid hsn; clear hsn
            go_wp2
            go_roundw
            case rel => exact ⟨k + 1, _, by have := HJ.out; omega, by have := HJ.out; go_num, by rw [HSN.out]; exact HOW.out, HBF.out⟩
            case measure => simp [intOf]; omega
        · have hkk : k = n - i - 1 := by omega
          have hrw := HRW.out i
          rw [← hkk] at hrw
          rw [hrw] at hown
          have hjn : i + 1 + k = n := by omega
          rw [hjn]
          have HOW := Lib.hid hown
          clear hown hkk hrw hjn
          go_wp2
          go_roundw
          case rel => exact ⟨i + 1, _, by omega, by go_num, HOW.out, HBF.out⟩
          case measure => simp [intOf]; omega
    · obtain rfl : i = n := by omega
      obtain ⟨a5, c5, rfl, _⟩ := hown.form
      have HOW := Lib.hid hown; clear hown
      go_wp2
      go_ret
      exact ⟨_, _, rfl, OwnLL.mono HOW.out HB.out.size (Nat.le_refl _) (Nat.le_refl _), HB.out.trans (HBE.out.mono HB.out.size)⟩

end Go.Proofs.Ytaeeopdiodaiaab

namespace Go.Proofs.Ytaeeopdiodaiaab
open Go.RowKit
set_option linter.unusedSimpArgs false
set_option linter.unusedVariables false

theorem shortOf_next (last : Bool) (L : List Str) (k : Nat) (hk : k < L.length) : shortOf last (L.take (k + 1)) = pickS last (shortOf last (L.take k)) (L.getD k (0, 0)) := by
  unfold shortOf
  rw [List.take_succ_eq_append_getElem hk, List.foldl_append]
  simp [List.getD, hk]
theorem pick_lt (last : Bool) {x0 x1 y0 y1 : Nat} (h : x1 - x0 < y1 - y0) : pickS last (some (y0, y1)) (x0, x1) = some (x0, x1) := by
  have h' : slen (x0, x1) < slen (y0, y1) := h
  simp [pickS, h']
theorem pick_eq (last : Bool) {x0 x1 y0 y1 : Nat} (h : x1 - x0 = y1 - y0) : pickS last (some (y0, y1)) (x0, x1) = if last then some (x0, x1) else some (y0, y1) := by
  have h' : slen (x0, x1) = slen (y0, y1) := h
  simp [pickS, h']
theorem pick_gt (last : Bool) {x0 x1 y0 y1 : Nat} (h : ¬ x1 - x0 < y1 - y0) (h2 : x1 - x0 ≠ y1 - y0) : pickS last (some (y0, y1)) (x0, x1) = some (y0, y1) := by
  have h' : ¬ slen (x0, x1) < slen (y0, y1) := h
  have h2' : ¬ slen (x0, x1) = slen (y0, y1) := h2
  simp [pickS, h', h2']
theorem cuts_mem {t b : List Int} {p : Str} (h : p ∈ cutsL t b) : p.1 < p.2 ∧ p.2 < t.length := by
  have := (mem_strAll t.length p).1 (List.mem_filter.1 h).1
  unfold proper at this; omega
theorem short_take_mem (last : Bool) (L : List Str) : ∀ k, k ≤ L.length → ∀ q, shortOf last (L.take k) = some q → q ∈ L
  | 0, _, q, h => by simp [shortOf] at h
  | k + 1, hk, q, h => by
    rw [shortOf_next last L k (by omega)] at h
    have hm : L.getD k (0, 0) ∈ L := by simp [List.getD, show k < L.length by omega]
    cases hs : shortOf last (L.take k) with
    | none =>
      rw [hs] at h
      simp only [pickS, Option.some.injEq] at h
      rw [← h]; exact hm
    | some r =>
      rw [hs] at h
      simp only [pickS] at h
      split at h
      · simp only [Option.some.injEq] at h; rw [← h]; exact hm
      · simp only [Option.some.injEq] at h; rw [← h]; exact short_take_mem last L k (by omega) r hs
theorem own2 {B : Nat} {w : World} {v : Value} {x y : Int} (h : Own B w v [x, y]) : ∃ g c, v = .slice (some ⟨g, 0, none⟩) 2 c ∧ w.cell? ⟨g, 0, none⟩ = some (.int .i64 x) ∧ w.cell? ⟨g, 1, none⟩ = some (.int .i64 y) := by
  rcases h.shape with ⟨rfl, he⟩ | ⟨g, c, rfl, -⟩
  · cases he
  · obtain ⟨a, c', e, -, -, -, hr⟩ := h.rd
    rcases hr with hr | ⟨b, o, rfl, hc⟩
    · cases hr
    · simp only [Value.slice.injEq, Option.some.injEq, Addr.mk.injEq] at e
      obtain ⟨⟨rfl, rfl, -⟩, -, -⟩ := e
      have c0 := hc 0 (by simp)
      have c1 := hc 1 (by simp)
      exact ⟨g, c, rfl, by simpa using c0, by simpa using c1⟩
def ShV (t b : List Int) (last : Bool) (w : World) (v : Value) : Prop := (v = .slice none 0 0 ∧ shortL last t b = none) ∨ ∃ q g c, v = .slice (some ⟨g, 0, none⟩) 2 c ∧ shortL last t b = some q ∧ w.cell? ⟨g, 0, none⟩ = some (.int .i64 (q.1 : Int)) ∧ w.cell? ⟨g, 1, none⟩ = some (.int .i64 (q.2 : Int))

/-- the best of those met so far -/
def BestV (L : List Str) (last : Bool) (k : Nat) (w : World) (v : Value) : Prop := (v = .slice none 0 0 ∧ shortOf last (L.take k) = none) ∨ ∃ q g c, v = .slice (some ⟨g, 0, none⟩) 2 c ∧ shortOf last (L.take k) = some q ∧ w.cell? ⟨g, 0, none⟩ = some (.int .i64 (q.1 : Int)) ∧ w.cell? ⟨g, 1, none⟩ = some (.int .i64 (q.2 : Int))
set_option maxHeartbeats 4000000 in
set_option maxRecDepth 100000 in
theorem siShortest_any (last : Bool) (t b : List Int) (hl : t.length = b.length) (h12 : t.length ≤ 12) (w : World) (u1 u2 : Value) (h1 : Rd w u1 t) (h2 : Rd w u2 b) :
    Calls Try.prog 73 #[.agg #[u1, u2], .bool last] w (fun e w' => ∃ v, e = .returned v ∧ ShV t b last w' v ∧ Below w.heap.size w w') := by
  have hA := Box2.new 33 w u1 u2
  have B1 : Below w.heap.size w (w.alloc (.cells #[u1, u2] 33)) := Below.alloc1 w _
  have k0 := hA.c0; have k1 := hA.c1
  have HAL := Lib.hid (siAll_any t b hl h12 _ u1 u2 (h1.below B1) (h2.below B1))
  have HB := Lib.hid B1
  have HME := Lib.hid (fun p (hp : p ∈ cutsL t b) => show p.1 < p.2 ∧ p.2 < 12 from by have := cuts_mem hp; omega)
  have hlen : (cutsL t b).length ≤ 144 := cutsL_len h12
  unfold ShV shortL
  generalize cutsL t b = L at *
  have HTM := Lib.hid (fun k hk q hq => short_take_mem last L k hk q hq)
  have HNX := Lib.hid (fun k hk => shortOf_next last L k hk)
  have hfull : BestV L last L.length = fun w v => (v = .slice none 0 0 ∧ shortOf last L = none) ∨ ∃ q g c, v = .slice (some ⟨g, 0, none⟩) 2 c ∧ shortOf last L = some q ∧ w.cell? ⟨g, 0, none⟩ = some (.int .i64 (q.1 : Int)) ∧ w.cell? ⟨g, 1, none⟩ = some (.int .i64 (q.2 : Int)) := by
    funext w v
    simp only [BestV, List.take_length]
  have HFU := Lib.hid (fun w v (h : BestV L last L.length w v) => by rw [hfull] at h; exact h)
  have HML : Hid ((L.map rowOf).length = L.length) := List.length_map _
  have HMG : Hid (∀ k, k < L.length → (L.map rowOf).getD k [] = [((L.getD k (0, 0)).1 : Int), ((L.getD k (0, 0)).2 : Int)]) := fun k hk => by simp [List.getD, hk, rowOf]
  have HMM : Hid (∀ k, k < L.length → L.getD k (0, 0) ∈ L) := fun k hk => by simp [List.getD, hk]
  clear hA B1 h1 h2 hfull hl h12
  go_enter Try.func73, Try.ntmps73
  go_wp2_with fail
  refine HAL.out.mono ?_
  rintro e w1 ⟨v, vs, rfl, hown, hb1⟩
  have HB1 := Lib.hid (Below.step HB.out hb1)
  obtain ⟨a1, c1, rfl, hc1, hm1⟩ := hown.form
  rw [HML.out] at hc1
  unfold maxLen at hm1
  have HO := Lib.hid hown
  clear hown hb1 k0 k1
  rw [HML.out]
  go_wp2_with fail
  go_loopw [5, 11] (fun o x wr => ∃ k : Nat, k ≤ L.length ∧ x = .int .i64 (k : Int) ∧ Hid (BestV L last k w1 o) ∧ Hid (Below w1.heap.size w1 wr)) (fun _ x _ => L.length - (intOf x).toNat)
  case atStart => exact ⟨0, by omega, rfl, .inl ⟨rfl, by simp [shortOf]⟩, Below.refl _ _⟩
  case round =>
    obtain ⟨k, hk, rfl, HBV, HBE⟩ := hrel
    generalize wr = wa at *
    by_cases hlt : k < L.length
    · have ho := OwnLL.below HO.out HBE.out
      have hk' : k < (L.map rowOf).length := by rw [HML.out]; exact hlt
      rw [HML.out] at ho
      obtain ⟨g, rfl, -, -, hcell, -⟩ := ho.at (by omega)
      have hrow := hcell k hk'
      have hor := ho.own k hk'
      have hor1 := HO.out.own k hk'
      rw [HMG.out k hlt] at hor hor1
      have hnx := HNX.out k hlt
      have hme := HME.out _ (HMM.out k hlt)
      generalize L.getD k (0, 0) = p at *
      obtain ⟨x0, x1⟩ := p
      simp only at hor hor1 hme
      obtain ⟨gp, cp, hv, e0, e1⟩ := own2 hor
      obtain ⟨gp', cp', hv', f0, f1⟩ := own2 hor1
      rw [hv] at hv'
      simp only [Value.slice.injEq, Option.some.injEq, Addr.mk.injEq, and_true, true_and] at hv'
      obtain ⟨rfl, rfl⟩ := hv'
      rw [hv] at hrow
      have HF0 := Lib.hid f0; have HF1 := Lib.hid f1
      clear hv hor hor1 f0 f1 ho hcell hk'
      rcases HBV.out with ⟨rfl, hs⟩ | ⟨q, gq, cq, rfl, hs, g0, g1⟩
      · rw [hs] at hnx
        have HN : Hid (BestV L last (k + 1) w1 (.slice (some ⟨gp, 0, none⟩) 2 cp)) := .inr ⟨(x0, x1), gp, cp, rfl, hnx, HF0.out, HF1.out⟩
        clear hs hnx
        go_wp2_with fail
        go_quiet (fail)
        go_wp2_with fail
        go_roundw
        case rel => exact ⟨k + 1, by omega, by go_num, HN.out, Below.drewN HBE.out _⟩
        case measure => simp [intOf]; omega
      · rw [hs] at hnx
        have hmq := HME.out q (HTM.out k hk q hs)
        obtain ⟨y0, y1⟩ := q
        simp only at g0 g1 hmq
        have c0 := (HBE.out.cell (p := ⟨gq, 0, none⟩) (World.block_lt_of_cell? w1 _ g0)).trans g0
        have c1' := (HBE.out.cell (p := ⟨gq, 1, none⟩) (World.block_lt_of_cell? w1 _ g1)).trans g1
        have HG0 := Lib.hid g0; have HG1 := Lib.hid g1
        clear g0 g1
        by_cases hd : x1 - x0 < y1 - y0
        · rw [pick_lt last hd] at hnx
          have HN : Hid (BestV L last (k + 1) w1 (.slice (some ⟨gp, 0, none⟩) 2 cp)) := .inr ⟨(x0, x1), gp, cp, rfl, hnx, HF0.out, HF1.out⟩
          have hi : (x1 : Int) - (x0 : Int) < (y1 : Int) - (y0 : Int) := by omega
          have hdi : decide ((x1 : Int) - (x0 : Int) < (y1 : Int) - (y0 : Int)) = true := decide_eq_true hi
          clear hs hnx
          go_wp2_with fail
          go_quiet (fail)
          go_wp2_with fail
          go_roundw
          case rel => exact ⟨k + 1, by omega, by go_num, HN.out, Below.drewN HBE.out _⟩
          case measure => simp [intOf]; omega
        · have hi : ¬ ((x1 : Int) - (x0 : Int) < (y1 : Int) - (y0 : Int)) := by omega
          have hdi : decide ((x1 : Int) - (x0 : Int) < (y1 : Int) - (y0 : Int)) = false := decide_eq_false hi
          by_cases he : x1 - x0 = y1 - y0
          · have hei : ((x1 : Int) - (x0 : Int) == (y1 : Int) - (y0 : Int)) = true := by simp; omega
            rw [pick_eq last he] at hnx
            cases last with
            | true =>
              rw [if_pos rfl] at hnx
              have HN : Hid (BestV L true (k + 1) w1 (.slice (some ⟨gp, 0, none⟩) 2 cp)) := .inr ⟨(x0, x1), gp, cp, rfl, hnx, HF0.out, HF1.out⟩
              clear hs hnx
              go_wp2_with fail
              go_quiet (fail)
              go_wp2_with fail
              go_roundw
              case rel => exact ⟨k + 1, by omega, by go_num, HN.out, Below.drewN HBE.out _⟩
              case measure => simp [intOf]; omega
            | false =>
              simp only [Bool.false_eq_true, if_false] at hnx
              have HN : Hid (BestV L false (k + 1) w1 (.slice (some ⟨gq, 0, none⟩) 2 cq)) := .inr ⟨(y0, y1), gq, cq, rfl, hnx, HG0.out, HG1.out⟩
              clear hs hnx hei
              go_wp2_with fail
              go_quiet (fail)
              go_wp2_with fail
              go_roundw
              case rel => exact ⟨k + 1, by omega, by go_num, HN.out, Below.drewN HBE.out _⟩
              case measure => simp [intOf]; omega
          · have hei : ((x1 : Int) - (x0 : Int) == (y1 : Int) - (y0 : Int)) = false := by simp; omega
            rw [pick_gt last hd he] at hnx
            have HN : Hid (BestV L last (k + 1) w1 (.slice (some ⟨gq, 0, none⟩) 2 cq)) := .inr ⟨(y0, y1), gq, cq, rfl, hnx, HG0.out, HG1.out⟩
            clear hs hnx
            cases last with
            | true =>
              go_wp2_with fail
              go_quiet (fail)
              go_wp2_with fail
              go_roundw
              case rel => exact ⟨k + 1, by omega, by go_num, HN.out, Below.drewN HBE.out _⟩
              case measure => simp [intOf]; omega
            | false =>
              clear hei
              go_wp2_with fail
              go_quiet (fail)
              go_wp2_with fail
              go_roundw
              case rel => exact ⟨k + 1, by omega, by go_num, HN.out, Below.drewN HBE.out _⟩
              case measure => simp [intOf]; omega
    · obtain rfl : k = L.length := by omega
      have hb := HFU.out _ _ HBV.out
      have hcl : ∀ (g i : Nat) (x : Value), w1.cell? ⟨g, i, none⟩ = some x → wa.cell? ⟨g, i, none⟩ = some x := fun g i x h => (HBE.out.cell (p := ⟨g, i, none⟩) (World.block_lt_of_cell? w1 _ h)).trans h
      rcases hb with ⟨rfl, hs⟩ | ⟨q, gq, cq, rfl, hs, g0, g1⟩
      · have HS := Lib.hid hs; clear hs hcl
        go_wp2_with fail
        go_ret
        exact ⟨_, rfl, .inl ⟨rfl, HS.out⟩, Below.step HB1.out HBE.out⟩
      · have HS := Lib.hid hs; have HG0 := Lib.hid (hcl _ _ _ g0); have HG1 := Lib.hid (hcl _ _ _ g1); clear hs hcl g0 g1
        go_wp2_with fail
        go_ret
        exact ⟨_, rfl, .inr ⟨q, gq, cq, rfl, HS.out, HG0.out, HG1.out⟩, Below.step HB1.out HBE.out⟩

end Go.Proofs.Ytaeeopdiodaiaab
