/- The model's siShortest and siWhole; IsWhole, ShortestClosed, ClosedStretches of the model. -/
import Derived.Test.YtaeeopdiodaiaaaCutAll
namespace Go.Proofs.Ytaeeopdiodaiaaa
open Go.RowKit
set_option linter.unusedSimpArgs false
set_option linter.unusedVariables false

theorem shortOf_next (last : Bool) (L : List Str) (k : Nat) (hk : k < L.length) : shortOf last (L.take (k + 1)) = pickS last (shortOf last (L.take k)) (L.getD k (0, 0)) := by
  unfold shortOf
  rw [List.take_succ_eq_append_getElem hk, List.foldl_append]
  simp [List.getD, hk]
theorem pick_lt (last : Bool) {x0 x1 y0 y1 : Nat} (h : x1 - x0 < y1 - y0) : pickS last (some (y0, y1)) (x0, x1) = some (x0, x1) := by
  have h' : slen (x0, x1) < slen (y0, y1) := h
  simp [pickS, h']
theorem pick_eq (last : Bool) {x0 x1 y0 y1 : Nat} (h : x1 - x0 = y1 - y0) : pickS last (some (y0, y1)) (x0, x1) = if last then some (x0, x1) else some (y0, y1) := by
  have h' : slen (x0, x1) = slen (y0, y1) := h
  simp [pickS, h']
theorem pick_gt (last : Bool) {x0 x1 y0 y1 : Nat} (h : ¬ x1 - x0 < y1 - y0) (h2 : x1 - x0 ≠ y1 - y0) : pickS last (some (y0, y1)) (x0, x1) = some (y0, y1) := by
  have h' : ¬ slen (x0, x1) < slen (y0, y1) := h
  have h2' : ¬ slen (x0, x1) = slen (y0, y1) := h2
  simp [pickS, h', h2']
theorem cuts_mem {t b : List Int} {p : Str} (h : p ∈ cutsL t b) : p.1 < p.2 ∧ p.2 < t.length := by
  have := (mem_strAll t.length p).1 (List.mem_filter.1 h).1
  unfold proper at this; omega
theorem short_take_mem (last : Bool) (L : List Str) : ∀ k, k ≤ L.length → ∀ q, shortOf last (L.take k) = some q → q ∈ L
  | 0, _, q, h => by simp [shortOf] at h
  | k + 1, hk, q, h => by
    rw [shortOf_next last L k (by omega)] at h
    have hm : L.getD k (0, 0) ∈ L := by simp [List.getD, show k < L.length by omega]
    cases hs : shortOf last (L.take k) with
    | none =>
      rw [hs] at h
      simp only [pickS, Option.some.injEq] at h
      rw [← h]; exact hm
    | some r =>
      rw [hs] at h
      simp only [pickS] at h
      split at h
      · simp only [Option.some.injEq] at h; rw [← h]; exact hm
      · simp only [Option.some.injEq] at h; rw [← h]; exact short_take_mem last L k (by omega) r hs
theorem own2 {B : Nat} {w : World} {v : Value} {x y : Int} (h : Own B w v [x, y]) : ∃ g c, v = .slice (some ⟨g, 0, none⟩) 2 c ∧ w.cell? ⟨g, 0, none⟩ = some (.int .i64 x) ∧ w.cell? ⟨g, 1, none⟩ = some (.int .i64 y) := by
  rcases h.shape with ⟨rfl, he⟩ | ⟨g, c, rfl, -⟩
  · cases he
  · obtain ⟨a, c', e, -, -, -, hr⟩ := h.rd
    rcases hr with hr | ⟨b, o, rfl, hc⟩
    · cases hr
    · simp only [Value.slice.injEq, Option.some.injEq, Addr.mk.injEq] at e
      obtain ⟨⟨rfl, rfl, -⟩, -, -⟩ := e
      have c0 := hc 0 (by simp)
      have c1 := hc 1 (by simp)
      exact ⟨g, c, rfl, by simpa using c0, by simpa using c1⟩
def ShV (t b : List Int) (last : Bool) (w : World) (v : Value) : Prop := (v = .slice none 0 0 ∧ shortL last t b = none) ∨ ∃ q g c, v = .slice (some ⟨g, 0, none⟩) 2 c ∧ shortL last t b = some q ∧ w.cell? ⟨g, 0, none⟩ = some (.int .i64 (q.1 : Int)) ∧ w.cell? ⟨g, 1, none⟩ = some (.int .i64 (q.2 : Int))

/-- the best of those met so far -/
def BestV (L : List Str) (last : Bool) (k : Nat) (w : World) (v : Value) : Prop := (v = .slice none 0 0 ∧ shortOf last (L.take k) = none) ∨ ∃ q g c, v = .slice (some ⟨g, 0, none⟩) 2 c ∧ shortOf last (L.take k) = some q ∧ w.cell? ⟨g, 0, none⟩ = some (.int .i64 (q.1 : Int)) ∧ w.cell? ⟨g, 1, none⟩ = some (.int .i64 (q.2 : Int))
set_option maxHeartbeats 4000000 in
set_option maxRecDepth 100000 in
theorem siShortest_any (last : Bool) (t b : List Int) (hl : t.length = b.length) (h12 : t.length ≤ 12) (w : World) (u1 u2 : Value) (h1 : Rd w u1 t) (h2 : Rd w u2 b) :
    Calls Try.prog 60 #[.agg #[u1, u2], .bool last] w (fun e w' => ∃ v, e = .returned v ∧ ShV t b last w' v ∧ Below w.heap.size w w') := by
  have hA := Box2.new 28 w u1 u2
  have B1 : Below w.heap.size w (w.alloc (.cells #[u1, u2] 28)) := Below.alloc1 w _
  have k0 := hA.c0; have k1 := hA.c1
  have HAL := Lib.hid (siAll_any t b hl h12 _ u1 u2 (h1.below B1) (h2.below B1))
  have HB := Lib.hid B1
  have HME := Lib.hid (fun p (hp : p ∈ cutsL t b) => show p.1 < p.2 ∧ p.2 < 12 from by have := cuts_mem hp; omega)
  have hlen : (cutsL t b).length ≤ 144 := cutsL_len h12
  unfold ShV shortL
  generalize cutsL t b = L at *
  have HTM := Lib.hid (fun k hk q hq => short_take_mem last L k hk q hq)
  have HNX := Lib.hid (fun k hk => shortOf_next last L k hk)
  have hfull : BestV L last L.length = fun w v => (v = .slice none 0 0 ∧ shortOf last L = none) ∨ ∃ q g c, v = .slice (some ⟨g, 0, none⟩) 2 c ∧ shortOf last L = some q ∧ w.cell? ⟨g, 0, none⟩ = some (.int .i64 (q.1 : Int)) ∧ w.cell? ⟨g, 1, none⟩ = some (.int .i64 (q.2 : Int)) := by
    funext w v
    simp only [BestV, List.take_length]
  have HFU := Lib.hid (fun w v (h : BestV L last L.length w v) => by rw [hfull] at h; exact h)
  have HML : Hid ((L.map rowOf).length = L.length) := List.length_map _
  have HMG : Hid (∀ k, k < L.length → (L.map rowOf).getD k [] = [((L.getD k (0, 0)).1 : Int), ((L.getD k (0, 0)).2 : Int)]) := fun k hk => by simp [List.getD, hk, rowOf]
  have HMM : Hid (∀ k, k < L.length → L.getD k (0, 0) ∈ L) := fun k hk => by simp [List.getD, hk]
  clear hA B1 h1 h2 hfull hl h12
  go_enter Try.func60, Try.ntmps60
  go_wp2_with fail
  refine HAL.out.mono ?_
  rintro e w1 ⟨v, vs, rfl, hown, hb1⟩
  have HB1 := Lib.hid (Below.step HB.out hb1)
  obtain ⟨a1, c1, rfl, hc1, hm1⟩ := hown.form
  rw [HML.out] at hc1
  unfold maxLen at hm1
  have HO := Lib.hid hown
  clear hown hb1 k0 k1
  rw [HML.out]
  go_wp2_with fail
  go_loopw [5, 11] (fun o x wr => ∃ k : Nat, k ≤ L.length ∧ x = .int .i64 (k : Int) ∧ Hid (BestV L last k w1 o) ∧ Hid (Below w1.heap.size w1 wr)) (fun _ x _ => L.length - (intOf x).toNat)
  case atStart => exact ⟨0, by omega, rfl, .inl ⟨rfl, by simp [shortOf]⟩, Below.refl _ _⟩
  case round =>
    obtain ⟨k, hk, rfl, HBV, HBE⟩ := hrel
    generalize wr = wa at *
    by_cases hlt : k < L.length
    · have ho := OwnLL.below HO.out HBE.out
      have hk' : k < (L.map rowOf).length := by rw [HML.out]; exact hlt
      rw [HML.out] at ho
      obtain ⟨g, rfl, -, -, hcell, -⟩ := ho.at (by omega)
      have hrow := hcell k hk'
      have hor := ho.own k hk'
      have hor1 := HO.out.own k hk'
      rw [HMG.out k hlt] at hor hor1
      have hnx := HNX.out k hlt
      have hme := HME.out _ (HMM.out k hlt)
      generalize L.getD k (0, 0) = p at *
      obtain ⟨x0, x1⟩ := p
      simp only at hor hor1 hme
      obtain ⟨gp, cp, hv, e0, e1⟩ := own2 hor
      obtain ⟨gp', cp', hv', f0, f1⟩ := own2 hor1
      rw [hv] at hv'
      simp only [Value.slice.injEq, Option.some.injEq, Addr.mk.injEq, and_true, true_and] at hv'
      obtain ⟨rfl, rfl⟩ := hv'
      rw [hv] at hrow
      have HF0 := Lib.hid f0; have HF1 := Lib.hid f1
      clear hv hor hor1 f0 f1 ho hcell hk'
      rcases HBV.out with ⟨rfl, hs⟩ | ⟨q, gq, cq, rfl, hs, g0, g1⟩
      · rw [hs] at hnx
        have HN : Hid (BestV L last (k + 1) w1 (.slice (some ⟨gp, 0, none⟩) 2 cp)) := .inr ⟨(x0, x1), gp, cp, rfl, hnx, HF0.out, HF1.out⟩
        clear hs hnx
        go_wp2_with fail
        go_quiet (fail)
        go_wp2_with fail
        go_roundw
        case rel => exact ⟨k + 1, by omega, by go_num, HN.out, Below.drewN HBE.out _⟩
        case measure => simp [intOf]; omega
      · rw [hs] at hnx
        have hmq := HME.out q (HTM.out k hk q hs)
        obtain ⟨y0, y1⟩ := q
        simp only at g0 g1 hmq
        have c0 := (HBE.out.cell (p := ⟨gq, 0, none⟩) (World.block_lt_of_cell? w1 _ g0)).trans g0
        have c1' := (HBE.out.cell (p := ⟨gq, 1, none⟩) (World.block_lt_of_cell? w1 _ g1)).trans g1
        have HG0 := Lib.hid g0; have HG1 := Lib.hid g1
        clear g0 g1
        by_cases hd : x1 - x0 < y1 - y0
        · rw [pick_lt last hd] at hnx
          have HN : Hid (BestV L last (k + 1) w1 (.slice (some ⟨gp, 0, none⟩) 2 cp)) := .inr ⟨(x0, x1), gp, cp, rfl, hnx, HF0.out, HF1.out⟩
          have hi : (x1 : Int) - (x0 : Int) < (y1 : Int) - (y0 : Int) := by omega
          have hdi : decide ((x1 : Int) - (x0 : Int) < (y1 : Int) - (y0 : Int)) = true := decide_eq_true hi
          clear hs hnx
          go_wp2_with fail
          go_quiet (fail)
          go_wp2_with fail
          go_roundw
          case rel => exact ⟨k + 1, by omega, by go_num, HN.out, Below.drewN HBE.out _⟩
          case measure => simp [intOf]; omega
        · have hi : ¬ ((x1 : Int) - (x0 : Int) < (y1 : Int) - (y0 : Int)) := by omega
          have hdi : decide ((x1 : Int) - (x0 : Int) < (y1 : Int) - (y0 : Int)) = false := decide_eq_false hi
          by_cases he : x1 - x0 = y1 - y0
          · have hei : ((x1 : Int) - (x0 : Int) == (y1 : Int) - (y0 : Int)) = true := by simp; omega
            rw [pick_eq last he] at hnx
            cases last with
            | true =>
              rw [if_pos rfl] at hnx
              have HN : Hid (BestV L true (k + 1) w1 (.slice (some ⟨gp, 0, none⟩) 2 cp)) := .inr ⟨(x0, x1), gp, cp, rfl, hnx, HF0.out, HF1.out⟩
              clear hs hnx
              go_wp2_with fail
              go_quiet (fail)
              go_wp2_with fail
              go_roundw
              case rel => exact ⟨k + 1, by omega, by go_num, HN.out, Below.drewN HBE.out _⟩
              case measure => simp [intOf]; omega
            | false =>
              simp only [Bool.false_eq_true, if_false] at hnx
              have HN : Hid (BestV L false (k + 1) w1 (.slice (some ⟨gq, 0, none⟩) 2 cq)) := .inr ⟨(y0, y1), gq, cq, rfl, hnx, HG0.out, HG1.out⟩
              clear hs hnx hei
              go_wp2_with fail
              go_quiet (fail)
              go_wp2_with fail
              go_roundw
              case rel => exact ⟨k + 1, by omega, by go_num, HN.out, Below.drewN HBE.out _⟩
              case measure => simp [intOf]; omega
          · have hei : ((x1 : Int) - (x0 : Int) == (y1 : Int) - (y0 : Int)) = false := by simp; omega
            rw [pick_gt last hd he] at hnx
            have HN : Hid (BestV L last (k + 1) w1 (.slice (some ⟨gq, 0, none⟩) 2 cq)) := .inr ⟨(y0, y1), gq, cq, rfl, hnx, HG0.out, HG1.out⟩
            clear hs hnx
            cases last with
            | true =>
              go_wp2_with fail
              go_quiet (fail)
              go_wp2_with fail
              go_roundw
              case rel => exact ⟨k + 1, by omega, by go_num, HN.out, Below.drewN HBE.out _⟩
              case measure => simp [intOf]; omega
            | false =>
              clear hei
              go_wp2_with fail
              go_quiet (fail)
              go_wp2_with fail
              go_roundw
              case rel => exact ⟨k + 1, by omega, by go_num, HN.out, Below.drewN HBE.out _⟩
              case measure => simp [intOf]; omega
    · obtain rfl : k = L.length := by omega
      have hb := HFU.out _ _ HBV.out
      have hcl : ∀ (g i : Nat) (x : Value), w1.cell? ⟨g, i, none⟩ = some x → wa.cell? ⟨g, i, none⟩ = some x := fun g i x h => (HBE.out.cell (p := ⟨g, i, none⟩) (World.block_lt_of_cell? w1 _ h)).trans h
      rcases hb with ⟨rfl, hs⟩ | ⟨q, gq, cq, rfl, hs, g0, g1⟩
      · have HS := Lib.hid hs; clear hs hcl
        go_wp2_with fail
        go_ret
        exact ⟨_, rfl, .inl ⟨rfl, HS.out⟩, Below.step HB1.out HBE.out⟩
      · have HS := Lib.hid hs; have HG0 := Lib.hid (hcl _ _ _ g0); have HG1 := Lib.hid (hcl _ _ _ g1); clear hs hcl g0 g1
        go_wp2_with fail
        go_ret
        exact ⟨_, rfl, .inr ⟨q, gq, cq, rfl, HS.out, HG0.out, HG1.out⟩, Below.step HB1.out HBE.out⟩

end Go.Proofs.Ytaeeopdiodaiaaa
