/- CountByWinding: the program. -/
import Derived.Test.YtllhdmpnjcemkabWeedCnt
namespace Go.Proofs.Ytllhdmpnjcemkab
open Go.RowKit
set_option linter.unusedSimpArgs false
set_option linter.unusedVariables false

theorem rd_cnt {w : World} {g : Nat} {v : Value} {l : List Int} (x y : Value) (hn : NotIn g v l) (hr : Rd w v l) : Rd ((w.setCell ⟨g, 0, none⟩ x).setCell ⟨g, 1, none⟩ y) v l := by
  obtain ⟨a, c, rfl, h1, h2, h3, h4⟩ := hr
  refine ⟨a, c, rfl, h1, h2, h3, ?_⟩
  by_cases hl : l = []
  · exact .inl hl
  rcases h4 with h4 | ⟨b, off, rfl, h4⟩
  · exact .inl h4
  · refine .inr ⟨b, off, rfl, fun k hk => ?_⟩
    have h5 := h4 k hk
    have hbg : b ≠ g := hn hl b rfl
    exact (World.cell?_of_block (a := ⟨b, off + k, none⟩) ((grown_trans (b := some g) (grown_setCell (w := w) (b := g) (i := 0) (v := x)) (grown_setCell (b := g) (i := 1) (v := y))).block b (World.block_lt_of_cell? w _ h5) (by simpa using hbg))).trans h5
theorem vis_done2 {w W : World} {c : Nat} {x y : Value} (x' y' : Value) (hB : Below w.heap.size w W) (hC : W.heap[c]? = some (.cells #[x, y] 55 (0, 0))) :
    ((W.setCell ⟨c, 0, none⟩ x').setCell ⟨c, 1, none⟩ y').heap[c]? = some (.cells #[x', y'] 55 (0, 0)) ∧ Keeps c w ((W.setCell ⟨c, 0, none⟩ x').setCell ⟨c, 1, none⟩ y') := by
  have hb : Box2 55 W c x y := hC
  exact ⟨(hb.set0 x').set1 y', ⟨grown_trans (Keeps.of_below hB).1 (grown_trans grown_setCell grown_setCell), fun v l hn hr => rd_cnt _ _ hn (hr.below hB)⟩⟩
set_option maxHeartbeats 2000000 in
theorem visC_any (T B : List Int) (c : Nat) (p q : Int) (a1 a2 : Option Addr) (n1 n2 c1 c2 : Nat) (w : World) (hc : w.heap[c]? = some (.cells #[.int .i64 p, .int .i64 q] 55 (0, 0))) (hx1 : 1 ≤ hdI T) (hx2 : hdI T ≤ 20) (hp : 0 ≤ p ∧ p ≤ 1000) (hq : 0 ≤ q ∧ q ≤ 1000) :
    Calls Try.prog 37 #[stepV T B, .agg #[.slice a1 n1 c1, .slice a2 n2 c2], .pointer (some ⟨c, 0, none⟩)] w fun e w' => e = .returned (.tuple #[]) ∧ w'.heap[c]? = some (.cells #[.int .i64 (p + tkP (stepC T B)), .int .i64 (q + tkQ (stepC T B))] 55 (0, 0)) ∧ Keeps c w w' := by
  have hl := fun W => takenBy_any T B W hx1 hx2
  have hz := tk_bound (T := T) (B := B) hx1 hx2
  have hB := Below.alloc1 w (.cells #[.slice a1 n1 c1, .slice a2 n2 c2] 51)
  have hlt := (Array.getElem?_eq_some_iff.1 hc).1
  have hb0 : Box2 55 (w.alloc (.cells #[.slice a1 n1 c1, .slice a2 n2 c2] 51)) c (.int .i64 p) (.int .i64 q) := (hB.block c hlt).trans hc
  have k0 := hb0.c0; have k1 := hb0.c1
  have HB := Lib.hid hB; have HL := Lib.hid hl; have HC := Lib.hid hb0
  generalize stepV T B = V at *
  generalize tkP (stepC T B) = r at *
  generalize tkQ (stepC T B) = s at *
  have HPL := Lib.hid (fun W => plus_any p q r s W ⟨by omega, by omega⟩ ⟨by omega, by omega⟩ ⟨by omega, by omega⟩ ⟨by omega, by omega⟩)
  clear hl hB hc hb0 hx1 hx2
  go_enter Try.func37, Try.ntmps37
  go_wp2_with fail
  generalize (w.alloc (.cells #[.slice a1 n1 c1, .slice a2 n2 c2] 51)) = W at *
  go_region_with (first
    | (go_at_call 39; ((with_reducible refine (HL.out _).mono ?_); rintro e w1 ⟨rfl, hb1⟩; have hx1 : Below W.heap.size W w1 := ((Below.refl _ W).drew).trans hb1; have HX1 := Lib.hid hx1; clear hx1; have HC1 := Lib.hid (HC.out.below HX1.out); have k2 := HC1.out.c0; have k3 := HC1.out.c1; clear hb1))
    | (go_at_call 38; ((with_reducible refine (HPL.out _).mono ?_); rintro e w2 ⟨rfl, hb2⟩; have HX2 := Lib.hid (Below.step HX1.out hb2); have HC2 := Lib.hid (HC1.out.below hb2); have k4 := HC2.out.c0; have k5 := HC2.out.c1; have k6 := HC2.out.free 0; have k7 := HC2.out.free 1; clear hb2)))
  all_goals
    go_end0
    exact ⟨rfl, vis_done2 _ _ (Below.step HB.out HX2.out) HC2.out⟩
theorem results_three (F : Func) (hr : F.results = #[.tmp 2, .tmp 3, .tmp 4]) (tmps : Array Value) (w : World) (x y z : Value) (h2 : tmps.getD 2 undef = x) (h3 : tmps.getD 3 undef = y) (h4 : tmps.getD 4 undef = z) :
    (results F tmps).run Try.prog w = .ok (.tuple #[x, y, z]) w := by
  have h2' : tmps[2]?.getD undef = x := by simpa using h2
  have h3' : tmps[3]?.getD undef = y := by simpa using h3
  have h4' : tmps[4]?.getD undef = z := by simpa using h4
  simp [results, hr, h2', h3', h4']
def GivesC (w : World) (r s : Int) (ok : Bool) (e : Ending) (w' : World) : Prop := e = .returned (.tuple #[.int .i64 r, .int .i64 s, .bool ok]) ∧ Below w.heap.size w w'
set_option maxHeartbeats 2000000 in
theorem impl_CountByWinding (t b : List Int) (w : World) (u1 u2 : Value) (h1 : Rd w u1 t) (h2 : Rd w u2 b) (m1 : t.length ≤ 1048576) (m2 : b.length ≤ 1048576) :
    Calls Try.prog 12 #[.agg #[u1, u2]] w (GivesC w (res1_CountByWinding t b) (res2_CountByWinding t b) (ok_CountByWinding t b)) := by
  unfold res1_CountByWinding res2_CountByWinding ok_CountByWinding
  have B1 : Below w.heap.size w (w.alloc (.cells #[u1, u2] 28)) := Below.alloc1 w _
  have hA := Box2.new 28 w u1 u2
  have k0 := hA.c0; have k1 := hA.c1
  have HB := Lib.hid B1
  have g1 := h1.below B1; have g2 := h2.below B1
  obtain ⟨a1, n1, rfl, _⟩ := h1
  obtain ⟨a2, n2, rfl, _⟩ := h2
  cases e : weedB t b with
  | true =>
    rw [if_pos rfl, if_pos rfl]
    have HR := Lib.hid (readWeed_yes t b _ _ _ g1 g2 e)
    have hw := fun (W : World) x1 x2 (c : Nat) hc hn1 hn2 h0 => wind_count t b c (.pointer (some ⟨c, 0, none⟩)) (.slice a1 t.length n1) (.slice a2 b.length n2) W x1 x2 e hc hn1 hn2 (fun d a => a.heap[c]? = some (.cells #[.int .i64 (cntP d), .int .i64 (cntQ d)] 55 (0, 0)) ∧ 0 ≤ cntP d ∧ cntP d ≤ 20 * d.length ∧ 0 ≤ cntQ d ∧ cntQ d ≤ 20 * d.length) h0 (fun d a a' h hb => ⟨(hb.block c (Array.getElem?_eq_some_iff.1 h.1).1).trans h.1, h.2⟩) (fun d a g x y h hg => ⟨((heap_setCell_other _ ⟨g, 1, none⟩ c _ (by show c ≠ g; omega)).trans (heap_setCell_other a ⟨g, 0, none⟩ c _ (by show c ≠ g; omega))).trans h.1, h.2⟩) (fun d T B v1 v2 a h hT t0 r1 r2 hd => by
      obtain ⟨b1, e1, rfl, _⟩ := r1; obtain ⟨b2, e2, rfl, _⟩ := r2
      have hM := windM_le2 e
      have hx := parts_rng (weed_facts hT).1 0 t0
      have hk := tk_bound (T := T) (B := B) hx.1 hx.2
      refine (visC_any T B c (cntP d) (cntQ d) b1 b2 _ _ e1 e2 a h.1 hx.1 hx.2 (by omega) (by omega)).mono ?_
      rintro e a' ⟨he, hh, hkk⟩
      refine ⟨he, ⟨by rw [cntP_snoc, cntQ_snoc]; exact hh, ?_⟩, hkk⟩
      rw [cntP_snoc, cntQ_snoc, List.length_append]
      show 0 ≤ cntP d + tkP (stepC T B) ∧ _
      simp only [List.length_cons, List.length_nil]
      omega)
    have HW := Lib.hid hw; clear hw
    have G1 := Lib.hid g1; have G2 := Lib.hid g2
    clear hA B1 e g1 g2 m1 m2
    generalize t.length = l1 at *
    generalize b.length = l2 at *
    generalize windAll t b = D at *
    go_enter Try.func12, Try.ntmps12
    go_wp2_with fail
    refine HR.out.mono ?_
    rintro e w1 ⟨rfl, hb1⟩
    have HX1 := Lib.hid (Below.step HB.out hb1); have hb1' := hb1; clear hb1
    have hb3 := below2 w1 (.cells #[.slice a1 l1 n1, .slice a2 l2 n2] 51) (.cells #[.int .i64 0, .int .i64 0] 55)
    have hc0 : ((w1.alloc (.cells #[.slice a1 l1 n1, .slice a2 l2 n2] 51)).alloc (.cells #[.int .i64 0, .int .i64 0] 55)).heap[w1.heap.size + 1]? = some (.cells #[.int .i64 (cntP []), .int .i64 (cntQ [])] 55 (0, 0)) := by
      have h := heap_alloc_new (w1.alloc (.cells #[.slice a1 l1 n1, .slice a2 l2 n2] 51)) (.cells #[.int .i64 0, .int .i64 0] 55)
      rw [World.size_alloc] at h; exact h
    have hlt : w1.heap.size + 1 < ((w1.alloc (.cells #[.slice a1 l1 n1, .slice a2 l2 n2] 51)).alloc (.cells #[.int .i64 0, .int .i64 0] 55)).heap.size := by rw [World.size_alloc, World.size_alloc]; omega
    have HB3 := Lib.hid (Below.step HX1.out hb3)
    have HCW := Lib.hid (HW.out _ (G1.out.below (Below.step hb1' hb3)) (G2.out.below (Below.step hb1' hb3)) _ hlt (notIn_of (G1.out.below hb1') (Nat.le_succ _)) (notIn_of (G2.out.below hb1') (Nat.le_succ _)) ⟨hc0, by decide⟩)
    clear hb3 hc0 hlt hb1'
    go_wp2_with fail
    refine HCW.out.mono ?_
    rintro e w4 ⟨rfl, hi4, hg4⟩
    have k4 : w4.cell? ⟨w1.heap.size + 1, 0, none⟩ = some (.int .i64 (cntP (D))) := by rw [cell_of_row _ _ 0 _ _ _ hi4.1]; rfl
    have k5 : w4.cell? ⟨w1.heap.size + 1, 1, none⟩ = some (.int .i64 (cntQ (D))) := by rw [cell_of_row _ _ 1 _ _ _ hi4.1]; rfl
    have HF := Lib.hid (HB3.out.grown hg4 HB3.out.size (by intro k hk; have := HX1.out.size; simp at hk; omega))
    clear hi4 hg4
    go_wp2_with fail
    go_quiet (fail)
    go_wp2
    exact bodyPost_ret (results_three _ (by kernel_rfl) _ _ _ _ _ rfl rfl rfl) rfl ⟨rfl, Below.drewN HF.out _⟩
  | false =>
    rw [if_neg (by simp), if_neg (by simp)]
    have HR := Lib.hid (readWeed_no t b _ _ _ g1 g2 e)
    have hw := fun (W : World) x1 x2 (c : Nat) hc hn1 hn2 h0 => wind_count [] [] c (.pointer (some ⟨c, 0, none⟩)) (.slice none 0 0) (.slice none 0 0) W x1 x2 (show weedB [] [] = true from rfl) hc hn1 hn2 (fun d a => a.heap[c]? = some (.cells #[.int .i64 (cntP d), .int .i64 (cntQ d)] 55 (0, 0)) ∧ 0 ≤ cntP d ∧ cntP d ≤ 20 * d.length ∧ 0 ≤ cntQ d ∧ cntQ d ≤ 20 * d.length) h0 (fun d a a' h hb => ⟨(hb.block c (Array.getElem?_eq_some_iff.1 h.1).1).trans h.1, h.2⟩) (fun d a g x y h hg => ⟨((heap_setCell_other _ ⟨g, 1, none⟩ c _ (by show c ≠ g; omega)).trans (heap_setCell_other a ⟨g, 0, none⟩ c _ (by show c ≠ g; omega))).trans h.1, h.2⟩) (fun d T B v1 v2 a h hT t0 r1 r2 hd => by
      obtain ⟨b1, e1, rfl, _⟩ := r1; obtain ⟨b2, e2, rfl, _⟩ := r2
      have hM := windM_le2 (show weedB [] [] = true from rfl)
      have hx := parts_rng (weed_facts hT).1 0 t0
      have hk := tk_bound (T := T) (B := B) hx.1 hx.2
      refine (visC_any T B c (cntP d) (cntQ d) b1 b2 _ _ e1 e2 a h.1 hx.1 hx.2 (by omega) (by omega)).mono ?_
      rintro e a' ⟨he, hh, hkk⟩
      refine ⟨he, ⟨by rw [cntP_snoc, cntQ_snoc]; exact hh, ?_⟩, hkk⟩
      rw [cntP_snoc, cntQ_snoc, List.length_append]
      show 0 ≤ cntP d + tkP (stepC T B) ∧ _
      simp only [List.length_cons, List.length_nil]
      omega)
    have HW := Lib.hid hw; clear hw
    clear hA B1 e g1 g2 m1 m2
    generalize t.length = l1 at *
    generalize b.length = l2 at *
    go_enter Try.func12, Try.ntmps12
    go_wp2_with fail
    refine HR.out.mono ?_
    rintro e w1 ⟨rfl, hb1⟩
    have HX1 := Lib.hid (Below.step HB.out hb1); clear hb1
    have hb3 := below2 w1 (.cells #[.slice none 0 0, .slice none 0 0] 51) (.cells #[.int .i64 0, .int .i64 0] 55)
    have hc0 : ((w1.alloc (.cells #[.slice none 0 0, .slice none 0 0] 51)).alloc (.cells #[.int .i64 0, .int .i64 0] 55)).heap[w1.heap.size + 1]? = some (.cells #[.int .i64 (cntP []), .int .i64 (cntQ [])] 55 (0, 0)) := by
      have h := heap_alloc_new (w1.alloc (.cells #[.slice none 0 0, .slice none 0 0] 51)) (.cells #[.int .i64 0, .int .i64 0] 55)
      rw [World.size_alloc] at h; exact h
    have hlt : w1.heap.size + 1 < ((w1.alloc (.cells #[.slice none 0 0, .slice none 0 0] 51)).alloc (.cells #[.int .i64 0, .int .i64 0] 55)).heap.size := by rw [World.size_alloc, World.size_alloc]; omega
    have HB3 := Lib.hid (Below.step HX1.out hb3)
    have HCW := Lib.hid (HW.out _ ((Own.nil 0 _).rd) ((Own.nil 0 _).rd) _ hlt (fun h => absurd rfl h) (fun h => absurd rfl h) ⟨hc0, by decide⟩)
    clear hb3 hc0 hlt
    go_wp2_with fail
    refine HCW.out.mono ?_
    rintro e w4 ⟨rfl, hi4, hg4⟩
    have k4 : w4.cell? ⟨w1.heap.size + 1, 0, none⟩ = some (.int .i64 (cntP ([]))) := by rw [cell_of_row _ _ 0 _ _ _ hi4.1]; rfl
    have k5 : w4.cell? ⟨w1.heap.size + 1, 1, none⟩ = some (.int .i64 (cntQ ([]))) := by rw [cell_of_row _ _ 1 _ _ _ hi4.1]; rfl
    have HF := Lib.hid (HB3.out.grown hg4 HB3.out.size (by intro k hk; have := HX1.out.size; simp at hk; omega))
    clear hi4 hg4
    go_wp2_with fail
    go_quiet (fail)
    go_wp2
    exact bodyPost_ret (results_three _ (by kernel_rfl) _ _ _ _ _ rfl rfl rfl) rfl ⟨rfl, Below.drewN HF.out _⟩
end Go.Proofs.Ytllhdmpnjcemkab
