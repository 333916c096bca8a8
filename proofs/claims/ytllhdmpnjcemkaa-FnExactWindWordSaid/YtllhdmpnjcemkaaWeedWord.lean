/- WindWord. -/
import Derived.Test.YtllhdmpnjcemkaaWeedWind
namespace Go.Proofs.Ytllhdmpnjcemkaa
open Go.RowKit
set_option linter.unusedSimpArgs false
set_option linter.unusedVariables false

def lettersL (d : List (List Int × List Int × Nat)) : ByteArray := d.foldl (fun s x => s ++ letB x.2.2) ByteArray.empty
theorem lettersL_snoc (d : List (List Int × List Int × Nat)) (x : List Int × List Int × Nat) : lettersL (d ++ [x]) = lettersL d ++ letB x.2.2 := by simp [lettersL]
theorem letB_size (n : Nat) : (letB n).size = 1 := by unfold letB; split <;> (try split) <;> (try split) <;> (try split) <;> rfl
theorem snoc_ind2 {p : List (List Int × List Int × Nat) → Prop} (h0 : p []) (h1 : ∀ d x, p d → p (d ++ [x])) (d : List (List Int × List Int × Nat)) : p d := by
  rw [← List.reverse_reverse d]
  induction d.reverse with
  | nil => exact h0
  | cons x l ih => rw [List.reverse_cons]; exact h1 _ _ ih
theorem lettersL_size (d : List (List Int × List Int × Nat)) : (lettersL d).size = d.length := by
  induction d using snoc_ind2 with
  | h0 => rfl
  | h1 d x ih => rw [lettersL_snoc, ByteArray.size_append, ih, letB_size, List.length_append]; rfl
theorem windM_le {t b : List Int} (h : weedB t b = true) : windM t b ≤ 41 := by
  have := parts_facts (weed_facts h).1
  unfold windM; split <;> omega

def ok_WindWord (t b : List Int) : Bool := weedB t b
def res_WindWord (t b : List Int) : ByteArray := if weedB t b then lettersL (windAll t b) else ByteArray.empty

theorem heap_set1 {w : World} {c : Nat} {T : TypeId} {x : Value} (h : w.heap[c]? = some (.cells #[x] T (0, 0))) (y : Value) : (w.setCell ⟨c, 0, none⟩ y).heap[c]? = some (.cells #[y] T (0, 0)) := heap_setCell_same w c 0 _ _ y h
theorem rd_set1 {w : World} {g : Nat} {T : TypeId} {x : Value} (h : w.heap[g]? = some (.cells #[x] T (0, 0))) (hx : ∀ n, x ≠ .int .i64 n) (y v : Value) (l : List Int) (hr : Rd w v l) : Rd (w.setCell ⟨g, 0, none⟩ y) v l := by
  obtain ⟨a, c, rfl, h1, h2, h3, h4⟩ := hr
  refine ⟨a, c, rfl, h1, h2, h3, ?_⟩
  rcases h4 with h4 | ⟨b, off, rfl, h4⟩
  · exact .inl h4
  · refine .inr ⟨b, off, rfl, fun k hk => ?_⟩
    have h5 := h4 k hk
    have hbg : b ≠ g := by
      rintro rfl
      rw [cell_of_row w b (off + k) _ _ _ h] at h5
      rcases hk' : off + k with _ | j
      · rw [hk'] at h5; simp at h5; exact hx _ h5
      · rw [hk'] at h5; simp at h5
    exact (World.cell?_of_block (a := ⟨b, off + k, none⟩) ((grown_setCell (w := w) (b := g) (i := 0) (v := y)).block b (World.block_lt_of_cell? w _ h5) (by simpa using hbg))).trans h5
theorem vis_done {w W : World} {c : Nat} {s s' : ByteArray} (hB : Below w.heap.size w W) (hC : W.heap[c]? = some (.cells #[.string s] 9 (0, 0))) :
    (W.setCell ⟨c, 0, none⟩ (.string s')).drew.heap[c]? = some (.cells #[.string s'] 9 (0, 0)) ∧ Keeps c w (W.setCell ⟨c, 0, none⟩ (.string s')).drew :=
  ⟨heap_set1 hC _, ⟨grown_drewN (grown_trans (Keeps.of_below hB).1 grown_setCell) 1, fun v l hr => Rd.drewN (rd_set1 hC (fun n => by simp) _ v l (hr.below hB)) 1⟩⟩
set_option maxHeartbeats 1000000 in
theorem visW_any (T B : List Int) (c : Nat) (s : ByteArray) (a1 a2 : Option Addr) (n1 n2 c1 c2 : Nat) (w : World) (hc : w.heap[c]? = some (.cells #[.string s] 9 (0, 0))) (hs : s.size ≤ 1000) :
    Calls Try.prog 60 #[stepV T B, .agg #[.slice a1 n1 c1, .slice a2 n2 c2], .pointer (some ⟨c, 0, none⟩)] w fun e w' => e = .returned (.tuple #[]) ∧ w'.heap[c]? = some (.cells #[.string (s ++ letB (stepN T B))] 9 (0, 0)) ∧ Keeps c w w' := by
  have hl := fun W => letterOf_any T B W
  have hz := letB_size (stepN T B)
  have hB := Below.alloc1 w (.cells #[.slice a1 n1 c1, .slice a2 n2 c2] 53)
  have hlt := (Array.getElem?_eq_some_iff.1 hc).1
  have hc1 : (w.alloc (.cells #[.slice a1 n1 c1, .slice a2 n2 c2] 53)).heap[c]? = some (.cells #[.string s] 9 (0, 0)) := (hB.block c hlt).trans hc
  have k0 : (w.alloc (.cells #[.slice a1 n1 c1, .slice a2 n2 c2] 53)).cell? ⟨c, 0, none⟩ = some (.string s) := by rw [cell_of_row _ c 0 _ _ _ hc1]; rfl
  have k1 : (w.alloc (.cells #[.slice a1 n1 c1, .slice a2 n2 c2] 53)).frozen? ⟨c, 0, none⟩ = false := frozen_of_row _ c 0 _ _ hc1
  have HB := Lib.hid hB; have HL := Lib.hid hl; have HC := Lib.hid hc1
  generalize stepV T B = V at *
  generalize letB (stepN T B) = L at *
  have hz2 : L.size ≤ 1 := by omega
  clear hl hB hc hc1 hz
  go_enter Try.func60, Try.ntmps60
  go_wp2_with fail
  generalize (w.alloc (.cells #[.slice a1 n1 c1, .slice a2 n2 c2] 53)) = W at *
  go_region_with (go_at_call 58; ((with_reducible refine (HL.out _).mono ?_); rintro e w1 ⟨rfl, rfl⟩))
  all_goals
    go_end0
    exact ⟨rfl, vis_done HB.out HC.out⟩
set_option maxHeartbeats 2000000 in
theorem impl_WindWord (t b : List Int) (w : World) (u1 u2 : Value) (h1 : Rd w u1 t) (h2 : Rd w u2 b) (m1 : t.length ≤ 1048576) (m2 : b.length ≤ 1048576) :
    Calls Try.prog 38 #[.agg #[u1, u2]] w (GivesT w (res_WindWord t b) (ok_WindWord t b)) := by
  unfold res_WindWord ok_WindWord
  have B1 : Below w.heap.size w (w.alloc (.cells #[u1, u2] 27)) := Below.alloc1 w _
  have hA := Box2.new 27 w u1 u2
  have k0 := hA.c0; have k1 := hA.c1
  have HB := Lib.hid B1
  have g1 := h1.below B1; have g2 := h2.below B1
  obtain ⟨a1, n1, rfl, _⟩ := h1
  obtain ⟨a2, n2, rfl, _⟩ := h2
  cases e : weedB t b with
  | true =>
    rw [if_pos rfl]
    have HR := Lib.hid (readWeed_yes t b _ _ _ g1 g2 e)
    have hw := fun (W : World) x1 x2 (c : Nat) hc h0 => wind_word t b c (.pointer (some ⟨c, 0, none⟩)) (.slice a1 t.length n1) (.slice a2 b.length n2) W x1 x2 e hc (fun d a => a.heap[c]? = some (.cells #[.string (lettersL d)] 9 (0, 0))) h0 (fun d a a' h hb => (hb.block c (Array.getElem?_eq_some_iff.1 h).1).trans h) (fun d a g x y h hg => ((heap_setCell_other _ ⟨g, 1, none⟩ c _ (by show c ≠ g; omega)).trans (heap_setCell_other a ⟨g, 0, none⟩ c _ (by show c ≠ g; omega))).trans h) (fun d T B v1 v2 a h hT t0 r1 r2 hd => by
      obtain ⟨b1, e1, rfl, _⟩ := r1; obtain ⟨b2, e2, rfl, _⟩ := r2
      have hM := windM_le e
      refine (visW_any T B c (lettersL d) b1 b2 _ _ e1 e2 a h (by rw [lettersL_size]; omega)).mono ?_
      rintro e a' ⟨he, hh, hk⟩
      exact ⟨he, by rw [lettersL_snoc]; exact hh, hk⟩)
    have HW := Lib.hid hw; clear hw
    have G1 := Lib.hid g1; have G2 := Lib.hid g2
    clear hA B1 e g1 g2 m1 m2
    generalize t.length = l1 at *
    generalize b.length = l2 at *
    generalize windAll t b = D at *
    go_enter Try.func38, Try.ntmps38
    go_wp2_with fail
    refine HR.out.mono ?_
    rintro e w1 ⟨rfl, hb1⟩
    have HX1 := Lib.hid (Below.step HB.out hb1); have hb1' := hb1; clear hb1
    have hb3 := below2 w1 (.cells #[.slice a1 l1 n1, .slice a2 l2 n2] 53) (.cells #[.string ByteArray.empty] 9)
    have hc0 : ((w1.alloc (.cells #[.slice a1 l1 n1, .slice a2 l2 n2] 53)).alloc (.cells #[.string ByteArray.empty] 9)).heap[w1.heap.size + 1]? = some (.cells #[.string (lettersL [])] 9 (0, 0)) := by
      have h := heap_alloc_new (w1.alloc (.cells #[.slice a1 l1 n1, .slice a2 l2 n2] 53)) (.cells #[.string ByteArray.empty] 9)
      rw [World.size_alloc] at h; exact h
    have hlt : w1.heap.size + 1 < ((w1.alloc (.cells #[.slice a1 l1 n1, .slice a2 l2 n2] 53)).alloc (.cells #[.string ByteArray.empty] 9)).heap.size := by rw [World.size_alloc, World.size_alloc]; omega
    have HB3 := Lib.hid (Below.step HX1.out hb3)
    have HCW := Lib.hid (HW.out _ (G1.out.below (Below.step hb1' hb3)) (G2.out.below (Below.step hb1' hb3)) _ hlt hc0)
    clear hb3 hc0 hlt hb1'
    go_wp2_with fail
    refine HCW.out.mono ?_
    rintro e w4 ⟨rfl, hi4, hg4⟩
    have k4 : w4.cell? ⟨w1.heap.size + 1, 0, none⟩ = some (.string (lettersL (D))) := by rw [cell_of_row _ _ 0 _ _ _ hi4]; rfl
    have HF := Lib.hid (HB3.out.grown hg4 HB3.out.size (by intro k hk; have := HX1.out.size; simp at hk; omega))
    clear hi4 hg4
    go_wp2
    go_ret2
    exact ⟨rfl, HF.out⟩
  | false =>
    rw [if_neg (by simp)]
    have HR := Lib.hid (readWeed_no t b _ _ _ g1 g2 e)
    have hw := fun (W : World) x1 x2 (c : Nat) hc h0 => wind_word [] [] c (.pointer (some ⟨c, 0, none⟩)) (.slice none 0 0) (.slice none 0 0) W x1 x2 (show weedB [] [] = true from rfl) hc (fun d a => a.heap[c]? = some (.cells #[.string (lettersL d)] 9 (0, 0))) h0 (fun d a a' h hb => (hb.block c (Array.getElem?_eq_some_iff.1 h).1).trans h) (fun d a g x y h hg => ((heap_setCell_other _ ⟨g, 1, none⟩ c _ (by show c ≠ g; omega)).trans (heap_setCell_other a ⟨g, 0, none⟩ c _ (by show c ≠ g; omega))).trans h) (fun d T B v1 v2 a h hT t0 r1 r2 hd => by
      obtain ⟨b1, e1, rfl, _⟩ := r1; obtain ⟨b2, e2, rfl, _⟩ := r2
      have hM := windM_le (show weedB [] [] = true from rfl)
      refine (visW_any T B c (lettersL d) b1 b2 _ _ e1 e2 a h (by rw [lettersL_size]; omega)).mono ?_
      rintro e a' ⟨he, hh, hk⟩
      exact ⟨he, by rw [lettersL_snoc]; exact hh, hk⟩)
    have HW := Lib.hid hw; clear hw
    clear hA B1 e g1 g2 m1 m2
    generalize t.length = l1 at *
    generalize b.length = l2 at *
    go_enter Try.func38, Try.ntmps38
    go_wp2_with fail
    refine HR.out.mono ?_
    rintro e w1 ⟨rfl, hb1⟩
    have HX1 := Lib.hid (Below.step HB.out hb1); clear hb1
    have hb3 := below2 w1 (.cells #[.slice none 0 0, .slice none 0 0] 53) (.cells #[.string ByteArray.empty] 9)
    have hc0 : ((w1.alloc (.cells #[.slice none 0 0, .slice none 0 0] 53)).alloc (.cells #[.string ByteArray.empty] 9)).heap[w1.heap.size + 1]? = some (.cells #[.string (lettersL [])] 9 (0, 0)) := by
      have h := heap_alloc_new (w1.alloc (.cells #[.slice none 0 0, .slice none 0 0] 53)) (.cells #[.string ByteArray.empty] 9)
      rw [World.size_alloc] at h; exact h
    have hlt : w1.heap.size + 1 < ((w1.alloc (.cells #[.slice none 0 0, .slice none 0 0] 53)).alloc (.cells #[.string ByteArray.empty] 9)).heap.size := by rw [World.size_alloc, World.size_alloc]; omega
    have HB3 := Lib.hid (Below.step HX1.out hb3)
    have HCW := Lib.hid (HW.out _ ((Own.nil 0 _).rd) ((Own.nil 0 _).rd) _ hlt hc0)
    clear hb3 hc0 hlt
    go_wp2_with fail
    refine HCW.out.mono ?_
    rintro e w4 ⟨rfl, hi4, hg4⟩
    have k4 : w4.cell? ⟨w1.heap.size + 1, 0, none⟩ = some (.string (lettersL ([]))) := by rw [cell_of_row _ _ 0 _ _ _ hi4]; rfl
    have HF := Lib.hid (HB3.out.grown hg4 HB3.out.size (by intro k hk; have := HX1.out.size; simp at hk; omega))
    clear hi4 hg4
    go_wp2
    go_ret2
    exact ⟨rfl, HF.out⟩
/-- the model in the midst of winding down -/
structure WoundS (w0 : World) (t b : List Int) (T B : List Int) (done : List (List Int × List Int × Nat)) (v1 v2 : Value) (w : World) : Prop where
  weed : weedB T B = true
  box : Box2 27 w w0.heap.size v1 v2
  r1 : Rd w v1 T
  r2 : Rd w v2 B
  all : done ++ windAll T B = windAll t b
  below : Below w0.heap.size w0 w
theorem woundS_next {w0 w w2 : World} {t b T B T' B' : List Int} {n : Nat} {done : List (List Int × List Int × Nat)} {a1 a2 : Option Addr} {n1 n2 c1 c2 : Nat} {x y : Value} {o : Obj} (h : WoundS w0 t b T B done (.slice a1 n1 c1) (.slice a2 n2 c2) w) (hE : windAll T B = (T', B', n) :: windAll T' B') (hw : weedB T' B' = true) (hb : Below w.heap.size w w2) (hr1 : Own w.heap.size w2 x T') (hr2 : Own w.heap.size w2 y B') :
    Hid (WoundS w0 t b T' B' (done ++ [(T', B', n)]) x y (((w2.alloc o).setCell ⟨w0.heap.size, 0, none⟩ x).setCell ⟨w0.heap.size, 1, none⟩ y)) := by
  have hbx := (h.box.below hb).below (Below.alloc1 w2 o)
  exact ⟨hw, (hbx.set0 _).set1 _, rd_set2 hbx x y _ _ (hr1.rd.below (Below.alloc1 w2 o)), rd_set2 hbx x y _ _ (hr2.rd.below (Below.alloc1 w2 o)), by rw [List.append_assoc]; simpa [hE] using h.all,
    ((Below.step (Below.step h.below hb) (Below.alloc1 w2 o)).setCell (p := ⟨w0.heap.size, 0, none⟩) (Nat.le_refl _) x).setCell (p := ⟨w0.heap.size, 1, none⟩) (Nat.le_refl _) y⟩
set_option maxHeartbeats 2000000 in
set_option maxRecDepth 100000 in
theorem spec_WindWord (t b : List Int) (w : World) (u1 u2 : Value) (h1 : Rd w u1 t) (h2 : Rd w u2 b) (m1 : t.length ≤ 1048576) (m2 : b.length ≤ 1048576) :
    Calls Try.prog 37 #[.agg #[u1, u2]] w (GivesT w (res_WindWord t b) (ok_WindWord t b)) := by
  unfold res_WindWord ok_WindWord
  have B1 : Below w.heap.size w (w.alloc (.cells #[u1, u2] 27)) := Below.alloc1 w _
  have hA := Box2.new 27 w u1 u2
  have k0 := hA.c0; have k1 := hA.c1
  have HB := Lib.hid B1; have HA := Lib.hid hA
  have g1 := h1.below B1; have g2 := h2.below B1
  have hg := swGood_any t b _ u1 u2 g1 g2 m1 m2
  obtain ⟨a1, n1, rfl, _⟩ := h1
  obtain ⟨a2, n2, rfl, _⟩ := h2
  cases e : weedB t b with
  | true =>
    rw [e] at hg
    rw [if_pos rfl]
    have HR := Lib.hid hg; have HE := Lib.hid e; have G1 := Lib.hid g1; have G2 := Lib.hid g2
    clear hA B1 e g1 g2 m1 m2 hg
    go_enter Try.func37, Try.ntmps37
    go_wp2_with fail
    refine HR.out.mono ?_
    rintro e w1 ⟨rfl, hb1⟩
    have HW1 := Lib.hid (show WoundS w t b t b [] (.slice a1 t.length n1) (.slice a2 b.length n2) w1 from ⟨HE.out, HA.out.below hb1, G1.out.below hb1, G2.out.below hb1, rfl, Below.step HB.out hb1⟩)
    clear hb1 k0 k1
    have HM := Lib.hid (windM_le HE.out)
    generalize t.length = l1 at *
    generalize b.length = l2 at *
    go_wp2
    go_loopg [4] (windM t b) (fun g s4 wr => ∃ (T B : List Int) (done : List (List Int × List Int × Nat)) (v1 v2 : Value), s4 = .string (lettersL done) ∧ Hid (WoundS w t b T B done v1 v2 wr) ∧ Hid (windM T B = g) ∧ Hid (done.length + windM T B ≤ windM t b))
    case atStart => exact ⟨t, b, [], _, _, rfl, HW1, Lib.hid rfl, by show 0 + _ ≤ _; omega⟩
    case round =>
      obtain ⟨T, B, done, v1, v2, rfl, HH, HG, HD⟩ := hrel
      clear HW1
      generalize wr = wa at *
      obtain ⟨b1, e1, q1, _⟩ := id HH.out.r1
      obtain ⟨b2, e2, q2, _⟩ := id HH.out.r2
      subst q1; subst q2
      have k0 := HH.out.box.c0; have k1 := HH.out.box.c1
      by_cases t0 : 0 < T.length
      · have hw := HH.out.weed
        have HS := Lib.hid (step_weed hw t0)
        have HEE := Lib.hid (windAll_step hw t0)
        have HC := Lib.hid (swStep_any (.slice b1 T.length e1) (.slice b2 B.length e2) T B wa HH.out.r1 HH.out.r2 hw t0)
        have hsz : (lettersL done).size ≤ 1000 := by rw [lettersL_size]; have := HD.out; have := HM.out; omega
        have hlz : (letB (stepN T B)).size ≤ 1 := by rw [letB_size]; omega
        have HSN := Lib.hid (lettersL_snoc done (stepT T B, stepB T B, stepN T B))
        have HDL : Hid ((done ++ [(stepT T B, stepB T B, stepN T B)]).length = done.length + 1) := by show _ = _; simp
        have hge : (0 : Int) < (T.length : Int) := by omega
        clear hw t0
        generalize lettersL done = sd at *
        generalize hL : letB (stepN T B) = L at *
        generalize T.length = m1 at *
        generalize B.length = m2 at *
        go_wp2_with fail
        refine HC.out.mono ?_
        rintro e w2 ⟨v1, v2, rfl, ho1, ho2, ap, hb2⟩
        obtain ⟨x1, y1, z1, rfl⟩ := ho1.form'; obtain ⟨x2, y2, z2, rfl⟩ := ho2.form'
        have HN := woundS_next (o := .cells #[.slice x1 y1 z1, .slice x2 y2 z2] 27) HH.out HEE.out HS.out.1 hb2 ho1 ho2
        have hbx := (HH.out.box.below hb2).below (Below.alloc1 w2 (.cells #[.slice x1 y1 z1, .slice x2 y2 z2] 27))
        have r0 := hbx.c0; have r1 := hbx.c1; have r2 := hbx.free 0; have r3 := hbx.free 1
        clear hbx ho1 ho2 ap k0 k1
        go_wp2_with fail
        go_roundg (windM (stepT T B) (stepB T B))
        case measure => have h1 := HS.out.2; have h2 := HG.out; omega
        case rel => exact ⟨stepT T B, stepB T B, _, _, _, by rw [HSN.out], HN, Lib.hid rfl, by show _ ≤ _; have h1 := HS.out.2; have h2 := HD.out; have h3 := HDL.out; omega⟩
      · have hz : T.length = 0 := by omega
        have hAl := HH.out.all
        rw [windAll_nil hz, List.append_nil] at hAl
        have HAL := Lib.hid hAl
        have HX := Lib.hid HH.out.below
        rw [hz] at k0
        clear HH hz t0 hAl
        go_wp2
        go_ret2
        exact ⟨by rw [← HAL.out]; rfl, HX.out⟩
  | false =>
    rw [e] at hg
    rw [if_neg (by simp)]
    have HR := Lib.hid hg
    clear hA B1 e g1 g2 m1 m2 hg
    generalize t.length = l1 at *
    generalize b.length = l2 at *
    go_enter Try.func37, Try.ntmps37
    go_wp2_with fail
    refine HR.out.mono ?_
    rintro e w1 ⟨rfl, hb1⟩
    go_wp2
    go_ret2
    exact ⟨rfl, Below.step HB.out hb1⟩
end Go.Proofs.Ytllhdmpnjcemkaa
