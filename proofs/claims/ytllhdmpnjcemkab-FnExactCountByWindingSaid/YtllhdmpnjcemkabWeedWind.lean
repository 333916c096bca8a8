/- Winding down, by the program, with each of its visitors. -/
import Derived.Test.YtllhdmpnjcemkabWeedWS
import Derived.Deep.LoopGhost
namespace Go.Proofs.Ytllhdmpnjcemkab
open Go.RowKit
set_option linter.unusedSimpArgs false
set_option linter.unusedVariables false

/-- a row that does not lie in a block -/
def NotIn (c : Nat) (v : Value) (l : List Int) : Prop := l ≠ [] → ∀ b, v.ownBlock = some b → b ≠ c
def Keeps (c : Nat) (w w' : World) : Prop := w.grownBy w' (some c) ∧ ∀ v l, NotIn c v l → Rd w v l → Rd w' v l
theorem rd_block {w : World} {v : Value} {l : List Int} (h : Rd w v l) (hl : l ≠ []) : ∀ b, v.ownBlock = some b → b < w.heap.size := by
  obtain ⟨a, c, rfl, h1, h2, h3, h4⟩ := h
  rcases h4 with h4 | ⟨b, off, rfl, h4⟩
  · exact absurd h4 hl
  · intro k hk
    have hk' : b = k := by simpa [Value.ownBlock] using hk
    subst hk'
    exact World.block_lt_of_cell? w _ (h4 0 (by cases l with | nil => exact absurd rfl hl | cons x l => simp))
theorem notIn_of {w : World} {c : Nat} {v : Value} {l : List Int} (h : Rd w v l) (hc : w.heap.size ≤ c) : NotIn c v l := fun hl b hb => by have := rd_block h hl b hb; omega
theorem notIn_src {w : World} {c : Nat} {u1 u2 v : Value} {t b l : List Int} (h : Src w u1 u2 v) (h1 : NotIn c u1 t) (h2 : NotIn c u2 b) (ht : t ≠ []) (hb : b ≠ []) (hc : c < w.heap.size) : NotIn c v l := fun _ k hk => by
  rcases h k hk with h | h | h
  · exact h1 ht k h
  · exact h2 hb k h
  · omega
theorem Keeps.of_below {c : Nat} {w w' : World} (h : Below w.heap.size w w') : Keeps c w w' := ⟨⟨h.os, h.tape, h.output, h.size, fun k hk _ => h.block k hk⟩, fun v l _ hr => hr.below h⟩
theorem Keeps.trans {c : Nat} {a b d : World} (h : Keeps c a b) (k : Keeps c b d) : Keeps c a d :=
  ⟨grown_trans h.1 k.1, fun v l hn hr => k.2 v l hn (h.2 v l hn hr)⟩
theorem Keeps.box {c g : Nat} {w w' : World} {T : TypeId} {v1 v2 : Value} (h : Keeps c w w') (hb : Box2 T w g v1 v2) (hne : g ≠ c) : Box2 T w' g v1 v2 := hb.grown h.1 (by simpa using hne)
theorem wind_box {w : World} {u1 u2 : Value} : Box2 51 (w.alloc (.cells #[u1, u2] 51)) w.heap.size u1 u2 := Box2.new _ w u1 u2
/-- what is held in the midst of winding down -/
structure Wound (w0 : World) (c g : Nat) (t b : List Int) (I : List (List Int × List Int × Nat) → World → Prop) (T B : List Int) (done : List (List Int × List Int × Nat)) (v1 v2 : Value) (w : World) : Prop where
  weed : weedB T B = true
  box : Box2 51 w g v1 v2
  r1 : Rd w v1 T
  r2 : Rd w v2 B
  all : done ++ windAll T B = windAll t b
  inv : I done w
  grown : w0.grownBy w (some c)
  n1 : NotIn c v1 T
  n2 : NotIn c v2 B
theorem Wound.step {w0 w w' : World} {c g : Nat} {t b T B : List Int} {I : List (List Int × List Int × Nat) → World → Prop} {done : List (List Int × List Int × Nat)} {v1 v2 : Value} (h : Wound w0 c g t b I T B done v1 v2 w) (hb : Below w.heap.size w w') (hI : ∀ d a a', I d a → Below a.heap.size a a' → I d a') : Wound w0 c g t b I T B done v1 v2 w' :=
  ⟨h.weed, h.box.below hb, h.r1.below hb, h.r2.below hb, h.all, hI _ _ _ h.inv hb, grown_trans h.grown (Keeps.of_below hb).1, h.n1, h.n2⟩
theorem rd_set2 {w : World} {g : Nat} {T : TypeId} {a1 a2 : Option Addr} {n1 n2 c1 c2 : Nat} (h : Box2 T w g (.slice a1 n1 c1) (.slice a2 n2 c2)) (x y v : Value) (l : List Int) (hr : Rd w v l) : Rd ((w.setCell ⟨g, 0, none⟩ x).setCell ⟨g, 1, none⟩ y) v l := by
  obtain ⟨a, c, rfl, h1, h2, h3, h4⟩ := hr
  refine ⟨a, c, rfl, h1, h2, h3, ?_⟩
  rcases h4 with h4 | ⟨b, off, rfl, h4⟩
  · exact .inl h4
  · refine .inr ⟨b, off, rfl, fun k hk => ?_⟩
    have h5 := h4 k hk
    have hbg : b ≠ g := by
      rintro rfl
      rw [cell_of_row w b (off + k) _ _ _ h] at h5
      rcases hk' : off + k with _ | _ | j
      · rw [hk'] at h5; simp at h5
      · rw [hk'] at h5; simp at h5
      · rw [hk'] at h5; simp at h5
    have hg := (grown_trans (b := some g) (grown_setCell (w := w) (b := g) (i := 0) (v := x)) (grown_setCell (b := g) (i := 1) (v := y)))
    exact (World.cell?_of_block (a := ⟨b, off + k, none⟩) (hg.block b (World.block_lt_of_cell? w _ h5) (by simpa using hbg))).trans h5
theorem wound_put {w0 w : World} {c : Nat} {t b T B T' B' : List Int} {I : List (List Int × List Int × Nat) → World → Prop} {done : List (List Int × List Int × Nat)} {a1 a2 : Option Addr} {n1 n2 c1 c2 : Nat} {x y : Value} (h : Wound w0 c w0.heap.size t b I T B done (.slice a1 n1 c1) (.slice a2 n2 c2) w) (hr1 : Rd w x T') (hr2 : Rd w y B')
    (hI2 : ∀ d a g x y, I d a → w0.heap.size ≤ g → I d ((a.setCell ⟨g, 0, none⟩ x).setCell ⟨g, 1, none⟩ y)) :
    Hid (Box2 51 ((w.setCell ⟨w0.heap.size, 0, none⟩ x).setCell ⟨w0.heap.size, 1, none⟩ y) w0.heap.size x y ∧ Rd ((w.setCell ⟨w0.heap.size, 0, none⟩ x).setCell ⟨w0.heap.size, 1, none⟩ y) x T' ∧ Rd ((w.setCell ⟨w0.heap.size, 0, none⟩ x).setCell ⟨w0.heap.size, 1, none⟩ y) y B' ∧ I done ((w.setCell ⟨w0.heap.size, 0, none⟩ x).setCell ⟨w0.heap.size, 1, none⟩ y) ∧ w0.grownBy ((w.setCell ⟨w0.heap.size, 0, none⟩ x).setCell ⟨w0.heap.size, 1, none⟩ y) (some c)) := by
  have hs : Below w0.heap.size w ((w.setCell ⟨w0.heap.size, 0, none⟩ x).setCell ⟨w0.heap.size, 1, none⟩ y) := ((Below.refl _ w).setCell (p := ⟨w0.heap.size, 0, none⟩) (Nat.le_refl _) x).setCell (p := ⟨w0.heap.size, 1, none⟩) (Nat.le_refl _) y
  exact ⟨(h.box.set0 _).set1 _, rd_set2 h.box x y _ _ hr1, rd_set2 h.box x y _ _ hr2, hI2 _ _ _ _ _ h.inv (Nat.le_refl _), ⟨hs.os.trans h.grown.os, hs.tape.trans h.grown.tape, hs.output.trans h.grown.output, Nat.le_trans h.grown.size hs.size, fun k hk hne => (hs.block k hk).trans (h.grown.block k hk hne)⟩⟩
theorem wound_next {w0 w w6 : World} {c n : Nat} {t b T B T' B' : List Int} {I : List (List Int × List Int × Nat) → World → Prop} {done : List (List Int × List Int × Nat)} {x y : Value} (hall : done ++ windAll T B = windAll t b) (hE : windAll T B = (T', B', n) :: windAll T' B') (hw : weedB T' B' = true) (hbx : Box2 51 w w0.heap.size x y) (hr1 : Rd w x T') (hr2 : Rd w y B') (hg : w0.grownBy w (some c)) (hc : c < w0.heap.size) (hI : I (done ++ [(T', B', n)]) w6) (hK : Keeps c w w6) (hn1 : NotIn c x T') (hn2 : NotIn c y B') :
    Wound w0 c w0.heap.size t b I T' B' (done ++ [(T', B', n)]) x y w6 :=
  ⟨hw, hK.box hbx (by omega), hK.2 _ _ hn1 hr1, hK.2 _ _ hn2 hr2, by rw [List.append_assoc]; simpa [hE] using hall, hI, grown_trans hg hK.1, hn1, hn2⟩


set_option maxHeartbeats 2000000 in
set_option maxRecDepth 100000 in
theorem wind_count (t b : List Int) (c : Nat) (p : Value) (u1 u2 : Value) (w : World) (h1 : Rd w u1 t) (h2 : Rd w u2 b) (h : weedB t b = true) (hc : c < w.heap.size) (hn1 : NotIn c u1 t) (hn2 : NotIn c u2 b)
    (I : List (List Int × List Int × Nat) → World → Prop) (h0 : I [] w) (hI : ∀ d a a', I d a → Below a.heap.size a a' → I d a') (hI2 : ∀ d a g x y, I d a → w.heap.size ≤ g → I d ((a.setCell ⟨g, 0, none⟩ x).setCell ⟨g, 1, none⟩ y))
    (hV : ∀ d T B v1 v2 a, I d a → weedB T B = true → 0 < T.length → Rd a v1 (stepT T B) → Rd a v2 (stepB T B) → d.length + windM T B ≤ windM t b → Calls Try.prog 37 #[stepV T B, .agg #[v1, v2], p] a fun e a' => e = .returned (.tuple #[]) ∧ I (d ++ [(stepT T B, stepB T B, stepC T B)]) a' ∧ Keeps c a a') :
    Calls Try.prog 36 #[.agg #[u1, u2], .func (.func 37) #[] #[p]] w fun e w' => e = .returned (.tuple #[]) ∧ I (windAll t b) w' ∧ w.grownBy w' (some c) := by
  have hW0 : Wound w c w.heap.size t b I t b [] u1 u2 (w.alloc (.cells #[u1, u2] 51)) := ⟨h, wind_box, h1.below (Below.alloc1 _ _), h2.below (Below.alloc1 _ _), rfl, hI _ _ _ h0 (Below.alloc1 _ _), (Keeps.of_below (Below.alloc1 w _)).1, hn1, hn2⟩
  have HW0 := Lib.hid hW0; have HI := Lib.hid hI; have HI2 := Lib.hid hI2; have HV := Lib.hid hV; have HCL := Lib.hid hc
  obtain ⟨a1, n1, rfl, _⟩ := h1
  obtain ⟨a2, n2, rfl, _⟩ := h2
  generalize t.length = m1 at *
  generalize b.length = m2 at *
  clear h hW0 hI hI2 hV h0 hn1 hn2
  go_enter Try.func36, Try.ntmps36
  go_wp2
  go_loopg [4] (windM t b) (fun g s4 wr => ∃ (T B : List Int) (done : List (List Int × List Int × Nat)) (v1 v2 : Value), Hid (Wound w c w.heap.size t b I T B done v1 v2 wr) ∧ Hid (windM T B = g) ∧ Hid (done.length + windM T B ≤ windM t b))
  case atStart => exact ⟨t, b, [], _, _, HW0, Lib.hid rfl, by show 0 + _ ≤ _; omega⟩
  case round =>
    obtain ⟨T, B, done, v1, v2, HH, HG, HD⟩ := hrel
    clear HW0
    generalize wr = wa at *
    obtain ⟨b1, e1, q1, _⟩ := id HH.out.r1
    obtain ⟨b2, e2, q2, _⟩ := id HH.out.r2
    subst q1; subst q2
    have k0 := HH.out.box.c0; have k1 := HH.out.box.c1
    by_cases t0 : 0 < T.length
    · have hw := HH.out.weed
      have hk := step_kinds hw t0
      have hs := step_weed hw t0
      have HS := Lib.hid hs
      have HE := Lib.hid (windAll_step hw t0)
      have c4 := fun W x1 x2 => step_any (.slice b1 T.length e1) (.slice b2 B.length e2) T B W x1 x2 hw t0
      have HC4 := Lib.hid c4
      have c5 := fun v1 v2 a x1 x2 x3 => HV.out done T B v1 v2 a x1 hw t0 x2 x3 HD.out
      have HC5 := Lib.hid c5
      have hne : ((T.length : Int) == 0) = false := beq_eq_false_iff_ne.2 (by omega)
      have HT0 : Hid (T ≠ [] ∧ B ≠ []) := ⟨by intro h; rw [h] at t0; simp at t0, by intro h; have := weed_empty hw; rw [h] at this; simp at this; rw [this] at t0; simp at t0⟩
      clear c4 c5 t0 hw hs
      generalize T.length = m1 at *
      generalize B.length = m2 at *
      rcases hk with hk | hk | hk | hk | hk
      · obtain ⟨hv, hcb⟩ := hk
        rw [hv] at HC4 HC5
        have HCB := Lib.hid hcb
        clear hv hcb
        go_wp2_with (first
          | (go_at_call 56; ((with_reducible refine (isEmpty_any _ _ _ _ _ _ _).mono ?_); rintro e w2 ⟨rfl, hb2⟩; rw [hne]; have HH2 := Lib.hid (HH.out.step hb2 HI.out); have s0 := HH2.out.box.c0; have s1 := HH2.out.box.c1; clear hb2 k0 k1))
          | (go_at_call 57; ((with_reducible refine (HC4.out _ HH2.out.r1 HH2.out.r2).mono ?_); rintro e w3 ⟨rfl, hb3⟩; have HH3 := Lib.hid (HH2.out.step hb3 HI.out); have s2 := HH3.out.box.c0; have s3 := HH3.out.box.c1; clear hb3 s0 s1)))
        show Calls Try.prog 110 #[.agg #[], .agg #[.slice b1 m1 e1, .slice b2 m2 e2]] _ _
        refine (HCB.out _ _ _ HH3.out.r1 HH3.out.r2).mono ?_
        rintro e w4 ⟨v1, v2, rfl, hr1, hr2, hb4, hs1, hs2⟩
        have HH4 := Lib.hid (HH3.out.step hb4 HI.out)
        obtain ⟨x1, y1, rfl, _⟩ := id hr1; obtain ⟨x2, y2, rfl, _⟩ := id hr2
        have hcw : c < w3.heap.size := Nat.lt_of_lt_of_le HCL.out HH3.out.grown.size
        have HN1 : Hid (NotIn c (.slice x1 (stepT T B).length y1) (stepT T B)) := notIn_src hs1 HH3.out.n1 HH3.out.n2 HT0.out.1 HT0.out.2 hcw
        have HN2 : Hid (NotIn c (.slice x2 (stepB T B).length y2) (stepB T B)) := notIn_src hs2 HH3.out.n1 HH3.out.n2 HT0.out.1 HT0.out.2 hcw
        clear hs1 hs2 hcw
        have HPUT := wound_put HH4.out hr1 hr2 HI2.out
        have HH5 := Lib.hid HH4.out.all
        have r0 := HH4.out.box.c0; have r1 := HH4.out.box.c1; have r2 := HH4.out.box.free 0; have r3 := HH4.out.box.free 1
        clear hr1 hr2 hb4 s2 s3
        go_wp2_with fail
        have r4 := HPUT.out.1.c0; have r5 := HPUT.out.1.c1
        go_wp2_with fail
        refine (HC5.out _ _ _ HPUT.out.2.2.2.1 HPUT.out.2.1 HPUT.out.2.2.1).mono ?_
        rintro e w6 ⟨rfl, hi6, hk6⟩
        have HN := Lib.hid (wound_next HH5.out HE.out HS.out.1 HPUT.out.1 HPUT.out.2.1 HPUT.out.2.2.1 HPUT.out.2.2.2.2 HCL.out hi6 hk6 HN1.out HN2.out)
        clear hi6 hk6 r0 r1 r2 r3 r4 r5
        go_wp2_with fail
        go_roundg (windM (stepT T B) (stepB T B))
        case measure => have h1 := HS.out.2; have h2 := HG.out; omega
        case rel => exact ⟨stepT T B, stepB T B, _, _, _, HN, Lib.hid rfl, by show _ ≤ _; have h1 := HS.out.2; have h2 := HD.out; simp only [List.length_append, List.length_cons, List.length_nil]; omega⟩
      · obtain ⟨hv, hcb⟩ := hk
        rw [hv] at HC4 HC5
        have HCB := Lib.hid hcb
        clear hv hcb
        go_wp2_with (first
          | (go_at_call 56; ((with_reducible refine (isEmpty_any _ _ _ _ _ _ _).mono ?_); rintro e w2 ⟨rfl, hb2⟩; rw [hne]; have HH2 := Lib.hid (HH.out.step hb2 HI.out); have s0 := HH2.out.box.c0; have s1 := HH2.out.box.c1; clear hb2 k0 k1))
          | (go_at_call 57; ((with_reducible refine (HC4.out _ HH2.out.r1 HH2.out.r2).mono ?_); rintro e w3 ⟨rfl, hb3⟩; have HH3 := Lib.hid (HH2.out.step hb3 HI.out); have s2 := HH3.out.box.c0; have s3 := HH3.out.box.c1; clear hb3 s0 s1)))
        show Calls Try.prog 109 #[.agg #[.int .i64 (hdI T)], .agg #[.slice b1 m1 e1, .slice b2 m2 e2]] _ _
        refine (HCB.out _ _ _ HH3.out.r1 HH3.out.r2).mono ?_
        rintro e w4 ⟨v1, v2, rfl, hr1, hr2, hb4, hs1, hs2⟩
        have HH4 := Lib.hid (HH3.out.step hb4 HI.out)
        obtain ⟨x1, y1, rfl, _⟩ := id hr1; obtain ⟨x2, y2, rfl, _⟩ := id hr2
        have hcw : c < w3.heap.size := Nat.lt_of_lt_of_le HCL.out HH3.out.grown.size
        have HN1 : Hid (NotIn c (.slice x1 (stepT T B).length y1) (stepT T B)) := notIn_src hs1 HH3.out.n1 HH3.out.n2 HT0.out.1 HT0.out.2 hcw
        have HN2 : Hid (NotIn c (.slice x2 (stepB T B).length y2) (stepB T B)) := notIn_src hs2 HH3.out.n1 HH3.out.n2 HT0.out.1 HT0.out.2 hcw
        clear hs1 hs2 hcw
        have HPUT := wound_put HH4.out hr1 hr2 HI2.out
        have HH5 := Lib.hid HH4.out.all
        have r0 := HH4.out.box.c0; have r1 := HH4.out.box.c1; have r2 := HH4.out.box.free 0; have r3 := HH4.out.box.free 1
        clear hr1 hr2 hb4 s2 s3
        go_wp2_with fail
        have r4 := HPUT.out.1.c0; have r5 := HPUT.out.1.c1
        go_wp2_with fail
        refine (HC5.out _ _ _ HPUT.out.2.2.2.1 HPUT.out.2.1 HPUT.out.2.2.1).mono ?_
        rintro e w6 ⟨rfl, hi6, hk6⟩
        have HN := Lib.hid (wound_next HH5.out HE.out HS.out.1 HPUT.out.1 HPUT.out.2.1 HPUT.out.2.2.1 HPUT.out.2.2.2.2 HCL.out hi6 hk6 HN1.out HN2.out)
        clear hi6 hk6 r0 r1 r2 r3 r4 r5
        go_wp2_with fail
        go_roundg (windM (stepT T B) (stepB T B))
        case measure => have h1 := HS.out.2; have h2 := HG.out; omega
        case rel => exact ⟨stepT T B, stepB T B, _, _, _, HN, Lib.hid rfl, by show _ ≤ _; have h1 := HS.out.2; have h2 := HD.out; simp only [List.length_append, List.length_cons, List.length_nil]; omega⟩
      · obtain ⟨hv, hcb⟩ := hk
        rw [hv] at HC4 HC5
        have HCB := Lib.hid hcb
        clear hv hcb
        go_wp2_with (first
          | (go_at_call 56; ((with_reducible refine (isEmpty_any _ _ _ _ _ _ _).mono ?_); rintro e w2 ⟨rfl, hb2⟩; rw [hne]; have HH2 := Lib.hid (HH.out.step hb2 HI.out); have s0 := HH2.out.box.c0; have s1 := HH2.out.box.c1; clear hb2 k0 k1))
          | (go_at_call 57; ((with_reducible refine (HC4.out _ HH2.out.r1 HH2.out.r2).mono ?_); rintro e w3 ⟨rfl, hb3⟩; have HH3 := Lib.hid (HH2.out.step hb3 HI.out); have s2 := HH3.out.box.c0; have s3 := HH3.out.box.c1; clear hb3 s0 s1)))
        show Calls Try.prog 113 #[.agg #[.int .i64 (hdI B)], .agg #[.slice b1 m1 e1, .slice b2 m2 e2]] _ _
        refine (HCB.out _ _ _ HH3.out.r1 HH3.out.r2).mono ?_
        rintro e w4 ⟨v1, v2, rfl, hr1, hr2, hb4, hs1, hs2⟩
        have HH4 := Lib.hid (HH3.out.step hb4 HI.out)
        obtain ⟨x1, y1, rfl, _⟩ := id hr1; obtain ⟨x2, y2, rfl, _⟩ := id hr2
        have hcw : c < w3.heap.size := Nat.lt_of_lt_of_le HCL.out HH3.out.grown.size
        have HN1 : Hid (NotIn c (.slice x1 (stepT T B).length y1) (stepT T B)) := notIn_src hs1 HH3.out.n1 HH3.out.n2 HT0.out.1 HT0.out.2 hcw
        have HN2 : Hid (NotIn c (.slice x2 (stepB T B).length y2) (stepB T B)) := notIn_src hs2 HH3.out.n1 HH3.out.n2 HT0.out.1 HT0.out.2 hcw
        clear hs1 hs2 hcw
        have HPUT := wound_put HH4.out hr1 hr2 HI2.out
        have HH5 := Lib.hid HH4.out.all
        have r0 := HH4.out.box.c0; have r1 := HH4.out.box.c1; have r2 := HH4.out.box.free 0; have r3 := HH4.out.box.free 1
        clear hr1 hr2 hb4 s2 s3
        go_wp2_with fail
        have r4 := HPUT.out.1.c0; have r5 := HPUT.out.1.c1
        go_wp2_with fail
        refine (HC5.out _ _ _ HPUT.out.2.2.2.1 HPUT.out.2.1 HPUT.out.2.2.1).mono ?_
        rintro e w6 ⟨rfl, hi6, hk6⟩
        have HN := Lib.hid (wound_next HH5.out HE.out HS.out.1 HPUT.out.1 HPUT.out.2.1 HPUT.out.2.2.1 HPUT.out.2.2.2.2 HCL.out hi6 hk6 HN1.out HN2.out)
        clear hi6 hk6 r0 r1 r2 r3 r4 r5
        go_wp2_with fail
        go_roundg (windM (stepT T B) (stepB T B))
        case measure => have h1 := HS.out.2; have h2 := HG.out; omega
        case rel => exact ⟨stepT T B, stepB T B, _, _, _, HN, Lib.hid rfl, by show _ ≤ _; have h1 := HS.out.2; have h2 := HD.out; simp only [List.length_append, List.length_cons, List.length_nil]; omega⟩
      · obtain ⟨hv, hcb⟩ := hk
        rw [hv] at HC4 HC5
        have HCB := Lib.hid hcb
        clear hv hcb
        go_wp2_with (first
          | (go_at_call 56; ((with_reducible refine (isEmpty_any _ _ _ _ _ _ _).mono ?_); rintro e w2 ⟨rfl, hb2⟩; rw [hne]; have HH2 := Lib.hid (HH.out.step hb2 HI.out); have s0 := HH2.out.box.c0; have s1 := HH2.out.box.c1; clear hb2 k0 k1))
          | (go_at_call 57; ((with_reducible refine (HC4.out _ HH2.out.r1 HH2.out.r2).mono ?_); rintro e w3 ⟨rfl, hb3⟩; have HH3 := Lib.hid (HH2.out.step hb3 HI.out); have s2 := HH3.out.box.c0; have s3 := HH3.out.box.c1; clear hb3 s0 s1)))
        show Calls Try.prog 111 #[.agg #[.int .i64 (hdI T), .int .i64 (hdI B)], .agg #[.slice b1 m1 e1, .slice b2 m2 e2]] _ _
        refine (HCB.out _ _ _ HH3.out.r1 HH3.out.r2).mono ?_
        rintro e w4 ⟨v1, v2, rfl, hr1, hr2, hb4, hs1, hs2⟩
        have HH4 := Lib.hid (HH3.out.step hb4 HI.out)
        obtain ⟨x1, y1, rfl, _⟩ := id hr1; obtain ⟨x2, y2, rfl, _⟩ := id hr2
        have hcw : c < w3.heap.size := Nat.lt_of_lt_of_le HCL.out HH3.out.grown.size
        have HN1 : Hid (NotIn c (.slice x1 (stepT T B).length y1) (stepT T B)) := notIn_src hs1 HH3.out.n1 HH3.out.n2 HT0.out.1 HT0.out.2 hcw
        have HN2 : Hid (NotIn c (.slice x2 (stepB T B).length y2) (stepB T B)) := notIn_src hs2 HH3.out.n1 HH3.out.n2 HT0.out.1 HT0.out.2 hcw
        clear hs1 hs2 hcw
        have HPUT := wound_put HH4.out hr1 hr2 HI2.out
        have HH5 := Lib.hid HH4.out.all
        have r0 := HH4.out.box.c0; have r1 := HH4.out.box.c1; have r2 := HH4.out.box.free 0; have r3 := HH4.out.box.free 1
        clear hr1 hr2 hb4 s2 s3
        go_wp2_with fail
        have r4 := HPUT.out.1.c0; have r5 := HPUT.out.1.c1
        go_wp2_with fail
        refine (HC5.out _ _ _ HPUT.out.2.2.2.1 HPUT.out.2.1 HPUT.out.2.2.1).mono ?_
        rintro e w6 ⟨rfl, hi6, hk6⟩
        have HN := Lib.hid (wound_next HH5.out HE.out HS.out.1 HPUT.out.1 HPUT.out.2.1 HPUT.out.2.2.1 HPUT.out.2.2.2.2 HCL.out hi6 hk6 HN1.out HN2.out)
        clear hi6 hk6 r0 r1 r2 r3 r4 r5
        go_wp2_with fail
        go_roundg (windM (stepT T B) (stepB T B))
        case measure => have h1 := HS.out.2; have h2 := HG.out; omega
        case rel => exact ⟨stepT T B, stepB T B, _, _, _, HN, Lib.hid rfl, by show _ ≤ _; have h1 := HS.out.2; have h2 := HD.out; simp only [List.length_append, List.length_cons, List.length_nil]; omega⟩
      · obtain ⟨hv, hcb⟩ := hk
        rw [hv] at HC4 HC5
        have HCB := Lib.hid hcb
        clear hv hcb
        go_wp2_with (first
          | (go_at_call 56; ((with_reducible refine (isEmpty_any _ _ _ _ _ _ _).mono ?_); rintro e w2 ⟨rfl, hb2⟩; rw [hne]; have HH2 := Lib.hid (HH.out.step hb2 HI.out); have s0 := HH2.out.box.c0; have s1 := HH2.out.box.c1; clear hb2 k0 k1))
          | (go_at_call 57; ((with_reducible refine (HC4.out _ HH2.out.r1 HH2.out.r2).mono ?_); rintro e w3 ⟨rfl, hb3⟩; have HH3 := Lib.hid (HH2.out.step hb3 HI.out); have s2 := HH3.out.box.c0; have s3 := HH3.out.box.c1; clear hb3 s0 s1)))
        show Calls Try.prog 114 #[.agg #[.int .i64 (hdI T), .int .i64 (hdI B)], .agg #[.slice b1 m1 e1, .slice b2 m2 e2]] _ _
        refine (HCB.out _ _ _ HH3.out.r1 HH3.out.r2).mono ?_
        rintro e w4 ⟨v1, v2, rfl, hr1, hr2, hb4, hs1, hs2⟩
        have HH4 := Lib.hid (HH3.out.step hb4 HI.out)
        obtain ⟨x1, y1, rfl, _⟩ := id hr1; obtain ⟨x2, y2, rfl, _⟩ := id hr2
        have hcw : c < w3.heap.size := Nat.lt_of_lt_of_le HCL.out HH3.out.grown.size
        have HN1 : Hid (NotIn c (.slice x1 (stepT T B).length y1) (stepT T B)) := notIn_src hs1 HH3.out.n1 HH3.out.n2 HT0.out.1 HT0.out.2 hcw
        have HN2 : Hid (NotIn c (.slice x2 (stepB T B).length y2) (stepB T B)) := notIn_src hs2 HH3.out.n1 HH3.out.n2 HT0.out.1 HT0.out.2 hcw
        clear hs1 hs2 hcw
        have HPUT := wound_put HH4.out hr1 hr2 HI2.out
        have HH5 := Lib.hid HH4.out.all
        have r0 := HH4.out.box.c0; have r1 := HH4.out.box.c1; have r2 := HH4.out.box.free 0; have r3 := HH4.out.box.free 1
        clear hr1 hr2 hb4 s2 s3
        go_wp2_with fail
        have r4 := HPUT.out.1.c0; have r5 := HPUT.out.1.c1
        go_wp2_with fail
        refine (HC5.out _ _ _ HPUT.out.2.2.2.1 HPUT.out.2.1 HPUT.out.2.2.1).mono ?_
        rintro e w6 ⟨rfl, hi6, hk6⟩
        have HN := Lib.hid (wound_next HH5.out HE.out HS.out.1 HPUT.out.1 HPUT.out.2.1 HPUT.out.2.2.1 HPUT.out.2.2.2.2 HCL.out hi6 hk6 HN1.out HN2.out)
        clear hi6 hk6 r0 r1 r2 r3 r4 r5
        go_wp2_with fail
        go_roundg (windM (stepT T B) (stepB T B))
        case measure => have h1 := HS.out.2; have h2 := HG.out; omega
        case rel => exact ⟨stepT T B, stepB T B, _, _, _, HN, Lib.hid rfl, by show _ ≤ _; have h1 := HS.out.2; have h2 := HD.out; simp only [List.length_append, List.length_cons, List.length_nil]; omega⟩
    · have hz : T.length = 0 := by omega
      have hA := HH.out.all
      rw [windAll_nil hz, List.append_nil] at hA
      have HA := Lib.hid hA
      rw [hz] at HH k0
      clear hz hA t0
      go_wp2_with (go_at_call 56; ((with_reducible refine (isEmpty_any _ _ _ _ _ _ _).mono ?_); rintro e w2 ⟨rfl, hb2⟩; have HH2 := Lib.hid (HH.out.step hb2 HI.out); clear hb2))
      go_end0
      exact ⟨rfl, by rw [← HA.out]; exact HH2.out.inv, HH2.out.grown⟩

end Go.Proofs.Ytllhdmpnjcemkab
