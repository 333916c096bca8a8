/- Winding down, by the program, with each of its visitors. -/
import Derived.Test.YtgaaddfipkdlaaaWeedWS
import Derived.Deep.LoopGhost
namespace Go.Proofs.Ytgaaddfipkdlaaa
open Go.RowKit
set_option linter.unusedSimpArgs false
set_option linter.unusedVariables false

/-- a row that does not lie in a block -/
def NotIn (c : Nat) (v : Value) (l : List Int) : Prop := l ≠ [] → ∀ b, v.ownBlock = some b → b ≠ c
def Keeps (c : Nat) (w w' : World) : Prop := w.grownBy w' (some c) ∧ ∀ v l, NotIn c v l → Rd w v l → Rd w' v l
theorem rd_block {w : World} {v : Value} {l : List Int} (h : Rd w v l) (hl : l ≠ []) : ∀ b, v.ownBlock = some b → b < w.heap.size := by
  obtain ⟨a, c, rfl, h1, h2, h3, h4⟩ := h
  rcases h4 with h4 | ⟨b, off, rfl, h4⟩
  · exact absurd h4 hl
  · intro k hk
    have hk' : b = k := by simpa [Value.ownBlock] using hk
    subst hk'
    exact World.block_lt_of_cell? w _ (h4 0 (by cases l with | nil => exact absurd rfl hl | cons x l => simp))
theorem notIn_of {w : World} {c : Nat} {v : Value} {l : List Int} (h : Rd w v l) (hc : w.heap.size ≤ c) : NotIn c v l := fun hl b hb => by have := rd_block h hl b hb; omega
theorem notIn_src {w : World} {c : Nat} {u1 u2 v : Value} {t b l : List Int} (h : Src w u1 u2 v) (h1 : NotIn c u1 t) (h2 : NotIn c u2 b) (ht : t ≠ []) (hb : b ≠ []) (hc : c < w.heap.size) : NotIn c v l := fun _ k hk => by
  rcases h k hk with h | h | h
  · exact h1 ht k h
  · exact h2 hb k h
  · omega
theorem Keeps.of_below {c : Nat} {w w' : World} (h : Below w.heap.size w w') : Keeps c w w' := ⟨⟨h.os, h.tape, h.output, h.size, fun k hk _ => h.block k hk⟩, fun v l _ hr => hr.below h⟩
theorem Keeps.trans {c : Nat} {a b d : World} (h : Keeps c a b) (k : Keeps c b d) : Keeps c a d :=
  ⟨grown_trans h.1 k.1, fun v l hn hr => k.2 v l hn (h.2 v l hn hr)⟩
theorem Keeps.box {c g : Nat} {w w' : World} {T : TypeId} {v1 v2 : Value} (h : Keeps c w w') (hb : Box2 T w g v1 v2) (hne : g ≠ c) : Box2 T w' g v1 v2 := hb.grown h.1 (by simpa using hne)
theorem wind_box {w : World} {u1 u2 : Value} : Box2 58 (w.alloc (.cells #[u1, u2] 58)) w.heap.size u1 u2 := Box2.new _ w u1 u2
/-- what is held in the midst of winding down -/
structure Wound (w0 : World) (c g : Nat) (t b : List Int) (I : List (List Int × List Int × Nat) → World → Prop) (T B : List Int) (done : List (List Int × List Int × Nat)) (v1 v2 : Value) (w : World) : Prop where
  weed : weedB T B = true
  box : Box2 58 w g v1 v2
  r1 : Rd w v1 T
  r2 : Rd w v2 B
  all : done ++ windAll T B = windAll t b
  inv : I done w
  grown : w0.grownBy w (some c)
  n1 : NotIn c v1 T
  n2 : NotIn c v2 B
theorem Wound.step {w0 w w' : World} {c g : Nat} {t b T B : List Int} {I : List (List Int × List Int × Nat) → World → Prop} {done : List (List Int × List Int × Nat)} {v1 v2 : Value} (h : Wound w0 c g t b I T B done v1 v2 w) (hb : Below w.heap.size w w') (hI : ∀ d a a', I d a → Below a.heap.size a a' → I d a') : Wound w0 c g t b I T B done v1 v2 w' :=
  ⟨h.weed, h.box.below hb, h.r1.below hb, h.r2.below hb, h.all, hI _ _ _ h.inv hb, grown_trans h.grown (Keeps.of_below hb).1, h.n1, h.n2⟩
theorem rd_set2 {w : World} {g : Nat} {T : TypeId} {a1 a2 : Option Addr} {n1 n2 c1 c2 : Nat} (h : Box2 T w g (.slice a1 n1 c1) (.slice a2 n2 c2)) (x y v : Value) (l : List Int) (hr : Rd w v l) : Rd ((w.setCell ⟨g, 0, none⟩ x).setCell ⟨g, 1, none⟩ y) v l := by
  obtain ⟨a, c, rfl, h1, h2, h3, h4⟩ := hr
  refine ⟨a, c, rfl, h1, h2, h3, ?_⟩
  rcases h4 with h4 | ⟨b, off, rfl, h4⟩
  · exact .inl h4
  · refine .inr ⟨b, off, rfl, fun k hk => ?_⟩
    have h5 := h4 k hk
    have hbg : b ≠ g := by
      rintro rfl
      rw [cell_of_row w b (off + k) _ _ _ h] at h5
      rcases hk' : off + k with _ | _ | j
      · rw [hk'] at h5; simp at h5
      · rw [hk'] at h5; simp at h5
      · rw [hk'] at h5; simp at h5
    have hg := (grown_trans (b := some g) (grown_setCell (w := w) (b := g) (i := 0) (v := x)) (grown_setCell (b := g) (i := 1) (v := y)))
    exact (World.cell?_of_block (a := ⟨b, off + k, none⟩) (hg.block b (World.block_lt_of_cell? w _ h5) (by simpa using hbg))).trans h5
theorem wound_put {w0 w : World} {c : Nat} {t b T B T' B' : List Int} {I : List (List Int × List Int × Nat) → World → Prop} {done : List (List Int × List Int × Nat)} {a1 a2 : Option Addr} {n1 n2 c1 c2 : Nat} {x y : Value} (h : Wound w0 c w0.heap.size t b I T B done (.slice a1 n1 c1) (.slice a2 n2 c2) w) (hr1 : Rd w x T') (hr2 : Rd w y B')
    (hI2 : ∀ d a g x y, I d a → w0.heap.size ≤ g → I d ((a.setCell ⟨g, 0, none⟩ x).setCell ⟨g, 1, none⟩ y)) :
    Hid (Box2 58 ((w.setCell ⟨w0.heap.size, 0, none⟩ x).setCell ⟨w0.heap.size, 1, none⟩ y) w0.heap.size x y ∧ Rd ((w.setCell ⟨w0.heap.size, 0, none⟩ x).setCell ⟨w0.heap.size, 1, none⟩ y) x T' ∧ Rd ((w.setCell ⟨w0.heap.size, 0, none⟩ x).setCell ⟨w0.heap.size, 1, none⟩ y) y B' ∧ I done ((w.setCell ⟨w0.heap.size, 0, none⟩ x).setCell ⟨w0.heap.size, 1, none⟩ y) ∧ w0.grownBy ((w.setCell ⟨w0.heap.size, 0, none⟩ x).setCell ⟨w0.heap.size, 1, none⟩ y) (some c)) := by
  have hs : Below w0.heap.size w ((w.setCell ⟨w0.heap.size, 0, none⟩ x).setCell ⟨w0.heap.size, 1, none⟩ y) := ((Below.refl _ w).setCell (p := ⟨w0.heap.size, 0, none⟩) (Nat.le_refl _) x).setCell (p := ⟨w0.heap.size, 1, none⟩) (Nat.le_refl _) y
  exact ⟨(h.box.set0 _).set1 _, rd_set2 h.box x y _ _ hr1, rd_set2 h.box x y _ _ hr2, hI2 _ _ _ _ _ h.inv (Nat.le_refl _), ⟨hs.os.trans h.grown.os, hs.tape.trans h.grown.tape, hs.output.trans h.grown.output, Nat.le_trans h.grown.size hs.size, fun k hk hne => (hs.block k hk).trans (h.grown.block k hk hne)⟩⟩
theorem wound_next {w0 w w6 : World} {c n : Nat} {t b T B T' B' : List Int} {I : List (List Int × List Int × Nat) → World → Prop} {done : List (List Int × List Int × Nat)} {x y : Value} (hall : done ++ windAll T B = windAll t b) (hE : windAll T B = (T', B', n) :: windAll T' B') (hw : weedB T' B' = true) (hbx : Box2 58 w w0.heap.size x y) (hr1 : Rd w x T') (hr2 : Rd w y B') (hg : w0.grownBy w (some c)) (hc : c < w0.heap.size) (hI : I (done ++ [(T', B', n)]) w6) (hK : Keeps c w w6) (hn1 : NotIn c x T') (hn2 : NotIn c y B') :
    Wound w0 c w0.heap.size t b I T' B' (done ++ [(T', B', n)]) x y w6 :=
  ⟨hw, hK.box hbx (by omega), hK.2 _ _ hn1 hr1, hK.2 _ _ hn2 hr2, by rw [List.append_assoc]; simpa [hE] using hall, hI, grown_trans hg hK.1, hn1, hn2⟩



end Go.Proofs.Ytgaaddfipkdlaaa
