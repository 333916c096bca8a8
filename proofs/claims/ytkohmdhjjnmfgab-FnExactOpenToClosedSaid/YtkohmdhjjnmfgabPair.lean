/- Pairs of systems: the program's and the model's. -/
import Derived.Test.YtkohmdhjjnmfgabRead
import Derived.Test.YtkohmdhjjnmfgabGood
import Derived.Test.YtkohmdhjjnmfgabMeander
namespace Go.Proofs.Ytkohmdhjjnmfgab
open Go.RowKit
set_option linter.unusedSimpArgs false
set_option linter.unusedVariables false

def pairOk (t b : List Int) : Bool := goodB t && goodB b && decide (t.length = b.length)

theorem mePair_any (t b : List Int) (w : World) (u1 u2 : Value) (h1 : Rd w u1 t) (h2 : Rd w u2 b) (m1 : t.length ≤ 1048576) (m2 : b.length ≤ 1048576) :
    Calls Try.prog 57 #[.agg #[u1, u2]] w (Tells w (pairOk t b)) := by
  have hg1 := fun w h => ahGood_any u1 t w h m1
  have hg2 := fun w h => ahGood_any u2 b w h m2
  have hA := Box2.new 28 w u1 u2
  have B1 : Below w.heap.size w (w.alloc (.cells #[u1, u2] 28)) := Below.alloc1 w _
  have k0 := hA.c0; have k1 := hA.c1
  have HA := Lib.hid hA; have HB := Lib.hid B1; have H1 := Lib.hid (h1.below B1); have H2 := Lib.hid (h2.below B1)
  unfold pairOk
  clear hA B1
  cases e1 : goodB t with
  | false =>
    simp only [e1] at hg1
    have HG1 := Lib.hid hg1
    clear hg1 hg2 h1 h2 e1
    go_enter Try.func57, Try.ntmps57
    go_wp2_with (go_at_call 81; ((with_reducible refine (HG1.out _ H1.out).mono ?_); rintro e w1 ⟨rfl, hb1⟩))
    go_ret
    exact ⟨rfl, Below.step HB.out hb1⟩
  | true =>
    simp only [e1] at hg1
    cases e2 : goodB b with
    | false =>
      simp only [e2] at hg2
      have HG1 := Lib.hid hg1; have HG2 := Lib.hid hg2
      clear hg1 hg2 h1 h2 e1 e2
      go_enter Try.func57, Try.ntmps57
      go_wp2_with (first
        | (go_at_call 81; ((with_reducible refine (HG1.out _ H1.out).mono ?_); rintro e w1 ⟨rfl, hb1⟩; have m1 := (HA.out.below hb1).c1))
        | (go_at_call 81; ((with_reducible refine (HG2.out _ (H2.out.below hb1)).mono ?_); rintro e w2 ⟨rfl, hb2⟩)))
      go_ret
      exact ⟨rfl, Below.step (Below.step HB.out hb1) hb2⟩
    | true =>
      simp only [e2] at hg2
      have HG1 := Lib.hid hg1; have HG2 := Lib.hid hg2
      obtain ⟨a1, c1, rfl, hlc1, hcm1, _, _⟩ := h1
      obtain ⟨a2, c2, rfl, hlc2, hcm2, _, _⟩ := h2
      unfold maxLen at hcm1 hcm2
      generalize t.length = n1 at *
      generalize b.length = n2 at *
      by_cases hn : n1 = n2
      · have hq : ((n1 : Int) == (n2 : Int)) = true := by simp; omega
        rw [decide_eq_true hn]
        clear hg1 hg2 e1 e2 hn
        go_enter Try.func57, Try.ntmps57
        go_wp2_with (first
          | (go_at_call 81; ((with_reducible refine (HG1.out _ H1.out).mono ?_); rintro e w1 ⟨rfl, hb1⟩; have m1 := (HA.out.below hb1).c1))
          | (go_at_call 81; ((with_reducible refine (HG2.out _ (H2.out.below hb1)).mono ?_); rintro e w2 ⟨rfl, hb2⟩; have r0 := ((HA.out.below hb1).below hb2).c0; have r1 := ((HA.out.below hb1).below hb2).c1)))
        go_ret
        exact ⟨rfl, Below.step (Below.step HB.out hb1) hb2⟩
      · have hq : ((n1 : Int) == (n2 : Int)) = false := by simp; omega
        rw [decide_eq_false hn]
        clear hg1 hg2 e1 e2 hn
        go_enter Try.func57, Try.ntmps57
        go_wp2_with (first
          | (go_at_call 81; ((with_reducible refine (HG1.out _ H1.out).mono ?_); rintro e w1 ⟨rfl, hb1⟩; have m1 := (HA.out.below hb1).c1))
          | (go_at_call 81; ((with_reducible refine (HG2.out _ (H2.out.below hb1)).mono ?_); rintro e w2 ⟨rfl, hb2⟩; have r0 := ((HA.out.below hb1).below hb2).c0; have r1 := ((HA.out.below hb1).below hb2).c1)))
        go_ret
        exact ⟨rfl, Below.step (Below.step HB.out hb1) hb2⟩

end Go.Proofs.Ytkohmdhjjnmfgab
