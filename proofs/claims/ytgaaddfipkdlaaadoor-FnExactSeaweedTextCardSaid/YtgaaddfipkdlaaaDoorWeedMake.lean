/- Seaweeds made out of parts; IsSeaweed; FlipSeaweed. -/
import Derived.Test.YtgaaddfipkdlaaaDoorWeedRun
namespace Go.Proofs.YtgaaddfipkdlaaaDoor
open Go.RowKit
set_option linter.unusedSimpArgs false
set_option linter.unusedVariables false

theorem Rd.form {w : World} {v : Value} {l : List Int} (h : Rd w v l) : ∃ a c, v = .slice a l.length c ∧ l.length ≤ c ∧ c ≤ maxLen := by
  obtain ⟨a, c, rfl, h1, h2, _⟩ := h; exact ⟨a, c, rfl, h1, h2⟩



/-! IsSeaweed -/
def ok_IsSeaweed (t b : List Int) : Bool := weedB t b
set_option maxHeartbeats 1000000 in
theorem impl_IsSeaweed (t b : List Int) (w : World) (u1 u2 : Value) (h1 : Rd w u1 t) (h2 : Rd w u2 b) (m1 : t.length ≤ 1048576) (m2 : b.length ≤ 1048576) :
    Calls Tryd.prog 35 #[.agg #[u1, u2]] w (GivesB w (ok_IsSeaweed t b)) := by
  unfold ok_IsSeaweed
  have hA := Box2.new 29 w u1 u2
  have B1 : Below w.heap.size w (w.alloc (.cells #[u1, u2] 29)) := Below.alloc1 w _
  have k0 := hA.c0; have k1 := hA.c1
  have HB := Lib.hid B1
  have g1 := h1.below B1; have g2 := h2.below B1
  obtain ⟨a1, n1, rfl, _⟩ := h1
  obtain ⟨a2, n2, rfl, _⟩ := h2
  cases e : weedB t b with
  | true =>
    have HR := Lib.hid (readWeed_yes t b _ _ _ g1 g2 e)
    clear hA B1 e g1 g2 m1 m2
    generalize t.length = l1 at *
    generalize b.length = l2 at *
    go_enter Tryd.func35, Tryd.ntmps35
    go_wp2_with fail
    refine HR.out.mono ?_
    rintro e w1 ⟨rfl, hb1⟩
    have HB1 := Lib.hid (Below.step HB.out hb1); clear hb1
    go_wp2
    go_ret
    exact ⟨rfl, Below.step HB1.out (Below.alloc1 _ _)⟩
  | false =>
    have HR := Lib.hid (readWeed_no t b _ _ _ g1 g2 e)
    clear hA B1 e g1 g2 m1 m2
    generalize t.length = l1 at *
    generalize b.length = l2 at *
    go_enter Tryd.func35, Tryd.ntmps35
    go_wp2_with fail
    refine HR.out.mono ?_
    rintro e w1 ⟨rfl, hb1⟩
    have HB1 := Lib.hid (Below.step HB.out hb1); clear hb1
    go_wp2
    go_ret
    exact ⟨rfl, Below.step HB1.out (Below.alloc1 _ _)⟩
end Go.Proofs.YtgaaddfipkdlaaaDoor
