/- Seaweeds made out of parts; IsSeaweed; FlipSeaweed. -/
import Derived.Test.YtgaaddfipkdlaaaWeedRun
namespace Go.Proofs.Ytgaaddfipkdlaaa
open Go.RowKit
set_option linter.unusedSimpArgs false
set_option linter.unusedVariables false

theorem Rd.form {w : World} {v : Value} {l : List Int} (h : Rd w v l) : ∃ a c, v = .slice a l.length c ∧ l.length ≤ c ∧ c ≤ maxLen := by
  obtain ⟨a, c, rfl, h1, h2, _⟩ := h; exact ⟨a, c, rfl, h1, h2⟩

set_option maxHeartbeats 1000000 in
theorem partsList_any (v : Value) (l : List Int) (w : World) (h : Rd w v l) (hl : l.length ≤ 1000000) : Calls Try.prog 104 #[v] w (Made w l) := by
  have H := Lib.hid h
  obtain ⟨a, c, rfl, h1, h2⟩ := Rd.form h
  obtain ⟨n, hn⟩ : ∃ n, n = l.length := ⟨_, rfl⟩
  rw [← hn] at H h1 hl ⊢
  have HN := Lib.hid hn; clear hn h
  unfold maxLen at h2
  go_enter Try.func104, Try.ntmps104
  go_wp2_with (first
    | (at_make; refine wp_make _ rfl _ _ rfl n _ _ rfl rfl rfl rfl (by omega) ?_; intro w1 hown hbel hsz)
    | ((with_reducible refine wp_copyT 56 _ rfl (.tmp 7) (.tmp 8) rfl w.heap.size w.heap.size n n (.slice a n c) (List.replicate n 0) l rfl rfl hown (H.out.below hbel) HN.out.symm ?_); intro w2 x hown2 hgr hbel2))
  go_ret
  exact ⟨_, rfl, hown2, hbel.trans hbel2⟩


/-! IsSeaweed -/
def ok_IsSeaweed (t b : List Int) : Bool := weedB t b
set_option maxHeartbeats 1000000 in
theorem impl_IsSeaweed (t b : List Int) (w : World) (u1 u2 : Value) (h1 : Rd w u1 t) (h2 : Rd w u2 b) (m1 : t.length ≤ 1048576) (m2 : b.length ≤ 1048576) :
    Calls Try.prog 48 #[.agg #[u1, u2]] w (GivesB w (ok_IsSeaweed t b)) := by
  unfold ok_IsSeaweed
  have hA := Box2.new 29 w u1 u2
  have B1 : Below w.heap.size w (w.alloc (.cells #[u1, u2] 29)) := Below.alloc1 w _
  have k0 := hA.c0; have k1 := hA.c1
  have HB := Lib.hid B1
  have g1 := h1.below B1; have g2 := h2.below B1
  obtain ⟨a1, n1, rfl, _⟩ := h1
  obtain ⟨a2, n2, rfl, _⟩ := h2
  cases e : weedB t b with
  | true =>
    have HR := Lib.hid (readWeed_yes t b _ _ _ g1 g2 e)
    clear hA B1 e g1 g2 m1 m2
    generalize t.length = l1 at *
    generalize b.length = l2 at *
    go_enter Try.func48, Try.ntmps48
    go_wp2_with fail
    refine HR.out.mono ?_
    rintro e w1 ⟨rfl, hb1⟩
    have HB1 := Lib.hid (Below.step HB.out hb1); clear hb1
    go_wp2
    go_ret
    exact ⟨rfl, Below.step HB1.out (Below.alloc1 _ _)⟩
  | false =>
    have HR := Lib.hid (readWeed_no t b _ _ _ g1 g2 e)
    clear hA B1 e g1 g2 m1 m2
    generalize t.length = l1 at *
    generalize b.length = l2 at *
    go_enter Try.func48, Try.ntmps48
    go_wp2_with fail
    refine HR.out.mono ?_
    rintro e w1 ⟨rfl, hb1⟩
    have HB1 := Lib.hid (Below.step HB.out hb1); clear hb1
    go_wp2
    go_ret
    exact ⟨rfl, Below.step HB1.out (Below.alloc1 _ _)⟩
end Go.Proofs.Ytgaaddfipkdlaaa
