/- Seaweeds made out of parts; IsSeaweed; FlipSeaweed. -/
import Derived.Test.YtllhdmpnjcemkabWeedRun
namespace Go.Proofs.Ytllhdmpnjcemkab
open Go.RowKit
set_option linter.unusedSimpArgs false
set_option linter.unusedVariables false

theorem Rd.form {w : World} {v : Value} {l : List Int} (h : Rd w v l) : ∃ a c, v = .slice a l.length c ∧ l.length ≤ c ∧ c ≤ maxLen := by
  obtain ⟨a, c, rfl, h1, h2, _⟩ := h; exact ⟨a, c, rfl, h1, h2⟩

set_option maxHeartbeats 1000000 in
theorem partsList_any (v : Value) (l : List Int) (w : World) (h : Rd w v l) (hl : l.length ≤ 1000000) : Calls Try.prog 106 #[v] w (Made w l) := by
  have H := Lib.hid h
  obtain ⟨a, c, rfl, h1, h2⟩ := Rd.form h
  obtain ⟨n, hn⟩ : ∃ n, n = l.length := ⟨_, rfl⟩
  rw [← hn] at H h1 hl ⊢
  have HN := Lib.hid hn; clear hn h
  unfold maxLen at h2
  go_enter Try.func106, Try.ntmps106
  go_wp2_with (first
    | (at_make; refine wp_make _ rfl _ _ rfl n _ _ rfl rfl rfl rfl (by omega) ?_; intro w1 hown hbel hsz)
    | ((with_reducible refine wp_copyT 49 _ rfl (.tmp 7) (.tmp 8) rfl w.heap.size w.heap.size n n (.slice a n c) (List.replicate n 0) l rfl rfl hown (H.out.below hbel) HN.out.symm ?_); intro w2 x hown2 hgr hbel2))
  go_ret
  exact ⟨_, rfl, hown2, hbel.trans hbel2⟩


/-! IsSeaweed -/
def ok_IsSeaweed (t b : List Int) : Bool := weedB t b
end Go.Proofs.Ytllhdmpnjcemkab
