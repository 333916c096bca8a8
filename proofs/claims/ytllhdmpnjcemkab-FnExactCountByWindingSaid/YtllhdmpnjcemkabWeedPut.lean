/- A first part replaced by others: the program's way. -/
import Derived.Test.YtllhdmpnjcemkabWeedFlip
import Derived.Test.YtllhdmpnjcemkabConcatP
namespace Go.Proofs.Ytllhdmpnjcemkab
open Go.RowKit
set_option linter.unusedSimpArgs false
set_option linter.unusedVariables false

set_option maxHeartbeats 1000000 in
theorem firstReplaced_any (u s : Value) (l xs : List Int) (w : World) (h : Rd w u l) (hs : Rd w s xs) (h0 : 0 < l.length) (hl : l.length ≤ 1000) (hx : xs.length ≤ 1000) :
    Calls Try.prog 112 #[u, s] w (Made w (xs ++ l.tail)) := by
  obtain ⟨b, off, c, rfl, hlc, hcm, hcell⟩ := h.at h0
  obtain ⟨n, hn⟩ : ∃ n, l.length = n + 1 := ⟨l.length - 1, by omega⟩
  have ht := Rd.tail hn hlc hcm hcell
  have HS := Lib.hid hs
  obtain ⟨sa, sc, rfl, _⟩ := hs
  rw [hn] at hlc ⊢
  unfold maxLen at hcm
  have hb := Box2.new 49 w (.slice sa xs.length sc) (.slice (if c = 1 then some ⟨b, off, none⟩ else some ⟨b, off + 1, none⟩) n (c - 1))
  have hc := concatP_any _ _ _ xs l.tail _ hb.c0 hb.c1 (HS.out.below (Below.alloc1 _ _)) (ht.below (Below.alloc1 _ _)) hx (by rw [List.length_tail]; omega)
  have HC := Lib.hid hc
  clear hc hb ht hcell HS h
  generalize xs.length = m at *
  go_enter Try.func112, Try.ntmps112
  go_wp2_with (go_at_call 62; ((with_reducible refine HC.out.mono ?_); rintro e w1 ⟨v1, rfl, ho1, hb1⟩))
  all_goals
    go_ret
    exact ⟨_, rfl, ho1.mono (by simp), Below.step (Below.alloc1 w _) hb1⟩
end Go.Proofs.Ytllhdmpnjcemkab
