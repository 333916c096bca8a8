/- The laws' comparisons of rows and of pairs. -/
import Derived.Test.YtbinpefogecgmabShift
import Derived.Test.YtbinpefogecgmabListsLaw
import Derived.Test.YtbinpefogecgmabMeander
namespace Go.Proofs.Ytbinpefogecgmab
open Go.RowKit
set_option linter.unusedSimpArgs false
set_option linter.unusedVariables false

set_option maxHeartbeats 1000000 in
theorem sSamePair_yes (t b t' b' : List Int) (u1 u2 v1 v2 : Value) (w : World) (h1 : Rd w u1 t) (h2 : Rd w u2 b) (h3 : Rd w v1 t') (h4 : Rd w v2 b') (e1 : t = t') (e2 : b = b') :
    Calls Try.prog 15 #[.agg #[u1, u2], .agg #[v1, v2]] w (Tells w true) := by
  have B2 : Below w.heap.size w ((w.alloc (.cells #[u1, u2] 26)).alloc (.cells #[v1, v2] 26)) := Below.step (Below.alloc1 _ _) (Below.alloc1 _ _)
  have H1 := Lib.hid (sSame_yes u1 v1 t t' _ (h1.below B2) (h3.below B2) e1)
  have H2 := Lib.hid (fun w1 (hb : Below w.heap.size w w1) => sSame_yes u2 v2 b b' w1 (h2.below hb) (h4.below hb) e2)
  have HA := Lib.hid (Box2.below (Box2.new 26 w u1 u2) (Below.alloc1 _ (.cells #[v1, v2] 26)))
  have hB := Box2.new 26 (w.alloc (.cells #[u1, u2] 26)) v1 v2
  rw [World.size_alloc] at hB
  have HB := Lib.hid hB
  clear hB
  obtain ⟨a1, c1, rfl, _⟩ := h1
  obtain ⟨a2, c2, rfl, _⟩ := h2
  obtain ⟨a3, c3, rfl, _⟩ := h3
  obtain ⟨a4, c4, rfl, _⟩ := h4
  have HBB := Lib.hid B2
  clear e1 e2 B2
  have k0 := HA.out.c0; have k1 := HB.out.c0
  go_enter Try.func15, Try.ntmps15
  go_wp2_with fail
  refine H1.out.mono ?_
  rintro e w1 ⟨rfl, hb⟩
  have HB1 := Lib.hid (Below.step HBB.out hb)
  have k2 := (HA.out.below hb).c1; have k3 := (HB.out.below hb).c1
  clear hb k0 k1
  go_wp2_with fail
  refine (H2.out w1 HB1.out).mono ?_
  rintro e w2 ⟨rfl, hb⟩
  have HB2 := Lib.hid (Below.step HB1.out hb)
  clear hb
  go_wp2_with fail
  go_ret
  exact ⟨rfl, HB2.out⟩

end Go.Proofs.Ytbinpefogecgmab
