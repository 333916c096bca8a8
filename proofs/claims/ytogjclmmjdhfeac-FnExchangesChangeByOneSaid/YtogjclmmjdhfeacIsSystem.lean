/- IsSystem: the contracts of both. -/
import Derived.Test.YtogjclmmjdhfeacOwn
import Derived.Test.YtogjclmmjdhfeacGood
import Derived.Test.YtogjclmmjdhfeacRead
namespace Go.Proofs.Ytogjclmmjdhfeac
open Go.RowKit
set_option linter.unusedSimpArgs false
set_option linter.unusedVariables false

def ok_IsSystem (l : List Int) : Bool := goodB l

set_option maxHeartbeats 400000 in
theorem impl_IsSystem (l : List Int) (w : World) (u : Value) (h : Rd w u l) (m : l.length ≤ 1048576) : Calls Try.prog 34 #[u] w (GivesB w (ok_IsSystem l)) := by
  unfold ok_IsSystem
  cases hg : goodB l with
  | true =>
    have hl : Hid (l.length ≤ 12) := good_len hg
    have HG := Lib.hid hg; clear hg
    go_enter Try.func34, Try.ntmps34
    go_wp2_with fail
    refine (readSystem_yes u l _ h HG.out).mono ?_
    rintro e w1 ⟨rfl, hb⟩
    go_wp2_with ((with_reducible refine wp_storeNew rfl (.tmp 3) (.tmp 8) rfl _ l hl.out rfl rfl ?_); intro w2 hs2 hb2)
    go_ret
    exact ⟨rfl, Below.step hb hb2⟩
  | false =>
    have HG := Lib.hid hg; clear hg
    go_enter Try.func34, Try.ntmps34
    go_wp2_with fail
    refine (readSystem_no u l _ h HG.out).mono ?_
    rintro e w1 ⟨rfl, hb⟩
    go_wp2_with ((with_reducible refine wp_storeNew rfl (.tmp 3) (.tmp 8) rfl _ [] (Nat.zero_le _) rfl rfl ?_); intro w2 hs2 hb2)
    go_ret
    exact ⟨rfl, Below.step hb hb2⟩

end Go.Proofs.Ytogjclmmjdhfeac
