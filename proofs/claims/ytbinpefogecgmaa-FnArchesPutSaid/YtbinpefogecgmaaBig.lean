/- The laws' first test, and bytes that came in. -/
import Derived.Test.YtbinpefogecgmaaCur
namespace Go.Proofs.Ytbinpefogecgmaa
open Go.RowKit
set_option linter.unusedSimpArgs false
set_option linter.unusedVariables false

theorem rdY_nil (w : World) : RdY w (.slice none 0 0) [] := ⟨none, 0, rfl, Nat.le_refl _, by unfold maxLen; omega, .inl rfl⟩
theorem wf_u8 {n : Int} (h : (Lit.int .u8 n).wf = true) : 0 ≤ n ∧ n ≤ 255 := by
  simp [Lit.wf, IntKind.min, IntKind.max, IntKind.signed, IntKind.bits] at h
  omega
theorem rdY_row (w : World) (x : Addr) (l c : Nat) (zs : List Int) (hl : l ≤ c) (hm : c ≤ maxLen) (hz : zs.length = c) (hcell : ∀ i, i < zs.length → w.cell? (x.add i) = some (.int .u8 (zs.getD i 0))) (hwz : ∀ n ∈ zs, (Lit.int .u8 n).wf = true) :
    RdY w (.slice (some x) l c) (zs.take l) := by
  have hlen : (zs.take l).length = l := by rw [List.length_take]; omega
  refine ⟨some x, c, by rw [hlen], by omega, hm, ?_⟩
  by_cases h0 : l = 0
  · subst h0; exact .inl (by simp)
  · refine .inr ?_
    have hx := hcell 0 (by omega)
    have hs : x.spot = none := by
      simp only [Addr.add, if_true] at hx
      unfold World.cell? at hx
      cases hsp : x.spot with
      | none => rfl
      | some q =>
        rw [hsp] at hx
        split at hx <;> simp at hx
    obtain ⟨b, off, sp⟩ := x
    simp at hs
    subst hs
    refine ⟨b, off, rfl, fun k hk => ?_⟩
    rw [hlen] at hk
    have h2 := hcell k (by omega)
    rw [Addr.add_lit] at h2
    have e : (zs.take l).getD k 0 = zs.getD k 0 := by simp [List.getD, List.getElem?_take_of_lt hk]
    rw [e]
    refine ⟨h2, ?_⟩
    have hmem : zs.getD k 0 ∈ zs := by simp [List.getD, show k < zs.length by omega]
    exact wf_u8 (hwz _ hmem)
theorem big_any (a1 : Option Addr) (n1 c1 : Nat) (l1 : List Int) (a2 : Option Addr) (n2 c2 : Nat) (l2 : List Int) (w : World) (y1 : RdY w (.slice a1 n1 c1) l1) (y2 : RdY w (.slice a2 n2 c2) l2) :
    Calls Try.prog 7 #[.slice a1 n1 c1, .slice a2 n2 c2] w fun e w' => ∃ b : Bool, e = .returned (.bool b) ∧ w' = w := by
  have h1 : n1 ≤ 9223372036854775807 := by
    obtain ⟨a, c, e, h2, h3, _⟩ := y1
    simp only [Value.slice.injEq] at e
    unfold maxLen at h3; omega
  have h2 : n2 ≤ 9223372036854775807 := by
    obtain ⟨a, c, e, h2, h3, _⟩ := y2
    simp only [Value.slice.injEq] at e
    unfold maxLen at h3; omega
  clear y1 y2
  go_enter Try.func7, Try.ntmps7
  by_cases h : n1 ≤ 1048576
  · have hw : IntKind.i64.wrap (1048576 - (n1 : Int)) = 1048576 - (n1 : Int) := IntWalk.i64_in _ (by omega)
    go_wp2
    go_ret
    exact ⟨_, rfl, rfl⟩
  · go_wp2
    go_ret
    first | exact ⟨_, rfl, rfl⟩ | exact ⟨true, rfl, rfl⟩ | rfl | simp

end Go.Proofs.Ytbinpefogecgmaa
