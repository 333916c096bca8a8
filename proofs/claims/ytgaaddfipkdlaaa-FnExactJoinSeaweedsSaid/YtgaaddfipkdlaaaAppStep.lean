/- 'append' of numbers at a step of a region that draws its order. -/
import Derived.Test.YtgaaddfipkdlaaaShift
import Derived.Laws.AppendOwnNone
import Derived.Deep.RegionHeld3
namespace Go.Proofs.Ytgaaddfipkdlaaa
open Go.RowKit
set_option linter.unusedSimpArgs false
set_option linter.unusedVariables false

theorem run_appendI (w : World) (ty : TypeId) (B : Nat) (v u : Value) (xs ys : List Int) (hown : Own B w v xs) (hrd : Rd w u ys) (hlen : xs.length + ys.length ≤ 1000000000) (hB : B ≤ w.heap.size) :
    ∃ v' w', (Builtin.append_ #[22, 22] ty #[v, u]).run Try.prog w = .ok v' w' ∧ Own B w' v' (xs ++ ys) ∧ w.grownBy w' v.ownBlock ∧ Below B w w' := by
  obtain ⟨i0, hi, hz0, hz1, hz2⟩ := info_parts Try.info3
  obtain ⟨ad, c, rfl, hlc, hcm, hn, hc⟩ := hrd
  cases ad with
  | none =>
    obtain rfl := hn rfl
    have hy : ys = [] := List.eq_nil_of_length_eq_zero (by omega)
    subst hy
    have hrun := run_append_owned_none (P := Try.prog) (w := w) B 22 ty 3 i0 1 Try.underlying22 hi v xs.length (ints xs) hown
    exact ⟨v, w, hrun, by simpa using hown, World.grownBy.refl _ _, Below.refl _ _⟩
  | some x0 =>
    obtain ⟨v', w', hr, h2, h3, _⟩ := run_append_own (P := Try.prog) w B 22 ty 3 i0 (.int .i64 0) 1 8 Try.underlying22 hi hz0 hz1 hz2 rfl (by decide) v xs.length (ints xs) hown x0 ys.length c (ints ys) (by simp [ints]) (by
      intro j y hj
      rcases hc with rfl | ⟨b, off, h1, h2⟩
      · simp [ints] at hj
      · simp at h1
        subst h1
        have hjl : j < ys.length := by
          have := (List.getElem?_eq_some_iff.1 hj).1
          simpa [ints] using this
        rw [Addr.add_lit, h2 j hjl]
        simp [ints, List.getElem?_eq_getElem hjl] at hj
        simp [List.getD, List.getElem?_eq_getElem hjl, hj]) (ints_oneCell _ _) (by unfold maxLen; omega) (by omega) hB
    refine ⟨v', w', hr, ?_, h3, below_grown h3 hB fun k hk => (hown.lt k hk).1⟩
    unfold Own ints
    rw [List.length_append, List.map_append]
    exact h2

theorem step_appendI {ops : Array Oper} {o : Oper} {a : Act} {K : Act → World → Prop} {Q : Exit → Act → World → Prop} {E : Prop} (w : World) (hgd : o.guard = none) (s x : Operand)
    (ho : o.op = .call { callee := .builtin .append, args := #[s, x], argTypes := #[22, 22] })
    (B : Nat) (v u : Value) (xs ys : List Int) (hs : a.eval s = v) (hx : a.eval x = u) (hown : Own B w v xs) (hrd : Rd w u ys) (hlen : xs.length + ys.length ≤ 1000000000) (hB : B ≤ w.heap.size)
    (h : ∀ v' w', Own B w' v' (xs ++ ys) → w.grownBy w' v.ownBlock → Below B w w' → K (a.put o.dst v') w') :
    if Region.wanted o (yielded ops a.tmps) = true then Oper.wp Try.prog o a w K Q else E := by
  have hw : Region.wanted o (yielded ops a.tmps) = true := by simp [Region.wanted, hgd]
  rw [if_pos hw]
  obtain ⟨v', w', hr, h2, h3, h4⟩ := run_appendI w o.type B v u xs ys hown hrd hlen hB
  unfold Oper.wp execOp
  simp only [ho, resolve, invoke, builtin, Sem.run_bind, Sem.run_pure, Result.andThen_ok, List.map_toArray, List.map_cons, List.map_nil, hs, hx, hr]
  exact h v' w' h2 h3 h4

theorem Own.litD0 (B : Nat) (w : World) (hB : B ≤ w.heap.size) : Own B ((w.alloc (.cells #[] 3)).drew) (.slice (some ⟨w.heap.size, 0, none⟩) 0 0) [] := Own.lit0 B w hB
end Go.Proofs.Ytgaaddfipkdlaaa
