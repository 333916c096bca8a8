/- 'copy' between slices of int of two types. -/
import Derived.Test.YtgaaddfipkdlaaaSlice
import Derived.Laws.CopyOwn
namespace Go.Proofs.Ytgaaddfipkdlaaa
open Go.RowKit
set_option linter.unusedSimpArgs false
set_option linter.unusedVariables false

theorem infoIntC : (Try.prog.info? 3).map (·.size) = some 1 := by kernel_rfl
/-- 'copy(v, u)': v the call's own, as long as u -/
theorem wp_copyT {ops : Array Oper} {rest : List Oper} {o : Oper} {a : Act} {Q : Exit → Act → World → Prop} (T2 : TypeId) (w : World)
    (hgd : o.guard = none) (d s : Operand) (hop : o.op = Op.call { callee := Callee.builtin Builtin.copy, args := #[d, s], argTypes := #[22, T2] })
    (B g n cap : Nat) (u : Value) (l0 l1 : List Int) (hd : a.eval d = .slice (some ⟨g, 0, none⟩) n cap) (hs : a.eval s = u) (hown : Own B w (.slice (some ⟨g, 0, none⟩) n cap) l0) (hrd : Rd w u l1) (hlen : l1.length = n)
    (hK : ∀ w' x, Own B w' (.slice (some ⟨g, 0, none⟩) n cap) l1 → w.grownBy w' (some g) → Below B w w' → wpList Try.prog ops Q rest (a.put o.dst x) w') :
    wpList Try.prog ops Q (o :: rest) a w := by
  obtain ⟨ad, c, rfl, hlc, hcm, hn, hc⟩ := hrd
  have hown0 := hown
  rcases hown.2 with ⟨h0, _⟩ | ⟨g', cap', cur, hv, hB, hg, hnc, hcm', hcs, htake⟩
  · cases h0
  · simp only [Value.slice.injEq, Option.some.injEq, Addr.mk.injEq, and_true, true_and] at hv
    obtain ⟨rfl, hn2, rfl⟩ := hv
    rw [Nat.mul_one] at hcs htake
    by_cases hz : n = 0
    · subst hz
      refine wpList_copy_nothing hgd d s 22 T2 hop 3 Try.underlying22 infoIntC _ _ 0 cap l1.length c hd hs (by rw [hlen]; rfl) ?_
      have e1 : l1 = [] := List.eq_nil_of_length_eq_zero hlen
      have e0 : l0 = [] := List.eq_nil_of_length_eq_zero hn2.symm
      subst e1; subst e0
      exact hK w _ hown0 (World.grownBy.refl _ _) (Below.refl _ _)
    · rcases hc with rfl | ⟨b, off, rfl, hcell⟩
      · simp at hlen; omega
      refine wpList_copy_own hgd d s 22 T2 hop 3 Try.underlying22 infoIntC g 0 n cap ⟨b, off, none⟩ l1.length c hd hs cur 3 hg (ints l1) (by rw [ints_length, hlen]; exact (Nat.min_self n).symm) ?_ (by rw [ints_length]; omega) (ints_one _) ?_
      · intro j v hj
        have hjl : j < l1.length := by
          have := (List.getElem?_eq_some_iff.1 hj).1
          simpa [ints] using this
        rw [Addr.add_lit, hcell j hjl]
        simp [ints, List.getElem?_eq_getElem hjl] at hj
        simp [List.getD, List.getElem?_eq_getElem hjl, hj]
      · have hgr : w.grownBy (w.setRow g (cur.toList.take 0 ++ (ints l1 ++ cur.toList.drop (0 + (ints l1).length))).toArray) (some g) :=
          ⟨rfl, rfl, rfl, by simp, fun k _ hk => setRow_other w g k _ (fun e => hk (by simp [e]))⟩
        refine hK _ _ ?_ hgr (below_grown hgr (by have := (Array.getElem?_eq_some_iff.1 hg).1; omega) (by intro k hk; simp at hk; omega))
        refine ⟨by simp [ints], .inr ⟨g, cap, _, by rw [hlen], hB, setRow_heap w g _ _ _ _ hg, by omega, hcm', ?_, ?_⟩⟩
        · simp [ints_length]; omega
        · simp [ints]


end Go.Proofs.Ytgaaddfipkdlaaa
