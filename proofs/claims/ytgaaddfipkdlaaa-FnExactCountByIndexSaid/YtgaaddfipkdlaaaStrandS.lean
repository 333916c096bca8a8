/- Slices of strands. -/
import Derived.Test.YtgaaddfipkdlaaaStrand
import Derived.Test.YtgaaddfipkdlaaaLists
import Derived.Test.YtgaaddfipkdlaaaOwn
import Derived.OwnWalk
import Derived.Deep.MidRow
import Derived.Great.BuildSlice
namespace Go.Proofs.Ytgaaddfipkdlaaa
open Go.RowKit
set_option linter.unusedSimpArgs false
set_option linter.unusedVariables false

/-- the cells of strands: the points' slice, its numbers, whether it is a path -/
def sdR (x : Value × List Int × Bool) : List Value := [x.1, .bool x.2.2]
def sdRs (xs : List (Value × List Int × Bool)) : List Value := xs.flatMap sdR
theorem sdRs_append (a b : List (Value × List Int × Bool)) : sdRs (a ++ b) = sdRs a ++ sdRs b := by simp [sdRs, List.flatMap_append]
theorem sdRs_length : ∀ xs : List (Value × List Int × Bool), (sdRs xs).length = xs.length * 2
  | [] => rfl
  | x :: xs => by
    have := sdRs_length xs
    simp only [sdRs, List.flatMap_cons, List.length_append, List.length_cons] at this ⊢
    rw [this]; simp [sdR]; omega
theorem sdRs_get : ∀ (xs : List (Value × List Int × Bool)) (k j : Nat) (h : k < xs.length), j < 2 → (sdRs xs)[k * 2 + j]? = (sdR xs[k])[j]?
  | [], k, j, h, _ => by simp at h
  | x :: xs, 0, j, _, hj => by
    simp only [sdRs, List.flatMap_cons, Nat.zero_mul, Nat.zero_add, List.getElem_cons_zero]
    rw [List.getElem?_append_left (by simpa [sdR] using hj)]
  | x :: xs, k + 1, j, h, hj => by
    have := sdRs_get xs k j (by simpa using h) hj
    simp only [sdRs, List.flatMap_cons, List.getElem_cons_succ] at this ⊢
    rw [List.getElem?_append_right (by simp [sdR]; omega)]
    simp only [sdR, List.length_cons, List.length_nil] at this ⊢
    rw [show (k + 1) * 2 + j - (0 + 1 + 1) = k * 2 + j by omega]
    exact this
theorem Own.oneC {B : Nat} {w : World} {v : Value} {l : List Int} (h : Own B w v l) : v.oneCell' = true := by
  rcases h.2 with ⟨rfl, _⟩ | ⟨g, cap, cur, rfl, _⟩ <;> rfl
def OwnSd (B C : Nat) (w : World) (v : Value) (xs : List (Value × List Int × Bool)) : Prop := w.ownsRow B 55 2 v xs.length (sdRs xs) ∧ ∀ x ∈ xs, Own C w x.1 x.2.1
theorem OwnSd.nil (B C : Nat) (w : World) : OwnSd B C w (.slice none 0 0) [] := ⟨World.ownsRow_nil w B _ _, by simp⟩
theorem OwnSd.below {B C : Nat} {w w' : World} {v : Value} {xs : List (Value × List Int × Bool)} (h : OwnSd B C w v xs) (hb : Below w.heap.size w w') : OwnSd B C w' v xs := by
  refine ⟨⟨h.1.1, ?_⟩, fun x hx => (h.2 x hx).below hb⟩
  rcases h.1.2 with hn | ⟨g, cap, cur, hv, hB, hg, rest⟩
  · exact .inl hn
  · exact .inr ⟨g, cap, cur, hv, hB, (hb.block g (Array.getElem?_eq_some_iff.1 hg).1).trans hg, rest⟩
theorem OwnSd.mono {B B' C : Nat} {w : World} {v : Value} {xs : List (Value × List Int × Bool)} (h : OwnSd B C w v xs) (hb : B' ≤ B) : OwnSd B' C w v xs := by
  refine ⟨⟨h.1.1, ?_⟩, h.2⟩
  rcases h.1.2 with hn | ⟨g, cap, cur, hv, hB, rest⟩
  · exact .inl hn
  · exact .inr ⟨g, cap, cur, hv, by omega, rest⟩
theorem OwnSd.form {B C : Nat} {w : World} {v : Value} {xs : List (Value × List Int × Bool)} (h : OwnSd B C w v xs) : ∃ a c, v = .slice a xs.length c ∧ xs.length ≤ c ∧ c ≤ maxLen := by
  rcases h.1.2 with ⟨rfl, hn⟩ | ⟨g, cap, cur, hv, hB, hg, hnc, hcm, _⟩
  · exact ⟨none, 0, by rw [hn], by omega, by unfold maxLen; omega⟩
  · exact ⟨_, cap, hv, hnc, hcm⟩
theorem OwnSd.at {B C n c : Nat} {a : Option Addr} {w : World} {xs : List (Value × List Int × Bool)} (h : OwnSd B C w (.slice a n c) xs) (hl : 0 < xs.length) :
    ∃ g, a = some ⟨g, 0, none⟩ ∧ n = xs.length ∧ (∀ k (hk : k < xs.length), w.rangeAt g (k * 2) (sdR xs[k])) := by
  have h1 := h.1
  rcases h.1.2 with ⟨_, hn⟩ | ⟨g, cap, cur, hv, hB, hg, hnc, hcm, _⟩
  · omega
  · have hn : n = xs.length := by simp at hv; exact hv.2.1
    have ha : a = some ⟨g, 0, none⟩ := by simp at hv; exact hv.1
    have hc : c = cap := by simp at hv; exact hv.2.2
    subst ha; subst hc; subst hn
    have ca := fun j hj => World.ownsRow.cellAt h1 j hj
    refine ⟨g, rfl, rfl, fun k hk j v hj => ?_⟩
    have hjC : j < 2 := by have := (List.getElem?_eq_some_iff.1 hj).1; simpa [sdR] using this
    have : k * 2 + j < xs.length * 2 := by omega
    rw [ca _ this, sdRs_get xs k j hk hjC]
    exact hj
/-- points lie in no row of strands -/
theorem sd_apart {B B' : Nat} {w : World} {v p : Value} {n : Nat} {R : List Value} {l : List Int} (h : w.ownsRow B 55 2 v n R) (hp : Own B' w p l) : ∀ k, p.ownBlock = some k → v.ownBlock ≠ some k := by
  intro k hk e
  rcases hp.2 with ⟨rfl, _⟩ | ⟨g, cap, cur, rfl, _, hg, _⟩
  · simp [Value.ownBlock] at hk
  rcases h.2 with ⟨rfl, _⟩ | ⟨g2, cap2, cur2, rfl, _, hg2, _⟩
  · simp [Value.ownBlock] at e
  have e1 : g = k := by simpa [Value.ownBlock] using hk
  have e2 : g2 = k := by simpa [Value.ownBlock] using e
  subst e1; subst e2
  rw [hg] at hg2
  simp at hg2
def MadeSd (w : World) (ls : List (List Int × Bool)) (e : Ending) (w' : World) : Prop := ∃ v xs, e = .returned v ∧ OwnSd w.heap.size w.heap.size w' v xs ∧ xs.map (·.2) = ls ∧ Below w.heap.size w w'

theorem boxSd_load {ops : Array Oper} {rest : List Oper} {o : Oper} {a : Act} {w : World} {Q : Exit → Act → World → Prop} (hgd : o.guard = none) (x : Operand) (ho : o.op = .load 55 x)
    (g off : Nat) (p : Value) (b : Bool) (hx : a.eval x = .pointer (some ⟨g, off, none⟩)) (hg : w.rangeAt g off [p, .bool b])
    (h : wpList Try.prog ops Q rest (a.put o.dst (.agg #[p, .bool b])) w) : wpList Try.prog ops Q (o :: rest) a w :=
  wpList_load_mid hgd _ x ho g off hx [p, .bool b] _ hg Try.underlying55 rfl (by rw [strand_info]; rfl) h
theorem sdS_zero : (Try.prog.info? 55).map (fun i => (i.zero, i.size, i.bytes)) = some (some (.agg #[.slice none 0 0, .bool false]), 2, 32) := by kernel_rfl
/-- one put behind others -/
theorem wp_appendSd {ops : Array Oper} {rest : List Oper} {o : Oper} {a : Act} {Q : Exit → Act → World → Prop} (w : World)
    (hg : o.guard = none) (s x : Operand) (hop : o.op = Op.call { callee := Callee.builtin Builtin.append, args := #[s, x], argTypes := #[74, 74] })
    (B C g : Nat) (v p : Value) (l : List Int) (b : Bool) (xs : List (Value × List Int × Bool)) (hs : a.eval s = v) (hx : a.eval x = .slice (some ⟨g, 0, none⟩) 1 1) (hc0 : w.cell? ⟨g, 0, none⟩ = some p) (hc1 : w.cell? ⟨g, 1, none⟩ = some (.bool b))
    (hown : OwnSd B C w v xs) (hp : Own C w p l) (hlen : xs.length ≤ 1000000) (hB : B ≤ w.heap.size)
    (hK : ∀ v' w', OwnSd B C w' v' (xs ++ [(p, l, b)]) → Below B w w' → wpList Try.prog ops Q rest (a.put o.dst v') w') :
    wpList Try.prog ops Q (o :: rest) a w := by
  obtain ⟨i0, hi0, hz0, hz1, hz2⟩ := info_parts sdS_zero
  have hnews : ∀ j u, (sdRs [(p, l, b)])[j]? = some u → w.cell? ((⟨g, 0, none⟩ : Addr).add j) = some u := by
    intro j u hj
    have hlt : j < 2 := by have := (List.getElem?_eq_some_iff.1 hj).1; rwa [sdRs_length] at this
    rw [Addr.add_mid, Nat.zero_add]
    rcases (show j = 0 ∨ j = 1 by omega) with rfl | rfl
    · rw [hc0]; simpa [sdRs, sdR] using hj
    · rw [hc1]; simpa [sdRs, sdR] using hj
  have hones : ∀ u ∈ sdRs [(p, l, b)], u.oneCell' = true := by
    intro u hu
    simp [sdRs, sdR] at hu
    rcases hu with rfl | rfl
    · exact hp.oneC
    · rfl
  obtain ⟨v', w', hr, h1, h2, _⟩ := run_append_own (P := Try.prog) w B 74 o.type 55 i0 _ 2 32 Try.underlying74 hi0 hz0 hz1 hz2 rfl (by decide) v xs.length (sdRs xs) hown.1 ⟨g, 0, none⟩ 1 1 (sdRs [(p, l, b)]) (by rw [sdRs_length]; rfl) hnews hones (by unfold maxLen; omega) (by omega) hB
  refine wpList_plain hg fun _ hK' => ?_
  unfold Oper.wp execOp
  simp only [hop, resolve, invoke, builtin, Sem.run_bind, Sem.run_pure, Result.andThen_ok, List.map_toArray, List.map_cons, List.map_nil, hs, hx, hr]
  have hown' : OwnSd B C w' v' (xs ++ [(p, l, b)]) := by
    refine ⟨by rw [List.length_append, sdRs_append]; exact h1, fun x hx => ?_⟩
    rcases List.mem_append.1 hx with hx | hx
    · exact (hown.2 x hx).grown h2 (fun k hk => sd_apart hown.1 (hown.2 x hx) k hk)
    · simp at hx; subst hx
      exact hp.grown h2 (fun k hk => sd_apart hown.1 hp k hk)
  exact hK' _ _ (hK v' w' hown' (below_grown h2 hB fun k hk => (World.ownsRow.lt hown.1 k hk).1))
end Go.Proofs.Ytgaaddfipkdlaaa
