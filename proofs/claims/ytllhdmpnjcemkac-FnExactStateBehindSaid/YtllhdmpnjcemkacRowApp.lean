/- A row of a slice of slices that is appended to in its place. -/
import Derived.Test.YtllhdmpnjcemkacLists
namespace Go.Proofs.Ytllhdmpnjcemkac
open Go.RowKit
set_option linter.unusedSimpArgs false
set_option linter.unusedVariables false

/-- 'append(v, x)' for one number, and where the row lies behind it -/
theorem wp_appendW {ops : Array Oper} {rest : List Oper} {o : Oper} {a : Act} {Q : Exit → Act → World → Prop} (w : World)
    (hg : o.guard = none) (s x : Operand) (hop : o.op = Op.call { callee := Callee.builtin Builtin.append, args := #[s, x], argTypes := #[22, 22] })
    (B g : Nat) (v : Value) (xs : List Int) (y : Int) (hs : a.eval s = v) (hx : a.eval x = .slice (some ⟨g, 0, none⟩) 1 1) (hc : w.cell? ⟨g, 0, none⟩ = some (.int .i64 y)) (hown : Own B w v xs) (hlen : xs.length + 1 ≤ 1000000000) (hB : B ≤ w.heap.size)
    (hK : ∀ v' w', Own B w' v' (xs ++ [y]) → w.grownBy w' v.ownBlock → Below B w w' → (∀ k, v'.ownBlock = some k → v.ownBlock = some k ∨ w.heap.size ≤ k) → wpList Try.prog ops Q rest (a.put o.dst v') w') :
    wpList Try.prog ops Q (o :: rest) a w := by
  obtain ⟨i0, hi0, hz0, hz1, hz2⟩ := info_parts Try.info3
  have hnews : ∀ j u, ([.int .i64 y] : List Value)[j]? = some u → w.cell? ((⟨g, 0, none⟩ : Addr).add j) = some u := by
    intro j z hj
    have : j = 0 := by
      have := (List.getElem?_eq_some_iff.1 hj).1
      simp at this; exact this
    subst this
    simp at hj; subst hj
    exact hc
  have hones : ∀ u ∈ ([.int .i64 y] : List Value), u.oneCell' = true := fun u hu => by simp at hu; rw [hu]; rfl
  obtain ⟨v', w', hr, h1, h2, _⟩ := run_append_own (P := Try.prog) w B 22 o.type 3 i0 (.int .i64 0) 1 8 Try.underlying22 hi0 hz0 hz1 hz2 rfl (by decide) v xs.length (ints xs) hown ⟨g, 0, none⟩ 1 1 [.int .i64 y] rfl hnews hones (by unfold maxLen; omega) (by omega) hB
  have h3 := append_where w B 22 o.type 3 i0 (.int .i64 0) 1 8 Try.underlying22 hi0 hz0 hz1 hz2 rfl (by decide) v xs.length (ints xs) hown ⟨g, 0, none⟩ 1 1 [.int .i64 y] rfl hnews hones (by unfold maxLen; omega) (by omega) hB v' w' hr
  refine wpList_plain hg fun _ hK' => ?_
  unfold Oper.wp execOp
  simp only [hop, resolve, invoke, builtin, Sem.run_bind, Sem.run_pure, Result.andThen_ok, List.map_toArray, List.map_cons, List.map_nil, hs, hx, hr]
  refine hK' _ _ (hK v' w' ?_ h2 (below_grown h2 hB fun k hk => (hown.lt k hk).1) h3)
  unfold Own ints
  rw [List.length_append, List.map_append]
  exact h1

/-- behind an append to row i the header still lies as it did -/
theorem OwnLL.rowHead {lo hi g n c i : Nat} {w w1 w2 : World} {vs : List Value} {ls : List (List Int)} (h : OwnLL lo hi w (.slice (some ⟨g, 0, none⟩) n c) vs ls) (hi : i < ls.length)
    (hb1 : Below w.heap.size w w1) (hg : w1.grownBy w2 (rowV vs i).ownBlock) : (∀ j, j < ls.length → w2.cell? ⟨g, j, none⟩ = some (rowV vs j)) ∧ ∀ j, w2.frozen? ⟨g, j, none⟩ = false := by
  have h1 := h.below hb1
  have e : n = ls.length := by
    rcases h.row.2 with ⟨hv, _⟩ | ⟨g', cap, cur, hv, _⟩
    · cases hv
    · simp at hv; exact hv.2.1
  subst e
  have hrow2 : w2.ownsRow lo 22 1 (.slice (some ⟨g, 0, none⟩) ls.length c) ls.length vs := World.ownsRow.kept h1.row hg (by
    refine .inr fun e' => ?_
    exact own_apart (h1.own i hi) h1.row g e'.symm rfl)
  refine ⟨fun j hj => ?_, fun j => World.ownsRow.frozenAt hrow2 j⟩
  rw [World.ownsRow.cellAt hrow2 j (by omega)]
  simp [rowV, List.getD, List.getElem?_eq_getElem (show j < vs.length by rw [h.len]; exact hj)]

/-- row i grown by an append, and stored back -/
theorem OwnLL.rowApp {lo hi g n c i : Nat} {w w1 w2 : World} {p' : Value} {vs : List Value} {ls : List (List Int)} {l : List Int} (h : OwnLL lo hi w (.slice (some ⟨g, 0, none⟩) n c) vs ls) (hlo : lo ≤ w.heap.size) (hi : i < ls.length)
    (hb1 : Below w.heap.size w w1) (hp : Own lo w2 p' l) (hg : w1.grownBy w2 (rowV vs i).ownBlock) (hw : ∀ k, p'.ownBlock = some k → (rowV vs i).ownBlock = some k ∨ w1.heap.size ≤ k) :
    OwnLL lo w2.heap.size (w2.setCell ⟨g, i, none⟩ p') (.slice (some ⟨g, 0, none⟩) n c) (vs.set i p') (ls.set i l) := by
  have h1 := h.below hb1
  have e : n = ls.length := by
    rcases h.row.2 with ⟨hv, _⟩ | ⟨g', cap, cur, hv, _⟩
    · cases hv
    · simp at hv; exact hv.2.1
  subst e
  have hlen := h.len
  have hsz := hg.size
  have hs1 := hb1.size
  have hends := h1.ends
  have hpi := h1.own i hi
  -- the header's row is kept by the append
  have hrow2 : w2.ownsRow lo 22 1 (.slice (some ⟨g, 0, none⟩) ls.length c) ls.length vs := World.ownsRow.kept h1.row hg (by
    refine .inr fun e' => ?_
    exact own_apart hpi h1.row g e'.symm rfl)
  have hst := World.ownsRow.stored hrow2 i p'
  have ko2 : ∀ j, j < ls.length → i ≠ j → Own lo w2 (rowV vs j) (ls.getD j []) := fun j hj hne => World.ownsRow.kept (h1.own j hj) hg (by
    cases e : (rowV vs j).ownBlock with
    | none => exact .inl rfl
    | some k => exact .inr fun e' => h1.apart j i hj hi (Ne.symm hne) k e e'.symm)
  have ko3 : ∀ u m B, Own B w2 u m → Own B (w2.setCell ⟨g, i, none⟩ p') u m := fun u m B hu => World.ownsRow.kept hu hst.2 (by
    cases e : u.ownBlock with
    | none => exact .inl rfl
    | some k => exact .inr fun e' => own_apart hu hrow2 k e e'.symm)
  have hin : ∀ k, p'.ownBlock = some k → lo ≤ k ∧ k < w2.heap.size := fun k hk => hp.lt k hk
  refine ⟨by simp, by simp [h.len], by simpa using hst.1, fun j hj => ?_, fun k hk => ?_, fun j hj k hk => ?_, fun j j' hj hj' hne k hk hk' => ?_⟩
  · rw [List.length_set] at hj
    by_cases e : i = j
    · subst e
      rw [rowV_set_eq (by omega), getD_setL_eq hi]; exact ko3 _ _ _ hp
    · rw [rowV_set_ne e, getD_setL_ne e]; exact ko3 _ _ _ (ko2 j hj e)
  · have := h.inn k hk; have := h.ends; omega
  · rw [List.length_set] at hj
    by_cases e : i = j
    · subst e
      rw [rowV_set_eq (by omega)] at hk
      exact hin k hk
    · rw [rowV_set_ne e] at hk
      have := h.inr j hj k hk; have := h.ends; omega
  · rw [List.length_set] at hj hj'
    have far : ∀ m, m < ls.length → i ≠ m → ∀ k, p'.ownBlock = some k → (rowV vs m).ownBlock ≠ some k := by
      intro m hm hne k hk hk'
      rcases hw k hk with h5 | h5
      · exact h.apart i m hi hm hne k h5 hk'
      · have := h.inr m hm k hk'; have := h.ends; omega
    by_cases e : i = j
    · subst e
      rw [rowV_set_eq (by omega)] at hk
      rw [rowV_set_ne hne] at hk'
      exact far j' hj' hne k hk hk'
    · rw [rowV_set_ne e] at hk
      by_cases e2 : i = j'
      · subst e2
        rw [rowV_set_eq (by omega)] at hk'
        exact far j hj e k hk' hk
      · rw [rowV_set_ne e2] at hk'
        exact h.apart j j' hj hj' hne k hk hk'

end Go.Proofs.Ytllhdmpnjcemkac
