/- meClosing: the model's list of the systems that make k curves with a system. -/
import Derived.Test.YtodbjkfikbkkbacAhAll
import Derived.Test.YtodbjkfikbkkbacComps
namespace Go.Proofs.Ytodbjkfikbkkbac
open Go.RowKit
set_option linter.unusedSimpArgs false
set_option linter.unusedVariables false

theorem rows_good : (List.range 7).all (fun n => (allL n).all (fun q => goodB q && decide (q.length = 2 * n))) = true := by kernel_rfl
theorem allL_good {n k : Nat} (hn : n ≤ 6) (hk : k < (allL n).length) : goodB ((allL n).getD k []) = true ∧ ((allL n).getD k []).length = 2 * n := by
  have h1 := List.all_eq_true.1 rows_good n (List.mem_range.2 (by omega))
  have h2 := List.all_eq_true.1 h1 ((allL n).getD k []) (by simp [List.getD, hk])
  simpa using h2

def closeB (t : List Int) (c : Int) (q : List Int) : Bool := ((compsL t q : Nat) : Int) == c
def closeL (t : List Int) (c : Int) : List (List Int) := (allL (t.length / 2)).filter (closeB t c)
theorem filter_take_succ (p : List Int → Bool) (L : List (List Int)) (k : Nat) (h : k < L.length) : (L.take (k + 1)).filter p = (L.take k).filter p ++ (if p (L.getD k []) then [L.getD k []] else []) := by
  rw [List.take_add_one, List.filter_append]
  congr 1
  simp [List.getElem?_eq_getElem h, List.getD, List.filter_cons]

/-- a row put behind others that it shares no memory with -/
theorem OwnLL.snocS {lo hi : Nat} {w w' : World} {v v' p : Value} {vs : List Value} {ls : List (List Int)} {l : List Int} (h : OwnLL lo hi w v vs ls) (hp : Own lo w p l)
    (ap : ∀ i, i < ls.length → ∀ k, p.ownBlock = some k → (rowV vs i).ownBlock ≠ some k)
    (hr : w'.ownsRow lo 22 1 v' (ls.length + 1) (vs ++ [p])) (hg : w.grownBy w' v.ownBlock) : OwnLL lo w'.heap.size w' v' (vs ++ [p]) (ls ++ [l]) := by
  have ko : ∀ u m B, Own B w u m → Own B w' u m := fun u m B hu => World.ownsRow.kept hu hg (by
    cases e : u.ownBlock with
    | none => exact .inl rfl
    | some k => exact .inr fun e' => own_apart hu h.row k e e'.symm)
  have hsz := hg.size
  have hlen := h.len
  refine ⟨Nat.le_refl _, by simp [h.len], by simpa using hr, fun i hi => ?_, fun k hk => hr.lt k hk, fun i hi k hk => ?_, fun i j hi hj hne k hk hk' => ?_⟩
  · rw [List.length_append] at hi
    by_cases e : i < ls.length
    · rw [rowV_snoc_lt (by omega), getD_snoc_lt e]; exact ko _ _ _ (h.own i e)
    · obtain rfl : i = ls.length := by simp at hi; omega
      rw [getD_snoc_eq, ← hlen, rowV_snoc_eq]; exact ko _ _ _ hp
  · rw [List.length_append] at hi
    by_cases e : i < ls.length
    · rw [rowV_snoc_lt (by omega)] at hk
      have := h.inr i e k hk; have := h.ends; omega
    · obtain rfl : i = ls.length := by simp at hi; omega
      rw [← hlen, rowV_snoc_eq] at hk
      have := hp.lt k hk; omega
  · rw [List.length_append] at hi hj
    by_cases e : i < ls.length
    · rw [rowV_snoc_lt (by omega)] at hk
      by_cases e2 : j < ls.length
      · rw [rowV_snoc_lt (by omega)] at hk'
        exact h.apart i j e e2 hne k hk hk'
      · obtain rfl : j = ls.length := by simp at hj; omega
        rw [← hlen, rowV_snoc_eq] at hk'
        exact ap i e k hk' hk
    · obtain rfl : i = ls.length := by simp at hi; omega
      rw [← hlen, rowV_snoc_eq] at hk
      have e2 : j < ls.length := by simp at hj; omega
      rw [rowV_snoc_lt (by omega)] at hk'
      exact ap j e2 k hk hk'

theorem wp_appendLS {ops : Array Oper} {rest : List Oper} {o : Oper} {a : Act} {Q : Exit → Act → World → Prop} (w : World)
    (hg : o.guard = none) (s x : Operand) (hop : o.op = Op.call { callee := Callee.builtin Builtin.append, args := #[s, x], argTypes := #[28, 28] })
    (lo hi g : Nat) (v p : Value) (vs : List Value) (ls : List (List Int)) (l : List Int) (hs : a.eval s = v) (hx : a.eval x = .slice (some ⟨g, 0, none⟩) 1 1) (hc : w.cell? ⟨g, 0, none⟩ = some p)
    (hown : OwnLL lo hi w v vs ls) (hp : Own lo w p l) (ap : ∀ i, i < ls.length → ∀ k, p.ownBlock = some k → (rowV vs i).ownBlock ≠ some k) (hlen : ls.length ≤ 1000000000) (hB : lo ≤ w.heap.size)
    (hK : ∀ v' w', OwnLL lo w'.heap.size w' v' (vs ++ [p]) (ls ++ [l]) → w.grownBy w' v.ownBlock → Below lo w w' → (∀ k, v'.ownBlock = some k → v.ownBlock = some k ∨ w.heap.size ≤ k) → wpList Try.prog ops Q rest (a.put o.dst v') w') :
    wpList Try.prog ops Q (o :: rest) a w := by
  obtain ⟨i0, hi0, hz0, hz1, hz2⟩ := info_parts Try.info22
  have hone : p.oneCell' = true := by
    rcases hp.2 with ⟨rfl, _⟩ | ⟨g, cap, cur, rfl, _⟩ <;> rfl
  have hnews : ∀ j u, ([p] : List Value)[j]? = some u → w.cell? ((⟨g, 0, none⟩ : Addr).add j) = some u := by
    intro j y hj
    have : j = 0 := by
      have := (List.getElem?_eq_some_iff.1 hj).1
      simp at this; exact this
    subst this
    simp at hj; subst hj
    exact hc
  have hones : ∀ u ∈ ([p] : List Value), u.oneCell' = true := fun u hu => by simp at hu; rw [hu]; exact hone
  obtain ⟨v', w', hr, h1, h2, _⟩ := run_append_own (P := Try.prog) w lo 28 o.type 22 i0 (.slice none 0 0) 1 24 Try.underlying28 hi0 hz0 hz1 hz2 rfl (by decide) v ls.length vs hown.row ⟨g, 0, none⟩ 1 1 [p] rfl hnews hones (by unfold maxLen; omega) (by omega) hB
  have h3 := append_where w lo 28 o.type 22 i0 (.slice none 0 0) 1 24 Try.underlying28 hi0 hz0 hz1 hz2 rfl (by decide) v ls.length vs hown.row ⟨g, 0, none⟩ 1 1 [p] rfl hnews hones (by unfold maxLen; omega) (by omega) hB v' w' hr
  refine wpList_plain hg fun _ hK' => ?_
  unfold Oper.wp execOp
  simp only [hop, resolve, invoke, builtin, Sem.run_bind, Sem.run_pure, Result.andThen_ok, List.map_toArray, List.map_cons, List.map_nil, hs, hx, hr]
  exact hK' _ _ (hK v' w' (hown.snocS hp ap h1 h2) h2 (below_grown h2 hB fun k hk => (hown.inn k hk).1) h3)


end Go.Proofs.Ytodbjkfikbkkbac
