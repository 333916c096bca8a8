/- meandersAmong: the pairs of a list that are meanders. -/
import Derived.Test.YtogjclmmjdhfeabCountC
import Derived.Great.BuildSlice
namespace Go.Proofs.Ytogjclmmjdhfeab
open Go.RowKit
set_option linter.unusedSimpArgs false
set_option linter.unusedVariables false

theorem OwnP.grown {B : Nat} {w w' : World} {v : Value} {ps : List (List Int × List Int)} {row : Option Nat} (h : OwnP B w v ps) (hg : w.grownBy w' row) (hne : ∀ k, v.ownBlock = some k → row ≠ some k) : OwnP B w' v ps :=
  World.ownsRow.kept h hg (by
    cases e : v.ownBlock with
    | none => exact .inl rfl
    | some k => exact .inr fun e' => hne k e e'.symm)

/-- pairs put behind others -/
theorem wp_appendPs {ops : Array Oper} {rest : List Oper} {o : Oper} {a : Act} {Q : Exit → Act → World → Prop} (w : World)
    (hg : o.guard = none) (s x : Operand) (hop : o.op = Op.call { callee := Callee.builtin Builtin.append, args := #[s, x], argTypes := #[165, 165] })
    (B g m c : Nat) (v : Value) (ps qs : List (List Int × List Int)) (hs : a.eval s = v) (hx : a.eval x = .slice (some ⟨g, 0, none⟩) m c) (hm : m = qs.length) (hc : ∀ j, j < qs.length * 26 → w.cell? ⟨g, j, none⟩ = (pairsC qs)[j]?)
    (hown : OwnP B w v ps) (hlen : ps.length + qs.length ≤ 1000000) (hB : B ≤ w.heap.size)
    (hK : ∀ v' w', OwnP B w' v' (ps ++ qs) → w.grownBy w' v.ownBlock → Below B w w' → (∀ k, v'.ownBlock = some k → v.ownBlock = some k ∨ w.heap.size ≤ k) → wpList Try.prog ops Q rest (a.put o.dst v') w') :
    wpList Try.prog ops Q (o :: rest) a w := by
  obtain ⟨i0, hi0, hz0, hz1, hz2⟩ := info_parts pair_zero26
  have hnews : ∀ j u, (pairsC qs)[j]? = some u → w.cell? ((⟨g, 0, none⟩ : Addr).add j) = some u := by
    intro j u hj
    have hlt : j < qs.length * 26 := by have := (List.getElem?_eq_some_iff.1 hj).1; rwa [pairsC_length] at this
    rw [Addr.add_mid, Nat.zero_add, hc j hlt]
    exact hj
  obtain ⟨v', w', hr, h1, h2, _⟩ := run_append_own (P := Try.prog) w B 165 o.type 102 i0 _ 26 208 Try.underlying165 hi0 hz0 hz1 hz2 rfl (by decide) v ps.length (pairsC ps) hown ⟨g, 0, none⟩ m c (pairsC qs) (by rw [pairsC_length, hm]) hnews (pairsC_one qs) (by unfold maxLen; omega) (by omega) hB
  have h3 := append_where w B 165 o.type 102 i0 _ 26 208 Try.underlying165 hi0 hz0 hz1 hz2 rfl (by decide) v ps.length (pairsC ps) hown ⟨g, 0, none⟩ m c (pairsC qs) (by rw [pairsC_length, hm]) hnews (pairsC_one qs) (by unfold maxLen; omega) (by omega) hB v' w' hr
  refine wpList_plain hg fun _ hK' => ?_
  unfold Oper.wp execOp
  simp only [hop, resolve, invoke, builtin, Sem.run_bind, Sem.run_pure, Result.andThen_ok, List.map_toArray, List.map_cons, List.map_nil, hs, hx, hr]
  have hown' : OwnP B w' v' (ps ++ qs) := by
    unfold OwnP
    rw [List.length_append, pairsC_append, ← hm]
    exact h1
  exact hK' _ _ (hK v' w' hown' h2 (below_grown h2 hB fun k hk => (hown.lt k hk).1) h3)

theorem fill_pair (t b : List Int) : Instr.fill (fun i => some (i * 26, 26)) ((Array.range (1 * 26)).map ((Value.agg #[.int .i64 0, .int .i64 0, .int .i64 0, .int .i64 0, .int .i64 0, .int .i64 0, .int .i64 0, .int .i64 0, .int .i64 0, .int .i64 0, .int .i64 0, .int .i64 0, .int .i64 0, .int .i64 0, .int .i64 0, .int .i64 0, .int .i64 0, .int .i64 0, .int .i64 0, .int .i64 0, .int .i64 0, .int .i64 0, .int .i64 0, .int .i64 0, .int .i64 0, .int .i64 0]).cells[· % 26]!)) [(0, .agg (pairC t b))] = some (pairC t b) := by kernel_rfl

/-- '[]pair{p}' -/
theorem wp_buildP1 {ops : Array Oper} {rest : List Oper} {o : Oper} {a : Act} {Q : Exit → Act → World → Prop} (w : World)
    (hg : o.guard = none) (x : Operand) (hop : o.op = Op.buildSlice 165 1 #[(0, x)]) (t b : List Int) (hx : a.eval x = .agg (pairC t b))
    (h : wpList Try.prog ops Q rest (a.put o.dst (.slice (some ⟨w.heap.size, 0, none⟩) 1 1)) (w.alloc (.cells (pairC t b) 102))) : wpList Try.prog ops Q (o :: rest) a w := by
  obtain ⟨i0, hi0, hz0, hz1, hz2⟩ := info_parts pair_zero26
  refine wpList_buildSlice hg 165 102 1 #[(0, x)] hop (pairC t b) i0 _ Try.underlying165 hi0 hz0 (by rw [hz1]; omega) (by rw [hz1]; omega) ?_ h
  rw [hz1]
  simp only [List.map_toArray, List.map_cons, List.map_nil, hx]
  exact fill_pair t b
theorem built_cells (w : World) (t b : List Int) (j : Nat) (hj : j < 26) : (w.alloc (.cells (pairC t b) 102)).cell? ⟨w.heap.size, j, none⟩ = (pairsC [(t, b)])[j]? := by
  rw [cell_of_row _ _ j _ _ _ (heap_alloc_new w _)]
  simp [pairsC]

def isOne (p : List Int × List Int) : Bool := decide (compsL p.1 p.2 = 1)
def amongL (ps : List (List Int × List Int)) : List (List Int × List Int) := ps.filter isOne
theorem filterP_take_succ (f : List Int × List Int → Bool) (L : List (List Int × List Int)) (k : Nat) (h : k < L.length) : (L.take (k + 1)).filter f = (L.take k).filter f ++ (if f (L.getD k ([], [])) then [L.getD k ([], [])] else []) := by
  rw [List.take_add_one, List.filter_append]
  congr 1
  simp [List.getElem?_eq_getElem h, List.getD, List.filter_cons]


end Go.Proofs.Ytogjclmmjdhfeab
