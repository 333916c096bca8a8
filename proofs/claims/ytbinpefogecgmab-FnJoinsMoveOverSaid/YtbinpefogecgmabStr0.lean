/- Slices of texts of the call's own; a digit turned into a text. -/
import Derived.Test.YtbinpefogecgmabOwn
namespace Go.Proofs.Ytbinpefogecgmab
open Go.RowKit
set_option linter.unusedSimpArgs false
set_option linter.unusedVariables false

/-- a slice of texts that the call made itself -/
def strs (l : List ByteArray) : List Value := l.map Value.string
def OwnSt (B : Nat) (w : World) (v : Value) (l : List ByteArray) : Prop := w.ownsRow B 9 1 v l.length (strs l)
theorem infoStr : (Try.prog.info? 9).map (fun i => (i.zero, i.size, i.bytes)) = some (some (.string ByteArray.empty), 1, 16) := by kernel_rfl
theorem OwnSt.nil (B : Nat) (w : World) : OwnSt B w (.slice none 0 0) [] := World.ownsRow_nil w B _ _
theorem OwnSt.below {B : Nat} {w w' : World} {v : Value} {l : List ByteArray} (h : OwnSt B w v l) (hb : Below w.heap.size w w') : OwnSt B w' v l := by
  refine ⟨h.1, ?_⟩
  rcases h.2 with hn | ⟨g, cap, cur, hv, hB, hg, rest⟩
  · exact .inl hn
  · exact .inr ⟨g, cap, cur, hv, hB, (hb.block g (Array.getElem?_eq_some_iff.1 hg).1).trans hg, rest⟩
theorem OwnSt.form {B : Nat} {w : World} {v : Value} {l : List ByteArray} (h : OwnSt B w v l) : ∃ a c, v = .slice a l.length c ∧ l.length ≤ c ∧ c ≤ maxLen ∧ (0 < l.length → ∃ g, a = some ⟨g, 0, none⟩ ∧ ∀ j, j < l.length → w.cell? ⟨g, j, none⟩ = some (.string (l.getD j ByteArray.empty))) := by
  have h0 := h
  rcases h.2 with ⟨rfl, hn⟩ | ⟨g, cap, cur, rfl, hB, hg, hnc, hcm, _⟩
  · exact ⟨none, 0, by rw [hn], by omega, by unfold maxLen; omega, fun h => by omega⟩
  · refine ⟨_, cap, rfl, hnc, hcm, fun _ => ⟨g, rfl, fun j hj => ?_⟩⟩
    rw [World.ownsRow.cellAt h0 j (by omega)]
    simp [strs, List.getD, List.getElem?_eq_getElem hj]
theorem wp_appendSt {ops : Array Oper} {rest : List Oper} {o : Oper} {a : Act} {Q : Exit → Act → World → Prop} (w : World)
    (hg : o.guard = none) (s x : Operand) (hop : o.op = Op.call { callee := Callee.builtin Builtin.append, args := #[s, x], argTypes := #[121, 121] })
    (B g : Nat) (v : Value) (xs : List ByteArray) (y : ByteArray) (hs : a.eval s = v) (hx : a.eval x = .slice (some ⟨g, 0, none⟩) 1 1) (hc : w.cell? ⟨g, 0, none⟩ = some (.string y)) (hown : OwnSt B w v xs) (hlen : xs.length + 1 ≤ 1000000000) (hB : B ≤ w.heap.size)
    (hK : ∀ v' w', OwnSt B w' v' (xs ++ [y]) → Below B w w' → wpList Try.prog ops Q rest (a.put o.dst v') w') :
    wpList Try.prog ops Q (o :: rest) a w := by
  obtain ⟨i0, hi0, hz0, hz1, hz2⟩ := info_parts infoStr
  have hnews : ∀ j u, ([.string y] : List Value)[j]? = some u → w.cell? ((⟨g, 0, none⟩ : Addr).add j) = some u := by
    intro j z hj
    have : j = 0 := by
      have := (List.getElem?_eq_some_iff.1 hj).1
      simp at this; exact this
    subst this
    simp at hj; subst hj
    exact hc
  have hones : ∀ u ∈ ([.string y] : List Value), u.oneCell' = true := fun u hu => by simp at hu; rw [hu]; rfl
  obtain ⟨v', w', hr, h1, h2, _⟩ := run_append_own (P := Try.prog) w B 121 o.type 9 i0 (.string ByteArray.empty) 1 16 Try.underlying121 hi0 hz0 hz1 hz2 rfl (by decide) v xs.length (strs xs) hown ⟨g, 0, none⟩ 1 1 [.string y] rfl hnews hones (by unfold maxLen; omega) (by omega) hB
  refine wpList_plain hg fun _ hK' => ?_
  unfold Oper.wp execOp
  simp only [hop, resolve, invoke, builtin, Sem.run_bind, Sem.run_pure, Result.andThen_ok, List.map_toArray, List.map_cons, List.map_nil, hs, hx, hr]
  refine hK' _ _ (hK v' w' ?_ (below_grown h2 hB fun k hk => (World.ownsRow.lt hown k hk).1))
  unfold OwnSt strs
  rw [List.length_append, List.map_append]
  exact h1
theorem cell_litS (w : World) (p : Value) (T : TypeId) : (w.alloc (.cells #[p] T)).cell? ⟨w.heap.size, 0, none⟩ = some p := by
  rw [cell_of_row _ _ _ _ _ _ (heap_alloc_new w (.cells #[p] T))]; rfl
end Go.Proofs.Ytbinpefogecgmab
