/- The program's readState: the region that decides. -/
import Derived.Test.YtnkkgbecdckigacReadState
namespace Go.Proofs.Ytnkkgbecdckigac
open Go.RowKit Go.Maps
set_option linter.unusedSimpArgs false
set_option linter.unusedVariables false

theorem FrIn.drew {w : World} {b : Nat} {u d : List Int} {c : Int} (h : FrIn w b u d c) : FrIn w.drew b u d c := h
theorem fr_start {W w' : World} {g : Nat} {u d : List Int} {c : Int} (hu : u.length ≤ 6) (hd : d.length ≤ 6) (h : FrIn w' g u d c) (hb : Below W.heap.size W w') : Hid (FrIn w' g u d c ∧ Below W.heap.size W w') ∧ w'.cell? ⟨g, 0, none⟩ = some (endV u 0) ∧ w'.cell? ⟨g, 1, none⟩ = some (endV u 1) ∧ w'.cell? ⟨g, 2, none⟩ = some (endV u 2) ∧ w'.cell? ⟨g, 3, none⟩ = some (endV u 3) ∧ w'.cell? ⟨g, 4, none⟩ = some (endV u 4) ∧ w'.cell? ⟨g, 5, none⟩ = some (endV u 5) ∧ w'.cell? ⟨g, 6, none⟩ = some (endV u 6) ∧ w'.cell? ⟨g, 7, none⟩ = some (endV d 0) ∧ w'.cell? ⟨g, 8, none⟩ = some (endV d 1) ∧ w'.cell? ⟨g, 9, none⟩ = some (endV d 2) ∧ w'.cell? ⟨g, 10, none⟩ = some (endV d 3) ∧ w'.cell? ⟨g, 11, none⟩ = some (endV d 4) ∧ w'.cell? ⟨g, 12, none⟩ = some (endV d 5) ∧ w'.cell? ⟨g, 13, none⟩ = some (endV d 6) ∧ w'.cell? ⟨g, 14, none⟩ = some (.int .i64 c) := ⟨⟨h, hb⟩, fr_cells hu hd h⟩
theorem fr_keep {W w' w2 : World} {g : Nat} {u d : List Int} {c : Int} (hu : u.length ≤ 6) (hd : d.length ≤ 6) (h : Hid (FrIn w' g u d c ∧ Below W.heap.size W w') ∧ w'.cell? ⟨g, 0, none⟩ = some (endV u 0) ∧ w'.cell? ⟨g, 1, none⟩ = some (endV u 1) ∧ w'.cell? ⟨g, 2, none⟩ = some (endV u 2) ∧ w'.cell? ⟨g, 3, none⟩ = some (endV u 3) ∧ w'.cell? ⟨g, 4, none⟩ = some (endV u 4) ∧ w'.cell? ⟨g, 5, none⟩ = some (endV u 5) ∧ w'.cell? ⟨g, 6, none⟩ = some (endV u 6) ∧ w'.cell? ⟨g, 7, none⟩ = some (endV d 0) ∧ w'.cell? ⟨g, 8, none⟩ = some (endV d 1) ∧ w'.cell? ⟨g, 9, none⟩ = some (endV d 2) ∧ w'.cell? ⟨g, 10, none⟩ = some (endV d 3) ∧ w'.cell? ⟨g, 11, none⟩ = some (endV d 4) ∧ w'.cell? ⟨g, 12, none⟩ = some (endV d 5) ∧ w'.cell? ⟨g, 13, none⟩ = some (endV d 6) ∧ w'.cell? ⟨g, 14, none⟩ = some (.int .i64 c)) (hb : Below w'.heap.size w' w2) : Hid (FrIn w2 g u d c ∧ Below W.heap.size W w2) ∧ w2.cell? ⟨g, 0, none⟩ = some (endV u 0) ∧ w2.cell? ⟨g, 1, none⟩ = some (endV u 1) ∧ w2.cell? ⟨g, 2, none⟩ = some (endV u 2) ∧ w2.cell? ⟨g, 3, none⟩ = some (endV u 3) ∧ w2.cell? ⟨g, 4, none⟩ = some (endV u 4) ∧ w2.cell? ⟨g, 5, none⟩ = some (endV u 5) ∧ w2.cell? ⟨g, 6, none⟩ = some (endV u 6) ∧ w2.cell? ⟨g, 7, none⟩ = some (endV d 0) ∧ w2.cell? ⟨g, 8, none⟩ = some (endV d 1) ∧ w2.cell? ⟨g, 9, none⟩ = some (endV d 2) ∧ w2.cell? ⟨g, 10, none⟩ = some (endV d 3) ∧ w2.cell? ⟨g, 11, none⟩ = some (endV d 4) ∧ w2.cell? ⟨g, 12, none⟩ = some (endV d 5) ∧ w2.cell? ⟨g, 13, none⟩ = some (endV d 6) ∧ w2.cell? ⟨g, 14, none⟩ = some (.int .i64 c) :=
  ⟨⟨h.1.out.1.below hb, Below.step h.1.out.2 hb⟩, fr_cells hu hd (h.1.out.1.below hb)⟩
theorem fr_out {W w' : World} {g : Nat} {u d : List Int} {c : Int} (h : Hid (FrIn w' g u d c ∧ Below W.heap.size W w') ∧ w'.cell? ⟨g, 0, none⟩ = some (endV u 0) ∧ w'.cell? ⟨g, 1, none⟩ = some (endV u 1) ∧ w'.cell? ⟨g, 2, none⟩ = some (endV u 2) ∧ w'.cell? ⟨g, 3, none⟩ = some (endV u 3) ∧ w'.cell? ⟨g, 4, none⟩ = some (endV u 4) ∧ w'.cell? ⟨g, 5, none⟩ = some (endV u 5) ∧ w'.cell? ⟨g, 6, none⟩ = some (endV u 6) ∧ w'.cell? ⟨g, 7, none⟩ = some (endV d 0) ∧ w'.cell? ⟨g, 8, none⟩ = some (endV d 1) ∧ w'.cell? ⟨g, 9, none⟩ = some (endV d 2) ∧ w'.cell? ⟨g, 10, none⟩ = some (endV d 3) ∧ w'.cell? ⟨g, 11, none⟩ = some (endV d 4) ∧ w'.cell? ⟨g, 12, none⟩ = some (endV d 5) ∧ w'.cell? ⟨g, 13, none⟩ = some (endV d 6) ∧ w'.cell? ⟨g, 14, none⟩ = some (.int .i64 c)) : FrIn w' g u d c ∧ Below W.heap.size W w' := h.1.out
theorem run_neqFr (w : World) (u d p q : List Int) (c e : Int) : (binOp .neq 66 (.agg #[endV u 0, endV u 1, endV u 2, endV u 3, endV u 4, endV u 5, endV u 6, endV d 0, endV d 1, endV d 2, endV d 3, endV d 4, endV d 5, endV d 6, .int .i64 c]) (.agg #[endV p 0, endV p 1, endV p 2, endV p 3, endV p 4, endV p 5, endV p 6, endV q 0, endV q 1, endV q 2, endV q 3, endV q 4, endV q 5, endV q 6, .int .i64 e])).run Try.prog w = .ok (.bool (!sameF u d c p q e)) w := by
  rw [run_neq_struct, run_equalFr]
  rfl
theorem run_neqG (w : World) (x y : Operand) (xs ys : Array Value) : (eqGuard .neq 66 x y (.agg xs) (.agg ys)).run Try.prog w = .ok () w :=
  run_eqGuard_agg (hm := by kernel_rfl) ..
theorem part12_of {u d : List Int} (h1 : u.length ≤ 6) (h2 : d.length ≤ 6) (e1 : renU u = u) (e2 : renD u d = d) : Part12 (roundL u d) := by
  intro k hk
  have hl := seenL_length (u ++ d) []
  simp only [List.length_append, List.length_nil] at hl
  have hm : (roundL u d).getD k 0 ∈ u ++ d := by
    rw [show (roundL u d).getD k 0 = (roundL u d)[k] by simp [List.getD, hk]]
    have := List.getElem_mem hk
    unfold roundL at this
    rw [List.mem_append, List.mem_reverse, ← List.mem_append] at this
    exact this
  have hb := ren_bd u d ((roundL u d).getD k 0) (by rw [e1, e2]; exact hm)
  exact ⟨((roundL u d).getD k 0).toNat, by omega, by omega⟩
end Go.Proofs.Ytnkkgbecdckigac
