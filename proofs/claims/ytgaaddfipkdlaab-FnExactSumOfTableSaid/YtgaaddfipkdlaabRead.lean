/- readSystem. -/
import Derived.Test.YtgaaddfipkdlaabSys
namespace Go.Proofs.Ytgaaddfipkdlaab
open Go.RowKit
set_option linter.unusedSimpArgs false
set_option linter.unusedVariables false

/-- readSystem gives the system, or the empty one and no -/
def ReadOut (w : World) (l : List Int) (b : Bool) (e : Ending) (w' : World) : Prop := e = .returned (.tuple #[.agg (sysC l), .bool b]) ∧ Below w.heap.size w w'


theorem run_loadSys (w : World) (g : Nat) (l : List Int) (hl : l.length ≤ 12) (hg : SysIn w g l) : (loadVar 50 ⟨g, 0, none⟩).run Try.prog w = .ok (.agg (sysC l)) w :=
  run_loadVar_row w g _ _ (sysC l) _ _ hg Try.underlying50 rfl (by rw [sys_info, sysC_size hl])

/-- the array filled from the list -/
theorem splice_sys (l : List Int) (hl : l.length ≤ 12) (n : Nat) (hn : n = l.length) : splice [.int .i64 0, .int .i64 0, .int .i64 0, .int .i64 0, .int .i64 0, .int .i64 0, .int .i64 0, .int .i64 0, .int .i64 0, .int .i64 0, .int .i64 0, .int .i64 0, .int .i64 (n : Int)] 0 (ints l) = sysL l := by
  subst hn
  show splice (ints (List.replicate 12 0) ++ [.int .i64 (l.length : Int)]) 0 (ints l) = sysL l
  unfold splice sysL ints
  have e : List.replicate 12 (0 : Int) = List.replicate l.length 0 ++ List.replicate (12 - l.length) 0 := by
    rw [List.replicate_append_replicate]; congr 1; omega
  rw [e, List.map_append, List.map_append, List.map_replicate, List.append_assoc, List.length_map, Nat.zero_add, List.drop_left' (by simp)]
  simp

theorem cell_two {w : World} {a : Addr} {v : Value} (A B : Obj) (h : w.cell? a = some v) : ((w.alloc A).alloc B).cell? a = some v := by
  have hb : Below w.heap.size w ((w.alloc A).alloc B) := (Below.alloc1 w A).alloc (by simp) _
  exact (hb.cell (World.block_lt_of_cell? w _ h)).trans h

theorem sys0_of {w w1 : World} (h : Below (w.heap.size + 1) (w.alloc (.cells #[.int .i64 0, .int .i64 0, .int .i64 0, .int .i64 0, .int .i64 0, .int .i64 0, .int .i64 0, .int .i64 0, .int .i64 0, .int .i64 0, .int .i64 0, .int .i64 0, .int .i64 0] 50)) w1) : SysIn w1 w.heap.size [] :=
  SysIn.under (show SysIn (w.alloc (.cells (sysC []) 50)) w.heap.size [] from heap_alloc_new w _) h (Nat.lt_succ_self _)

theorem below_two (w : World) (A B : Obj) : Below (w.heap.size + 1) (w.alloc A) ((w.alloc A).alloc B) := (Below.refl _ _).alloc (by simp) _

theorem read_below {w w1 w2 w3 : World} {A : Obj} (h1 : Below (w.heap.size + 1) (w.alloc A) w1) (h2 : Below w1.heap.size w1 w2) (h3 : w2.grownBy w3 (some w.heap.size)) : Below w.heap.size w w3 := by
  have hs : w.heap.size ≤ w1.heap.size := by have := h1.size; simp at this; omega
  exact (((Below.alloc1 w A).trans (h1.mono (Nat.le_succ _))).trans (h2.mono hs)).grown h3 (by have := h2.size; omega) (by intro k hk; simp at hk; omega)

/-- 's, ok := readSystem(p)': the system is stored into a variable that has just been laid -/
theorem wp_storeNew {ops : Array Oper} {rest : List Oper} {o : Oper} {a : Act} {Q : Exit → Act → World → Prop} (hgd : o.guard = none) (x y : Operand) (ho : o.op = .store 50 x y)
    (w : World) (l : List Int) (hl : l.length ≤ 12) (hx : a.eval x = .pointer (some ⟨w.heap.size, 0, none⟩)) (hy : a.eval y = .agg (sysC l))
    (h : ∀ w', SysIn w' w.heap.size l → Below w.heap.size w w' → wpList Try.prog ops Q rest (a.put o.dst undef) w') : wpList Try.prog ops Q (o :: rest) a (w.alloc (.cells #[.int .i64 0, .int .i64 0, .int .i64 0, .int .i64 0, .int .i64 0, .int .i64 0, .int .i64 0, .int .i64 0, .int .i64 0, .int .i64 0, .int .i64 0, .int .i64 0, .int .i64 0] 50)) := by
  refine wp_storeSys hgd x y ho w.heap.size l [] hl (by simp) hx hy (show SysIn (w.alloc (.cells (sysC []) 50)) w.heap.size [] from heap_alloc_new w _) ?_
  intro w' hs hg
  exact h w' hs ((Below.alloc1 w _).grown hg (by simp) (by intro k hk; simp at hk; omega))

theorem good_len {l : List Int} (h : goodB l = true) : l.length ≤ 12 := (good_facts h).2.1

end Go.Proofs.Ytgaaddfipkdlaab
