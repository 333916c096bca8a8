/- readStack; slices.Index and slices.Contains on ints. -/
import Derived.Test.YtodbjkfikbkkbacStk
import Derived.Test.YtodbjkfikbkkbacRead
namespace Go.Proofs.Ytodbjkfikbkkbac
open Go.RowKit
set_option linter.unusedSimpArgs false
set_option linter.unusedVariables false

def idxI (l : List Int) (x : Int) : Int := if x ∈ l then (l.idxOf x : Int) else -1
theorem idxI_no {l : List Int} {x : Int} (h : x ∉ l) : idxI l x = -1 := if_neg h
theorem idxI_yes {l : List Int} {x : Int} (h : x ∈ l) : idxI l x = (l.idxOf x : Int) := if_pos h
theorem idxI_at {l : List Int} {x : Int} {k : Nat} (hk : k < l.length) (h0 : x ∉ l.take k) (e : l.getD k 0 = x) : idxI l x = (k : Int) := by
  have e' : l[k] = x := by rw [← e]; simp [List.getD, hk]
  have hm : x ∈ l := by rw [← e']; exact List.getElem_mem hk
  rw [idxI_yes hm]
  congr 1
  have hs : l = l.take k ++ l.drop k := (List.take_append_drop k l).symm
  rw [hs, List.idxOf_append, if_neg h0, List.length_take, Nat.min_eq_left (by omega), List.drop_eq_getElem_cons hk, e', List.idxOf_cons_self]
  omega
theorem take_no {l : List Int} {x : Int} {k : Nat} (hk : k < l.length) (h0 : x ∉ l.take k) (e : l.getD k 0 ≠ x) : x ∉ l.take (k + 1) := by
  rw [List.take_succ_eq_append_getElem hk]
  intro hm
  rcases List.mem_append.1 hm with h | h
  · exact h0 h
  · simp at h
    exact e (by rw [h]; simp [List.getD, hk])

def IdxOut (w : World) (l : List Int) (x : Int) (e : Ending) (w' : World) : Prop := e = .returned (.int .i64 (idxI l x)) ∧ w = w'
def HasOut (w : World) (b : Bool) (e : Ending) (w' : World) : Prop := e = .returned (.bool b) ∧ w = w'

theorem run_loadStk (w : World) (g : Nat) (l : List Int) (hl : l.length ≤ 8) (hg : StkIn w g l) : (loadVar 64 ⟨g, 0, none⟩).run Try.prog w = .ok (.agg (stkC l)) w :=
  run_loadVar_row w g _ _ (stkC l) _ _ hg Try.underlying64 rfl (by rw [stk_info, stkC_size hl])

def keepIf (R : Bool) (l : List Int) : List Int := if R then l else []
theorem keepIf_yes (l : List Int) : keepIf true l = l := rfl
theorem keepIf_no (l : List Int) : keepIf false l = [] := rfl
def StkOut (w : World) (l : List Int) (b : Bool) (e : Ending) (w' : World) : Prop := e = .returned (.tuple #[.agg (stkC l), .bool b]) ∧ Below w.heap.size w w'

/-- the array filled from the list -/
theorem splice_stk (l : List Int) (hl : l.length ≤ 8) (n : Nat) (hn : n = l.length) : splice [.int .i64 0, .int .i64 0, .int .i64 0, .int .i64 0, .int .i64 0, .int .i64 0, .int .i64 0, .int .i64 0, .int .i64 (n : Int)] 0 (ints l) = stkL l := by
  subst hn
  show splice (ints (List.replicate 8 0) ++ [.int .i64 (l.length : Int)]) 0 (ints l) = stkL l
  unfold splice stkL ints
  have e : List.replicate 8 (0 : Int) = List.replicate l.length 0 ++ List.replicate (8 - l.length) 0 := by
    rw [List.replicate_append_replicate]; congr 1; omega
  rw [e, List.map_append, List.map_append, List.map_replicate, List.append_assoc, List.length_map, Nat.zero_add, List.drop_left' (by simp)]
  simp

theorem stk0_of {w w1 : World} (h : Below (w.heap.size + 1) (w.alloc (.cells #[.int .i64 0, .int .i64 0, .int .i64 0, .int .i64 0, .int .i64 0, .int .i64 0, .int .i64 0, .int .i64 0, .int .i64 0] 64)) w1) : StkIn w1 w.heap.size [] :=
  StkIn.under (show StkIn (w.alloc (.cells (stkC []) 64)) w.heap.size [] from heap_alloc_new w _) h (Nat.lt_succ_self _)

theorem read_below1 {w w1 w3 : World} {A : Obj} (h1 : Below (w.heap.size + 1) (w.alloc A) w1) (h3 : w1.grownBy w3 (some w.heap.size)) : Below w.heap.size w w3 := by
  have hs : w.heap.size ≤ w1.heap.size := by have := h1.size; simp at this; omega
  exact ((Below.alloc1 w A).trans (h1.mono (Nat.le_succ _))).grown h3 (by omega) (by intro k hk; simp at hk; omega)

/-- 's, ok := readStack(p)': the stack is stored into a variable that has just been laid -/
theorem wp_storeNewStk {ops : Array Oper} {rest : List Oper} {o : Oper} {a : Act} {Q : Exit → Act → World → Prop} (hgd : o.guard = none) (x y : Operand) (ho : o.op = .store 64 x y)
    (w : World) (l : List Int) (hl : l.length ≤ 8) (hx : a.eval x = .pointer (some ⟨w.heap.size, 0, none⟩)) (hy : a.eval y = .agg (stkC l))
    (h : ∀ w', StkIn w' w.heap.size l → Below w.heap.size w w' → wpList Try.prog ops Q rest (a.put o.dst undef) w') : wpList Try.prog ops Q (o :: rest) a (w.alloc (.cells #[.int .i64 0, .int .i64 0, .int .i64 0, .int .i64 0, .int .i64 0, .int .i64 0, .int .i64 0, .int .i64 0, .int .i64 0] 64)) := by
  refine wp_storeStk hgd x y ho w.heap.size l [] hl (by simp) hx hy (show StkIn (w.alloc (.cells (stkC []) 64)) w.heap.size [] from heap_alloc_new w _) ?_
  intro w' hs hg
  exact h w' hs ((Below.alloc1 w _).grown hg (by simp) (by intro k hk; simp at hk; omega))

end Go.Proofs.Ytodbjkfikbkkbac
