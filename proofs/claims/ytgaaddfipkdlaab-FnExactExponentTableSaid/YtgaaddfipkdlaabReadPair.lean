/- Pairs of systems: the program's and the model's. -/
/- readPair: two systems in a struct. -/
import Derived.Test.YtgaaddfipkdlaabRead
import Derived.Test.YtgaaddfipkdlaabGood
import Derived.Test.YtgaaddfipkdlaabMeander
import Derived.Test.YtgaaddfipkdlaabJoin
namespace Go.Proofs.Ytgaaddfipkdlaab
open Go.RowKit
set_option linter.unusedSimpArgs false
set_option linter.unusedVariables false

def pairOk (t b : List Int) : Bool := goodB t && goodB b && decide (t.length = b.length)
theorem pairOk_facts {t b : List Int} (h : pairOk t b = true) : goodB t = true ∧ goodB b = true ∧ t.length = b.length := by
  simp only [pairOk, Bool.and_eq_true, decide_eq_true_eq] at h
  exact ⟨h.1.1, h.1.2, h.2⟩


end Go.Proofs.Ytgaaddfipkdlaab

namespace Go.Proofs.Ytgaaddfipkdlaab
open Go.RowKit
set_option linter.unusedSimpArgs false
set_option linter.unusedVariables false

def pairC (t b : List Int) : Array Value := #[sysV t 0, sysV t 1, sysV t 2, sysV t 3, sysV t 4, sysV t 5, sysV t 6, sysV t 7, sysV t 8, sysV t 9, sysV t 10, sysV t 11, sysV t 12, sysV b 0, sysV b 1, sysV b 2, sysV b 3, sysV b 4, sysV b 5, sysV b 6, sysV b 7, sysV b 8, sysV b 9, sysV b 10, sysV b 11, sysV b 12]
theorem pairC_size (t b : List Int) : (pairC t b).size = 26 := rfl
theorem pair_info : (Try.prog.info? 52).map (·.size) = some 26 := by kernel_rfl
theorem sysV_one (l : List Int) (i : Nat) : (sysV l i).oneCell' = true := by unfold sysV; split <;> rfl
theorem pairC_one (t b : List Int) : (pairC t b).all (·.oneCell') = true := by
  simp [pairC, sysV_one]
def PairIn (w : World) (g : Nat) (t b : List Int) : Prop := w.heap[g]? = some (.cells (pairC t b) 52 (0, 0))
theorem PairIn.below {w w' : World} {g : Nat} {t b : List Int} (h : PairIn w g t b) (hb : Below w.heap.size w w') : PairIn w' g t b := (hb.block g (Array.getElem?_eq_some_iff.1 h).1).trans h
theorem PairIn.lt {w : World} {g : Nat} {t b : List Int} (h : PairIn w g t b) : g < w.heap.size := (Array.getElem?_eq_some_iff.1 h).1
theorem PairIn.grown {w w' : World} {g : Nat} {t b : List Int} {row : Option Nat} (h : PairIn w g t b) (hg : w.grownBy w' row) (hne : some g ≠ row) : PairIn w' g t b := (hg.block g (Array.getElem?_eq_some_iff.1 h).1 hne).trans h

/-- a system read out of a variable, its cells one by one -/
theorem wp_loadLit {ops : Array Oper} {rest : List Oper} {o : Oper} {a : Act} {w : World} {Q : Exit → Act → World → Prop} (hgd : o.guard = none) (x : Operand) (ho : o.op = .load 50 x)
    (g : Nat) (l : List Int) (hl : l.length ≤ 12) (hx : a.eval x = .pointer (some ⟨g, 0, none⟩)) (hg : SysIn w g l)
    (h : wpList Try.prog ops Q rest (a.put o.dst (.agg #[sysV l 0, sysV l 1, sysV l 2, sysV l 3, sysV l 4, sysV l 5, sysV l 6, sysV l 7, sysV l 8, sysV l 9, sysV l 10, sysV l 11, sysV l 12])) w) : wpList Try.prog ops Q (o :: rest) a w :=
  wp_loadSys hgd x ho g l hl hx hg (by rw [sysC_lit hl]; exact h)

/-- a pair stored into a variable -/
theorem wp_storePair {ops : Array Oper} {rest : List Oper} {o : Oper} {a : Act} {w : World} {Q : Exit → Act → World → Prop} (hgd : o.guard = none) (x y : Operand) (ho : o.op = .store 52 x y)
    (g : Nat) (t b t0 b0 : List Int) (hx : a.eval x = .pointer (some ⟨g, 0, none⟩)) (hy : a.eval y = .agg (pairC t b)) (hg : PairIn w g t0 b0)
    (h : ∀ w', PairIn w' g t b → w.grownBy w' (some g) → wpList Try.prog ops Q rest (a.put o.dst undef) w') : wpList Try.prog ops Q (o :: rest) a w := by
  refine wpList_store_row hgd _ x y ho g (pairC t b) hx hy 52 (pairC t0 b0) hg (by rw [pair_info, pairC_size]) (by rw [pairC_size, pairC_size]) (pairC_one t b) ?_
  refine h _ (setRow_heap w g _ _ _ _ hg) ⟨rfl, rfl, rfl, by simp, fun k _ hk => setRow_other w g k _ (fun e => hk (by simp [e]))⟩

theorem run_loadPair (w : World) (g : Nat) (t b : List Int) (hg : PairIn w g t b) : (loadVar 52 ⟨g, 0, none⟩).run Try.prog w = .ok (.agg (pairC t b)) w :=
  run_loadVar_row w g _ _ (pairC t b) _ _ hg Try.underlying52 rfl (by rw [pair_info, pairC_size])

def PairOut (w : World) (t b : List Int) (ok : Bool) (e : Ending) (w' : World) : Prop := e = .returned (.tuple #[.agg (pairC t b), .bool ok]) ∧ Below w.heap.size w w'

theorem pair_zero (w : World) : PairIn (w.alloc (.cells #[.int .i64 0, .int .i64 0, .int .i64 0, .int .i64 0, .int .i64 0, .int .i64 0, .int .i64 0, .int .i64 0, .int .i64 0, .int .i64 0, .int .i64 0, .int .i64 0, .int .i64 0, .int .i64 0, .int .i64 0, .int .i64 0, .int .i64 0, .int .i64 0, .int .i64 0, .int .i64 0, .int .i64 0, .int .i64 0, .int .i64 0, .int .i64 0, .int .i64 0, .int .i64 0] 52)) w.heap.size [] [] := heap_alloc_new w _
theorem wp_storePairN {ops : Array Oper} {rest : List Oper} {o : Oper} {a : Act} {w : World} {Q : Exit → Act → World → Prop} (hgd : o.guard = none) (x y : Operand) (ho : o.op = .store 52 x y)
    (t b : List Int) (hx : a.eval x = .pointer (some ⟨w.heap.size, 0, none⟩)) (hy : a.eval y = .agg (pairC t b))
    (h : ∀ w', PairIn w' w.heap.size t b → Below w.heap.size w w' → wpList Try.prog ops Q rest (a.put o.dst undef) w') : wpList Try.prog ops Q (o :: rest) a (w.alloc (.cells #[.int .i64 0, .int .i64 0, .int .i64 0, .int .i64 0, .int .i64 0, .int .i64 0, .int .i64 0, .int .i64 0, .int .i64 0, .int .i64 0, .int .i64 0, .int .i64 0, .int .i64 0, .int .i64 0, .int .i64 0, .int .i64 0, .int .i64 0, .int .i64 0, .int .i64 0, .int .i64 0, .int .i64 0, .int .i64 0, .int .i64 0, .int .i64 0, .int .i64 0, .int .i64 0] 52)) := by
  refine wp_storePair hgd x y ho w.heap.size t b [] [] hx hy (pair_zero w) ?_
  intro w' hs hg
  exact h w' hs ((Below.alloc1 w _).grown hg (by simp) (by intro k hk; simp at hk; omega))

/-! IsPair -/
def ok_IsPair (t b : List Int) : Bool := pairOk t b

end Go.Proofs.Ytgaaddfipkdlaab
