/- Cuts: what the laws' functions answer. -/
/- Stretches: the program's struct, and whether one is closed. -/
/- IsClosed: readStretch, the model's siClosed and siStretch. -/
/- readStretch where it fails. -/
import Derived.Test.YtogjclmmjdhfeabCutMath
import Derived.Test.YtogjclmmjdhfeabReadPair
import Derived.Test.YtogjclmmjdhfeabMeS
import Derived.Test.YtogjclmmjdhfeabCountComp
import Derived.Test.YtogjclmmjdhfeabComps
import Derived.Test.YtogjclmmjdhfeabWalk
import Derived.Test.YtogjclmmjdhfeabSpan
import Derived.Test.YtogjclmmjdhfeabGood
namespace Go.Proofs.Ytogjclmmjdhfeab
open Go.RowKit
set_option linter.unusedSimpArgs false
set_option linter.unusedVariables false

theorem pairOk_good {t b : List Int} (h : pairOk t b = true) : goodP t b := pairOk_facts h
theorem pair12 {t b : List Int} (h : goodP t b) : t.length ≤ 12 ∧ b.length ≤ 12 := ⟨good_len' h.1, good_len' h.2.1⟩
/-- i, j is a stretch of n points -/
def inS (n : Nat) (i j : Int) : Bool := decide (0 ≤ i ∧ i < j ∧ j < (n : Int))
def ok_IsClosed (t b : List Int) (i j : Int) : Bool := pairOk t b && inS t.length i j
def res_IsClosed (t b : List Int) (i j : Int) : Bool := ok_IsClosed t b i j && closedL t b i.toNat j.toNat
def ok_InsideOf (t b : List Int) (i j : Int) : Bool := res_IsClosed t b i j
def res1_InsideOf (t b : List Int) (i j : Int) : List Int := if res_IsClosed t b i j then innerL t i.toNat j.toNat else []
def res2_InsideOf (t b : List Int) (i j : Int) : List Int := if res_IsClosed t b i j then innerL b i.toNat j.toNat else []
def ok_OutsideOf (t b : List Int) (i j : Int) : Bool := res_IsClosed t b i j
def res1_OutsideOf (t b : List Int) (i j : Int) : List Int := if res_IsClosed t b i j then outerL t i.toNat j.toNat else []
def res2_OutsideOf (t b : List Int) (i j : Int) : List Int := if res_IsClosed t b i j then outerL b i.toNat j.toNat else []
theorem closed_facts {t b : List Int} {i j : Int} (h : res_IsClosed t b i j = true) : goodP t b ∧ 0 ≤ i ∧ i < j ∧ j < (t.length : Int) ∧ closedL t b i.toNat j.toNat = true := by
  simp only [res_IsClosed, ok_IsClosed, Bool.and_eq_true, inS, decide_eq_true_eq] at h
  exact ⟨pairOk_good h.1.1, h.1.2.1, h.1.2.2.1, h.1.2.2.2, h.2⟩
theorem innerL_le (l : List Int) (i j : Nat) : (innerL l i j).length ≤ l.length := by simp [innerL]; omega
theorem outerL_le (l : List Int) (i j : Nat) : (outerL l i j).length ≤ l.length := outerK_le l i j _
theorem len_InsideOf (t b : List Int) (i j : Int) : (res1_InsideOf t b i j).length ≤ 1000000 ∧ (res2_InsideOf t b i j).length ≤ 1000000 := by
  unfold res1_InsideOf res2_InsideOf
  split
  · next h =>
    have := pair12 (closed_facts h).1
    have := innerL_le t i.toNat j.toNat
    have := innerL_le b i.toNat j.toNat
    omega
  · simp
theorem len_OutsideOf (t b : List Int) (i j : Int) : (res1_OutsideOf t b i j).length ≤ 1000000 ∧ (res2_OutsideOf t b i j).length ≤ 1000000 := by
  unfold res1_OutsideOf res2_OutsideOf
  split
  · next h =>
    have := pair12 (closed_facts h).1
    have := outerL_le t i.toNat j.toNat
    have := outerL_le b i.toNat j.toNat
    omega
  · simp
def ok_InsertPair (t b : List Int) (x : Int) (p q : List Int) : Bool := pairOk t b && pairOk p q && decide (0 ≤ x ∧ x ≤ (t.length : Int)) && decide (t.length + p.length ≤ 12)
def res1_InsertPair (t b : List Int) (x : Int) (p q : List Int) : List Int := if ok_InsertPair t b x p q then insL t x.toNat p else []
def res2_InsertPair (t b : List Int) (x : Int) (p q : List Int) : List Int := if ok_InsertPair t b x p q then insL b x.toNat q else []
theorem insert_facts {t b : List Int} {x : Int} {p q : List Int} (h : ok_InsertPair t b x p q = true) : goodP t b ∧ goodP p q ∧ 0 ≤ x ∧ x ≤ (t.length : Int) ∧ t.length + p.length ≤ 12 := by
  simp only [ok_InsertPair, Bool.and_eq_true, decide_eq_true_eq] at h
  exact ⟨pairOk_good h.1.1.1, pairOk_good h.1.1.2, h.1.2.1, h.1.2.2, h.2⟩
theorem len_InsertPair (t b : List Int) (x : Int) (p q : List Int) : (res1_InsertPair t b x p q).length ≤ 1000000 ∧ (res2_InsertPair t b x p q).length ≤ 1000000 := by
  unfold res1_InsertPair res2_InsertPair
  split
  · next h =>
    obtain ⟨⟨a1, a2, a3⟩, ⟨b1, b2, b3⟩, c1, c2, c3⟩ := insert_facts h
    rw [insL_length p (by omega), insL_length q (by omega)]
    omega
  · simp
def rowOf (p : Str) : List Int := [(p.1 : Int), (p.2 : Int)]
def ok_ClosedStretches (t b : List Int) : Bool := pairOk t b
def res_ClosedStretches (t b : List Int) : List (List Int) := if pairOk t b then (cutsL t b).map rowOf else []
theorem strFrom_len (n i : Nat) : ∀ k, (strFrom n i k).length ≤ k
  | 0 => Nat.le_refl _
  | k + 1 => by have := strFrom_len n i k; rw [strFrom, List.length_append]; split <;> simp <;> omega
theorem strUp_len (n : Nat) : ∀ m, (strUp n m).length ≤ m * n
  | 0 => by simp [strUp]
  | m + 1 => by
    have := strUp_len n m
    have h2 := strFrom_len n m (n - m - 1)
    rw [strUp, List.length_append, strRow, Nat.succ_mul]
    omega
theorem strAll_len {n : Nat} (hn : n ≤ 12) : (strAll n).length ≤ 144 := Nat.le_trans (strUp_len n n) (Nat.mul_le_mul hn hn)
theorem cutsL_len {t b : List Int} (h : t.length ≤ 12) : (cutsL t b).length ≤ 144 := Nat.le_trans (List.length_filter_le _ _) (strAll_len h)
theorem len_ClosedStretches (t b : List Int) : tot (res_ClosedStretches t b) ≤ 1000000 ∧ ∀ i, i < (res_ClosedStretches t b).length → ((res_ClosedStretches t b).getD i []).length ≤ 1000000 := by
  unfold res_ClosedStretches
  split
  · next h =>
    have h1 := cutsL_len (b := b) (pair12 (pairOk_good h)).1
    have h2 : ∀ i, i < ((cutsL t b).map rowOf).length → (((cutsL t b).map rowOf).getD i []).length ≤ 2 := by
      intro i hi
      rw [List.length_map] at hi
      simp [List.getD, hi, rowOf]
    have h3 := tot_le h2
    rw [List.length_map] at h3
    exact ⟨by omega, fun i hi => Nat.le_trans (h2 i hi) (by omega)⟩
  · exact ⟨by simp [tot], fun i hi => by simp at hi⟩
def strOf (r : Option Str) : Str := r.getD (0, 0)
def ok_ShortestClosed (t b : List Int) : Bool := pairOk t b && (shortL false t b).isSome
def res1_ShortestClosed (t b : List Int) : Int := if pairOk t b then (((strOf (shortL false t b)).1 : Nat) : Int) else 0
def res2_ShortestClosed (t b : List Int) : Int := if pairOk t b then (((strOf (shortL false t b)).2 : Nat) : Int) else 0
def wholeB (t b : List Int) : Bool := decide (0 < t.length) && (shortL false t b).isNone
def ok_IsWhole (t b : List Int) : Bool := pairOk t b
def res_IsWhole (t b : List Int) : Bool := pairOk t b && wholeB t b
def simpleB (t b : List Int) : Bool := decide ((piecesL false t b).length = t.length / 2)
def ok_IsSimple (t b : List Int) : Bool := archedB t b
def res_IsSimple (t b : List Int) : Bool := archedB t b && simpleB t b
def ok_PiecesOf (t b : List Int) : Bool := archedB t b
def res_PiecesOf (t b : List Int) : List (List Int × List Int) := if archedB t b then piecesL false t b else []
def ok_PiecesBack (t b : List Int) : Bool := archedB t b
def res_PiecesBack (t b : List Int) : List (List Int × List Int) := if archedB t b then piecesL true t b else []
theorem arched_facts {t b : List Int} (h : archedB t b = true) : goodP t b ∧ 0 < t.length := by
  simp only [archedB, Bool.and_eq_true, decide_eq_true_eq] at h
  exact ⟨pairOk_good h.1, h.2⟩
theorem pieces_bd (last : Bool) {t b : List Int} (hg : goodP t b) (h0 : 0 < t.length) : (piecesL last t b).length ≤ 6 ∧ ∀ p ∈ piecesL last t b, p.1.length ≤ 12 ∧ p.2.length ≤ 12 := by
  have h1 := (pieces_len last hg h0).1
  have h2 := (pair12 hg).1
  refine ⟨by omega, fun p hp => pair12 ((pieces_facts last _ t b rfl hg h0).1 p hp).1⟩
theorem flat_bd {L : List (List Int × List Int)} {m : Nat} (hl : L.length ≤ m) (hm : m ≤ 20000) (h : ∀ p ∈ L, p.1.length ≤ 12 ∧ p.2.length ≤ 12) : tot (flatP L) ≤ 1000000 ∧ ∀ i, i < (flatP L).length → ((flatP L).getD i []).length ≤ 1000000 := by
  have hk : ∀ i, i < (flatP L).length → ((flatP L).getD i []).length ≤ 12 := by
    intro i hi
    rw [flatP_len] at hi
    have hk : i / 2 < L.length := by omega
    have a := flatP_at L (i / 2) hk
    have b := h (L.getD (i / 2) ([], [])) (by simp [List.getD, hk])
    have e : i = i / 2 * 2 ∨ i = i / 2 * 2 + 1 := by omega
    rcases e with e | e
    · rw [e, a.1]; exact b.1
    · rw [e, a.2]; exact b.2
  have := tot_le hk
  rw [flatP_len] at this
  exact ⟨by omega, fun i hi => Nat.le_trans (hk i hi) (by omega)⟩
theorem len_PiecesOf (t b : List Int) : tot (flatP (res_PiecesOf t b)) ≤ 1000000 ∧ ∀ i, i < (flatP (res_PiecesOf t b)).length → ((flatP (res_PiecesOf t b)).getD i []).length ≤ 1000000 := by
  unfold res_PiecesOf
  split
  · next h =>
    have h1 := pieces_bd false (arched_facts h).1 (arched_facts h).2
    exact flat_bd h1.1 (by omega) h1.2
  · exact flat_bd (m := 0) (by simp) (by omega) (by simp)
theorem len_PiecesBack (t b : List Int) : tot (flatP (res_PiecesBack t b)) ≤ 1000000 ∧ ∀ i, i < (flatP (res_PiecesBack t b)).length → ((flatP (res_PiecesBack t b)).getD i []).length ≤ 1000000 := by
  unfold res_PiecesBack
  split
  · next h =>
    have h1 := pieces_bd true (arched_facts h).1 (arched_facts h).2
    exact flat_bd h1.1 (by omega) h1.2
  · exact flat_bd (m := 0) (by simp) (by omega) (by simp)
def wholeP (p : List Int × List Int) : Bool := wholeB p.1 p.2
def simpleP (p : List Int × List Int) : Bool := simpleB p.1 p.2
def ok_AllWhole (x : Int) : Bool := inB x 1 4
def res_AllWhole (x : Int) : List (List Int × List Int) := if inB x 1 4 then (pairsN x.toNat).filter wholeP else []
theorem pairsN_good {n : Nat} (hn : n ≤ 6) {p : List Int × List Int} (h : p ∈ pairsN n) : goodP p.1 p.2 ∧ p.1.length = 2 * n := by
  have h1 := pairsN_mem h
  have a := mem_good hn h1.1
  have b := mem_good hn h1.2
  exact ⟨⟨a.1, b.1, by rw [a.2, b.2]⟩, a.2⟩
theorem len_AllWhole (x : Int) : tot (flatP (res_AllWhole x)) ≤ 1000000 ∧ ∀ i, i < (flatP (res_AllWhole x)).length → ((flatP (res_AllWhole x)).getD i []).length ≤ 1000000 := by
  unfold res_AllWhole
  split
  · next h =>
    have h1 := inB_iff.1 h
    refine flat_bd (m := 196) (Nat.le_trans (List.length_filter_le _ _) (pairsN_len (by omega))) (by omega) fun p hp => pair12 (pairsN_good (n := x.toNat) (by omega) (List.mem_filter.1 hp).1).1
  · exact flat_bd (m := 0) (by simp) (by omega) (by simp)
def ok_CountWhole (x : Int) : Bool := inB x 1 5
def res_CountWhole (x : Int) : Int := if inB x 1 5 then ((((pairsN x.toNat).filter wholeP).length : Nat) : Int) else 0
def ok_CountSimple (x : Int) : Bool := inB x 1 4
def res_CountSimple (x : Int) : Int := if inB x 1 4 then ((((pairsN x.toNat).filter simpleP).length : Nat) : Int) else 0
/-- how many pairs have how many pieces -/
def incQ (c : List Int) (p : List Int × List Int) : List Int := c.set (piecesL false p.1 p.2).length (c.getD (piecesL false p.1 p.2).length 0 + 1)
def cntQ (c : List Int) (ps : List (List Int × List Int)) : List Int := ps.foldl incQ c
theorem cntQ_len : ∀ (ps : List (List Int × List Int)) (c : List Int), (cntQ c ps).length = c.length
  | [], _ => rfl
  | p :: r, c => by
    show (cntQ (incQ c p) r).length = _
    rw [cntQ_len r, incQ, List.length_set]
theorem cntQ_snoc (c : List Int) (ps : List (List Int × List Int)) (p : List Int × List Int) : cntQ c (ps ++ [p]) = incQ (cntQ c ps) p := by simp [cntQ]
theorem incQ_bd (c : List Int) (B : Int) (p : List Int × List Int) (h : ∀ j, 0 ≤ c.getD j 0 ∧ c.getD j 0 ≤ B) (j : Nat) : 0 ≤ (incQ c p).getD j 0 ∧ (incQ c p).getD j 0 ≤ B + 1 := by
  unfold incQ
  have h1 := h j
  have h2 := h (piecesL false p.1 p.2).length
  generalize (piecesL false p.1 p.2).length = i at *
  by_cases hj : j < c.length
  · by_cases e : i = j
    · subst e
      have : (c.set i (c.getD i 0 + 1)).getD i 0 = c.getD i 0 + 1 := by simp [List.getD, hj]
      rw [this]; omega
    · have : (c.set i (c.getD i 0 + 1)).getD j 0 = c.getD j 0 := by simp [List.getD, e]
      rw [this]; omega
  · have : (c.set i (c.getD i 0 + 1)).getD j 0 = 0 := by simp [List.getD, hj]
    rw [this]; omega
theorem cntQ_bd : ∀ (ps : List (List Int × List Int)) (c : List Int) (B : Int), (∀ j, 0 ≤ c.getD j 0 ∧ c.getD j 0 ≤ B) → ∀ j, 0 ≤ (cntQ c ps).getD j 0 ∧ (cntQ c ps).getD j 0 ≤ B + ps.length
  | [], c, B, h, j => by have := h j; simpa [cntQ] using this
  | p :: r, c, B, h, j => by
    have := cntQ_bd r (incQ c p) (B + 1) (incQ_bd c B p h) j
    show 0 ≤ (cntQ (incQ c p) r).getD j 0 ∧ (cntQ (incQ c p) r).getD j 0 ≤ _
    rw [List.length_cons]
    omega
theorem cntq_bd (n : Nat) (ps : List (List Int × List Int)) (j : Nat) : 0 ≤ (cntQ (List.replicate n 0) ps).getD j 0 ∧ (cntQ (List.replicate n 0) ps).getD j 0 ≤ ps.length := by
  have := cntQ_bd ps (List.replicate n 0) 0 (zero_bd n) j
  omega
def ok_CountByPieces (x : Int) : Bool := inB x 1 4
def res_CountByPieces (x : Int) : List Int := if inB x 1 4 then cntQ (List.replicate (x.toNat + 1) 0) (pairsN x.toNat) else []
theorem len_CountByPieces (x : Int) : (res_CountByPieces x).length ≤ 1000000 := by
  unfold res_CountByPieces
  split
  · next h =>
    have := inB_iff.1 h
    rw [cntQ_len, List.length_replicate]; omega
  · simp
end Go.Proofs.Ytogjclmmjdhfeab

namespace Go.Proofs.Ytogjclmmjdhfeab
open Go.RowKit
set_option linter.unusedSimpArgs false
set_option linter.unusedVariables false

theorem str_info : (Try.prog.info? 142).map (·.size) = some 2 := by kernel_rfl
def StrIn (w : World) (g : Nat) (i j : Int) : Prop := w.heap[g]? = some (.cells #[.int .i64 i, .int .i64 j] 142 (0, 0))
theorem StrIn.lt {w : World} {g : Nat} {i j : Int} (h : StrIn w g i j) : g < w.heap.size := (Array.getElem?_eq_some_iff.1 h).1
theorem StrIn.below {w w' : World} {g : Nat} {i j : Int} (h : StrIn w g i j) (hb : Below w.heap.size w w') : StrIn w' g i j := (hb.block g h.lt).trans h
theorem StrIn.grown {w w' : World} {g : Nat} {i j : Int} {row : Option Nat} (h : StrIn w g i j) (hg : w.grownBy w' row) (hne : some g ≠ row) : StrIn w' g i j := (hg.block g h.lt hne).trans h
theorem StrIn.c0 {w : World} {g : Nat} {i j : Int} (h : StrIn w g i j) : w.cell? ⟨g, 0, none⟩ = some (.int .i64 i) := by rw [cell_of_row w g 0 _ _ _ h]; rfl
theorem StrIn.c1 {w : World} {g : Nat} {i j : Int} (h : StrIn w g i j) : w.cell? ⟨g, 1, none⟩ = some (.int .i64 j) := by rw [cell_of_row w g 1 _ _ _ h]; rfl
theorem StrIn.new (w : World) (i j : Int) : StrIn (w.alloc (.cells #[.int .i64 i, .int .i64 j] 142)) w.heap.size i j := heap_alloc_new w _
theorem wp_loadStr {ops : Array Oper} {rest : List Oper} {o : Oper} {a : Act} {w : World} {Q : Exit → Act → World → Prop} (hgd : o.guard = none) (x : Operand) (ho : o.op = .load 142 x)
    (g : Nat) (i j : Int) (hx : a.eval x = .pointer (some ⟨g, 0, none⟩)) (hg : StrIn w g i j)
    (h : wpList Try.prog ops Q rest (a.put o.dst (.agg #[.int .i64 i, .int .i64 j])) w) : wpList Try.prog ops Q (o :: rest) a w :=
  wpList_load_row hgd _ x ho g hx _ #[.int .i64 i, .int .i64 j] (0, 0) _ hg Try.underlying142 rfl (by rw [str_info]; rfl) h
theorem wp_loadStrG {ops : Array Oper} {rest : List Oper} {o : Oper} {a : Act} {w : World} {Q : Exit → Act → World → Prop} (x : Operand) (ho : o.op = .load 142 x)
    (g : Nat) (i j : Int) (hx : a.eval x = .pointer (some ⟨g, 0, none⟩)) (hg : StrIn w g i j) (hw : Region.wanted o (yielded ops a.tmps) = true)
    (h : wpList Try.prog ops Q rest (a.put o.dst (.agg #[.int .i64 i, .int .i64 j])) w) : wpList Try.prog ops Q (o :: rest) a w :=
  wpList_wanted hw fun _ hK => wp_load_row _ x ho g hx _ #[.int .i64 i, .int .i64 j] (0, 0) _ hg Try.underlying142 rfl (by rw [str_info]; rfl) (hK _ _ h)
theorem wp_storeStr {ops : Array Oper} {rest : List Oper} {o : Oper} {a : Act} {w : World} {Q : Exit → Act → World → Prop} (hgd : o.guard = none) (x y : Operand) (ho : o.op = .store 142 x y)
    (g : Nat) (i j i0 j0 : Int) (hx : a.eval x = .pointer (some ⟨g, 0, none⟩)) (hy : a.eval y = .agg #[.int .i64 i, .int .i64 j]) (hg : StrIn w g i0 j0)
    (h : ∀ w', StrIn w' g i j → w.grownBy w' (some g) → wpList Try.prog ops Q rest (a.put o.dst undef) w') : wpList Try.prog ops Q (o :: rest) a w := by
  refine wpList_store_row hgd _ x y ho g #[.int .i64 i, .int .i64 j] hx hy 142 #[.int .i64 i0, .int .i64 j0] hg (by rw [str_info]; rfl) rfl (by simp [Value.oneCell']) ?_
  refine h _ (setRow_heap w g _ _ _ _ hg) ⟨rfl, rfl, rfl, by simp, fun k _ hk => setRow_other w g k _ (fun e => hk (by simp [e]))⟩
theorem wp_storeStrN {ops : Array Oper} {rest : List Oper} {o : Oper} {a : Act} {w : World} {Q : Exit → Act → World → Prop} (hgd : o.guard = none) (x y : Operand) (ho : o.op = .store 142 x y)
    (i j : Int) (hx : a.eval x = .pointer (some ⟨w.heap.size, 0, none⟩)) (hy : a.eval y = .agg #[.int .i64 i, .int .i64 j])
    (h : ∀ w', StrIn w' w.heap.size i j → Below w.heap.size w w' → wpList Try.prog ops Q rest (a.put o.dst undef) w') : wpList Try.prog ops Q (o :: rest) a (w.alloc (.cells #[.int .i64 0, .int .i64 0] 142)) := by
  refine wp_storeStr hgd x y ho w.heap.size i j 0 0 hx hy (StrIn.new w 0 0) ?_
  intro w' hs hg
  exact h w' hs ((Below.alloc1 w _).grown hg (by simp) (by intro k hk; simp at hk; omega))

theorem has_any (i j x : Int) (w : World) : Calls Try.prog 189 #[.agg #[.int .i64 i, .int .i64 j], .int .i64 x] w (Tells w (inB x i j)) := by
  obtain ⟨R, hR⟩ : ∃ R, inB x i j = R := ⟨_, rfl⟩
  rw [hR]
  unfold inB at hR
  by_cases h1 : i ≤ x
  · by_cases h2 : x ≤ j
    · obtain rfl : R = true := by rw [← hR]; exact decide_eq_true ⟨h1, h2⟩
      clear hR
      go_enter Try.func189, Try.ntmps189
      go_wp2
      go_ret
      exact ⟨rfl, Below.alloc1 _ _⟩
    · obtain rfl : R = false := by rw [← hR]; exact decide_eq_false (fun h => h2 h.2)
      clear hR
      go_enter Try.func189, Try.ntmps189
      go_wp2
      go_ret
      exact ⟨rfl, Below.alloc1 _ _⟩
  · obtain rfl : R = false := by rw [← hR]; exact decide_eq_false (fun h => h1 h.1)
    clear hR
    go_enter Try.func189, Try.ntmps189
    go_wp2
    go_ret
    exact ⟨rfl, Below.alloc1 _ _⟩
theorem lacks_any (i j x : Int) (w : World) : Calls Try.prog 192 #[.agg #[.int .i64 i, .int .i64 j], .int .i64 x] w (Tells w (!inB x i j)) := by
  have HH := Lib.hid (fun w => has_any i j x w)
  have HS := Lib.hid (StrIn.new w i j)
  generalize inB x i j = R at *
  go_enter Try.func192, Try.ntmps192
  go_wp2_with (first
    | (with_reducible refine wp_loadStr rfl (.tmp 2) rfl w.heap.size i j rfl HS.out ?_)
    | (go_at_call 189; ((with_reducible refine (HH.out _).mono ?_); rintro e w1 ⟨rfl, hb1⟩)))
  go_ret
  exact ⟨rfl, Below.step (Below.alloc1 w _) hb1⟩

theorem closed_step {t b : List Int} {i j k : Nat} {R : Bool} (hk : k ≤ j) (h : allFrom (clP t b i j) k (j + 1 - k) = R) : (clP t b i j k = true → allFrom (clP t b i j) (k + 1) (j + 1 - (k + 1)) = R) ∧ (clP t b i j k = false → R = false) := by
  rw [show j + 1 - k = (j + 1 - (k + 1)) + 1 by omega, allFrom] at h
  exact ⟨fun e => by rw [e] at h; simpa using h, fun e => by rw [e] at h; simpa using h.symm⟩
set_option maxHeartbeats 2000000 in
theorem isClosed_any (t b : List Int) (i j : Nat) (hij : i < j) (hj : j < 12) (w : World) :
    Calls Try.prog 131 #[.agg (pairC t b), .agg #[.int .i64 (i : Int), .int .i64 (j : Int)]] w (Tells w (closedL t b i j)) := by
  obtain ⟨R, hR⟩ : ∃ R, closedL t b i j = R := ⟨_, rfl⟩
  rw [hR]
  unfold closedL at hR
  have B1 := Below.alloc1 w (.cells (pairC t b) 102)
  have HB0 := Lib.hid (Below.step B1 (Below.alloc1 _ (.cells #[.int .i64 (i : Int), .int .i64 (j : Int)] 142)))
  have HP := Lib.hid ((PairIn.new w t b).below (Below.alloc1 _ (.cells #[.int .i64 (i : Int), .int .i64 (j : Int)] 142)))
  have HS : Hid (StrIn ((w.alloc (.cells (pairC t b) 102)).alloc (.cells #[.int .i64 (i : Int), .int .i64 (j : Int)] 142)) (w.heap.size + 1) i j) := by
    have := StrIn.new (w.alloc (.cells (pairC t b) 102)) i j
    rw [World.size_alloc] at this
    exact this
  have s0 := HS.out.c0; have s1 := HS.out.c1
  have HR := Lib.hid hR
  have HL := Lib.hid (fun x w => lacks_any (i : Int) (j : Int) x w)
  clear B1 hR
  go_enter Try.func131, Try.ntmps131
  go_wp2
  go_loopw [5] (fun x wr => ∃ k : Nat, i ≤ k ∧ k ≤ j + 1 ∧ x = .int .i64 (k : Int) ∧ Hid (allFrom (clP t b i j) k (j + 1 - k) = R) ∧ PairIn wr w.heap.size t b ∧ StrIn wr (w.heap.size + 1) i j ∧ Below w.heap.size w wr) (fun x _ => j + 1 - (intOf x).toNat)
  case atStart => exact ⟨i, by omega, by omega, rfl, HR.out, HP.out, HS.out, HB0.out⟩
  case round =>
    obtain ⟨k, hik, hk, rfl, HK, hp, hs, hbel⟩ := hrel
    clear s0 s1
    generalize wr = wa at *
    have s0 := hs.c0; have s1 := hs.c1
    by_cases hlt : k ≤ j
    · have hk12 : k < 12 := by omega
      have p0 := hp.topAt k hk12
      have p1 := hp.botAt k hk12
      have hst := closed_step hlt HK.out
      have hcl : clP t b i j k = (inB (t.getD k 0) i j && inB (b.getD k 0) i j) := rfl
      have hl1 := fun w => HL.out (t.getD k 0) w
      have hl2 := fun w => HL.out (b.getD k 0) w
      generalize t.getD k 0 = x at *
      generalize b.getD k 0 = y at *
      generalize clP t b i j k = c at *
      have HP1 := Lib.hid hp; have HS1 := Lib.hid hs; have HBE := Lib.hid hbel; have HST := Lib.hid hst; have HCL := Lib.hid hcl
      clear HK hp hs hbel hst hcl HP HS HB0 HR HL
      have hk0 : (0 : Int) ≤ (k : Int) := by omega
      have hk1 : (k : Int) < 12 := by omega
      cases hX : inB x i j with
      | false =>
        rw [hX] at hl1 HCL
        have HL1 := Lib.hid hl1; clear hl1 hl2 hX
        go_wp2_with fail
        first
          | go_region_with (first
              | (go_at_call 192; ((with_reducible refine (HL1.out _).mono ?_); rintro e' w' ⟨rfl, hb'⟩)))
          | fail
        all_goals
          have hB : Below wa.heap.size wa w' := by first | exact ((Below.refl _ wa).drew).trans hb' | exact hb'
          go_wp2
          go_ret
          exact ⟨by rw [HST.out.2 HCL.out]; first | done | rfl, Below.step HBE.out hB⟩
      | true =>
        rw [hX] at hl1 HCL
        have HL1 := Lib.hid hl1; clear hl1 hX
        cases hY : inB y i j with
        | false =>
          rw [hY] at hl2 HCL
          have HL2 := Lib.hid hl2; clear hl2 hY
          go_wp2_with fail
          go_region_held3 (fun w' => Hid (Below wa.heap.size wa w') ∧ w'.cell? ⟨w.heap.size + 1, 0, none⟩ = some (.int .i64 i) ∧ w'.cell? ⟨w.heap.size + 1, 1, none⟩ = some (.int .i64 j) ∧ w'.cell? ⟨w.heap.size, k, none⟩ = some (.int .i64 x) ∧ w'.cell? ⟨w.heap.size, 13 + k, none⟩ = some (.int .i64 y))
              (first | assumption | exact h4_start s0 s1 p0 p1 (Below.drew (Below.refl _ _)) | exact h4_keep (by assumption) (by assumption))
              (first
                | (go_at_call_of 192 (Value.int IntKind.i64 x); ((with_reducible refine (HL1.out _).mono ?_); rintro e' w' ⟨rfl, hb'⟩))
                | (go_at_call_of 192 (Value.int IntKind.i64 y); ((with_reducible refine (HL2.out _).mono ?_); rintro e' w' ⟨rfl, hb'⟩)))
          all_goals
            have hB : Below wa.heap.size wa w' := h4_out (by assumption)
            go_wp2
            go_ret
            exact ⟨by rw [HST.out.2 HCL.out]; first | done | rfl, Below.step HBE.out hB⟩
        | true =>
          rw [hY] at hl2 HCL
          have HL2 := Lib.hid hl2; clear hl2 hY
          go_wp2_with fail
          go_region_held3 (fun w' => Hid (Below wa.heap.size wa w') ∧ w'.cell? ⟨w.heap.size + 1, 0, none⟩ = some (.int .i64 i) ∧ w'.cell? ⟨w.heap.size + 1, 1, none⟩ = some (.int .i64 j) ∧ w'.cell? ⟨w.heap.size, k, none⟩ = some (.int .i64 x) ∧ w'.cell? ⟨w.heap.size, 13 + k, none⟩ = some (.int .i64 y))
              (first | assumption | exact h4_start s0 s1 p0 p1 (Below.drew (Below.refl _ _)) | exact h4_keep (by assumption) (by assumption))
              (first
                | (go_at_call_of 192 (Value.int IntKind.i64 x); ((with_reducible refine (HL1.out _).mono ?_); rintro e' w' ⟨rfl, hb'⟩))
                | (go_at_call_of 192 (Value.int IntKind.i64 y); ((with_reducible refine (HL2.out _).mono ?_); rintro e' w' ⟨rfl, hb'⟩)))
          all_goals
            have hB : Below wa.heap.size wa w' := h4_out (by assumption)
            go_wp2
            go_roundw
            case rel => exact ⟨k + 1, by omega, by omega, by go_num, HST.out.1 HCL.out, HP1.out.below hB, HS1.out.below hB, Below.step HBE.out hB⟩
            case measure => simp [intOf]; omega
    · obtain rfl : k = j + 1 := by omega
      have hK := HK.out
      rw [Nat.sub_self] at hK
      have HT : Hid (R = true) := hK.symm
      have HBE := Lib.hid hbel
      clear HK hK hp hs hbel HP HS HB0 HR HL
      go_wp2
      go_ret
      exact ⟨by rw [HT.out]; first | done | rfl, HBE.out⟩

end Go.Proofs.Ytogjclmmjdhfeab

namespace Go.Proofs.Ytogjclmmjdhfeab
open Go.RowKit
set_option linter.unusedSimpArgs false
set_option linter.unusedVariables false

theorem inS_yes {n : Nat} {i j : Int} (h : inS n i j = true) : ∃ a b : Nat, i = (a : Int) ∧ j = (b : Int) ∧ a < b ∧ b < n := by
  simp only [inS, decide_eq_true_eq] at h
  obtain ⟨a, rfl⟩ := Int.eq_ofNat_of_zero_le h.1
  obtain ⟨b, rfl⟩ := Int.eq_ofNat_of_zero_le (by omega : 0 ≤ j)
  exact ⟨a, b, rfl, rfl, by omega, by omega⟩

def StrOut (w : World) (t b : List Int) (i j : Int) (ok : Bool) (e : Ending) (w' : World) : Prop := e = .returned (.tuple #[.agg (pairC t b), .agg #[.int .i64 i, .int .i64 j], .bool ok]) ∧ Below w.heap.size w w'
theorem run_loadStr (w : World) (g : Nat) (i j : Int) (hg : StrIn w g i j) : (loadVar 142 ⟨g, 0, none⟩).run Try.prog w = .ok (.agg #[.int .i64 i, .int .i64 j]) w :=
  run_loadVar_row w g _ _ #[.int .i64 i, .int .i64 j] _ _ hg Try.underlying142 rfl (by rw [str_info]; rfl)
theorem results_rst (tmps : Array Value) (w : World) (g h : Nat) (t b : List Int) (i j : Int) (ok : Bool) (hg : PairIn w g t b) (hh : StrIn w h i j) (h6 : tmps.getD 6 undef = .pointer (some ⟨g, 0, none⟩)) (h7 : tmps.getD 7 undef = .pointer (some ⟨h, 0, none⟩)) (h8 : tmps.getD 8 undef = .bool ok) :
    (results Try.f130 tmps).run Try.prog w = .ok (.tuple #[.agg (pairC t b), .agg #[.int .i64 i, .int .i64 j], .bool ok]) w := by
  have h6' : tmps[6]?.getD undef = .pointer (some ⟨g, 0, none⟩) := by simpa using h6
  have h7' : tmps[7]?.getD undef = .pointer (some ⟨h, 0, none⟩) := by simpa using h7
  have h8' : tmps[8]?.getD undef = .bool ok := by simpa using h8
  have hr : Try.f130.results = #[.cell 6 102, .cell 7 142, .tmp 8] := by kernel_rfl
  simp [results, hr, h6', h7', h8', asAddr, run_loadPair w g t b hg, run_loadStr w h i j hh]

def zeroP : Array Value := #[.int .i64 0, .int .i64 0, .int .i64 0, .int .i64 0, .int .i64 0, .int .i64 0, .int .i64 0, .int .i64 0, .int .i64 0, .int .i64 0, .int .i64 0, .int .i64 0, .int .i64 0, .int .i64 0, .int .i64 0, .int .i64 0, .int .i64 0, .int .i64 0, .int .i64 0, .int .i64 0, .int .i64 0, .int .i64 0, .int .i64 0, .int .i64 0, .int .i64 0, .int .i64 0]
set_option maxHeartbeats 4000000 in
theorem readStretch_yes (t b : List Int) (i j : Nat) (hg : goodP t b) (hij : i < j) (hj : j < t.length) (w : World) (u1 u2 : Value) (h1 : Rd w u1 t) (h2 : Rd w u2 b) :
    Calls Try.prog 130 #[.agg #[u1, u2], .int .i64 (i : Int), .int .i64 (j : Int)] w (StrOut w t b i j true) := by
  have hok : pairOk t b = true := by simp [pairOk, hg.1, hg.2.1, hg.2.2]
  have B0 : Below w.heap.size w (w.alloc (.cells #[u1, u2] 26)) := Below.alloc1 w _
  have B1 := Below.step B0 (Below.alloc1 _ (.cells zeroP 102))
  have B2 := Below.step B1 (Below.alloc1 _ (.cells #[.int .i64 0, .int .i64 0] 142))
  have B12 := Below.step (Below.alloc1 (w.alloc (.cells #[u1, u2] 26)) (.cells zeroP 102)) (Below.alloc1 _ (.cells #[.int .i64 0, .int .i64 0] 142))
  have hA := Box2.below (Box2.new 26 w u1 u2) B12
  have hP := (show PairIn ((w.alloc (.cells #[u1, u2] 26)).alloc (.cells zeroP 102)) _ [] [] from pair_zero (w.alloc (.cells #[u1, u2] 26))).below (Below.alloc1 _ (.cells #[.int .i64 0, .int .i64 0] 142))
  have hS := StrIn.new ((w.alloc (.cells #[u1, u2] 26)).alloc (.cells zeroP 102)) 0 0
  rw [World.size_alloc] at hP
  rw [World.size_alloc, World.size_alloc] at hS
  have hrd := fun w h1 h2 => readPair_any t b w u1 u2 h1 h2
  rw [hok] at hrd
  simp only [if_true] at hrd
  have HSZ := Lib.hid (fun w => pairSize_any t b w)
  have k0 := hA.c0; have k1 := hA.c1
  have HP := Lib.hid hP; have HS := Lib.hid hS; have HB := Lib.hid B2; have H1 := Lib.hid (h1.below B2); have H2 := Lib.hid (h2.below B2); have HR := Lib.hid hrd
  have hd1 : decide ((i : Int) < 0) = false := decide_eq_false (by omega)
  have hd2 : decide ((j : Int) ≤ (i : Int)) = false := decide_eq_false (by omega)
  have hd3 : decide ((t.length : Int) ≤ (j : Int)) = false := decide_eq_false (by omega)
  have hn2 : decide (j ≤ i) = false := decide_eq_false (by omega)
  have hn3 : decide (t.length ≤ j) = false := decide_eq_false (by omega)
  have hx1 : ¬ ((i : Int) < 0) := by omega
  have hx2 : ¬ ((j : Int) ≤ (i : Int)) := by omega
  clear B0 B1 B2 B12 hA hP hS hrd h1 h2 hok hg
  generalize t.length = n at *
  unfold zeroP at *
  go_enter Try.func130, Try.ntmps130
  go_wp2_with fail
  refine (HR.out _ H1.out H2.out).mono ?_
  rintro e w1 ⟨rfl, hb1⟩
  have HP1 := Lib.hid (HP.out.below hb1); have HS1 := Lib.hid (HS.out.below hb1); have HB1 := Lib.hid (Below.step HB.out hb1)
  clear hb1 k0 k1
  go_wp2_with (first
    | ((with_reducible refine wp_storePairN rfl (.tmp 9) (.tmp 14) rfl t b rfl rfl ?_); intro w2 hs2 hb2; have HQ2 := Lib.hid hs2; have HP2 := Lib.hid (HP1.out.below hb2); have HS2 := Lib.hid (HS1.out.below hb2); have HB2 := Lib.hid (Below.step HB1.out hb2); clear hs2 hb2)
    | (with_reducible refine wp_loadPairG (.tmp 9) rfl w1.heap.size t b rfl HQ2.out (by first | with_unfolding_all rfl | (simp only [hd1, hd2, hd3, hn2, hn3, Bool.or_false]; with_unfolding_all rfl)) ?_)
    | (go_at_call 84; ((with_reducible refine (HSZ.out _).mono ?_); rintro e w3 ⟨rfl, hb3⟩; have HQ3 := Lib.hid (HQ2.out.below hb3); have HP3 := Lib.hid (HP2.out.below hb3); have HS3 := Lib.hid (HS2.out.below hb3); have HB3 := Lib.hid (Below.step HB2.out hb3); clear hb3))
    | (with_reducible refine wp_loadPair rfl (.tmp 9) rfl w1.heap.size t b rfl HQ3.out ?_)
    | ((with_reducible refine wp_storePair rfl (.tmp 6) (.tmp 35) rfl (w.heap.size + 1) t b [] [] rfl rfl HP3.out ?_); intro w5 hp5 hg5; have HP5 := Lib.hid hp5; have HS5 := Lib.hid (HS3.out.grown hg5 (by simp)); have HB5 := Lib.hid (HB3.out.grown hg5 HB3.out.size (by intro k hk; simp at hk; omega)); clear hp5 hg5)
    | ((with_reducible refine wp_storeStr rfl (.tmp 7) (.tmp 38) rfl (w.heap.size + 1 + 1) i j 0 0 rfl rfl HS5.out ?_); intro w6 hp6 hg6; have HS6 := Lib.hid hp6; have HP6 := Lib.hid (HP5.out.grown hg6 (by simp)); have HB6 := Lib.hid (HB5.out.grown hg6 HB5.out.size (by intro k hk; simp at hk; omega)); clear hp6 hg6))
  exact bodyPost_ret (results_rst _ _ (w.heap.size + 1) (w.heap.size + 1 + 1) t b i j true HP6.out HS6.out rfl rfl rfl) rfl ⟨rfl, HB6.out⟩

end Go.Proofs.Ytogjclmmjdhfeab

namespace Go.Proofs.Ytogjclmmjdhfeab
open Go.RowKit
set_option linter.unusedSimpArgs false
set_option linter.unusedVariables false

theorem rst_new (w : World) (u1 u2 : Value) : Box2 26 (((w.alloc (.cells #[u1, u2] 26)).alloc (.cells #[.int .i64 0, .int .i64 0, .int .i64 0, .int .i64 0, .int .i64 0, .int .i64 0, .int .i64 0, .int .i64 0, .int .i64 0, .int .i64 0, .int .i64 0, .int .i64 0, .int .i64 0, .int .i64 0, .int .i64 0, .int .i64 0, .int .i64 0, .int .i64 0, .int .i64 0, .int .i64 0, .int .i64 0, .int .i64 0, .int .i64 0, .int .i64 0, .int .i64 0, .int .i64 0] 102)).alloc (.cells #[.int .i64 0, .int .i64 0] 142)) w.heap.size u1 u2 ∧ PairIn (((w.alloc (.cells #[u1, u2] 26)).alloc (.cells #[.int .i64 0, .int .i64 0, .int .i64 0, .int .i64 0, .int .i64 0, .int .i64 0, .int .i64 0, .int .i64 0, .int .i64 0, .int .i64 0, .int .i64 0, .int .i64 0, .int .i64 0, .int .i64 0, .int .i64 0, .int .i64 0, .int .i64 0, .int .i64 0, .int .i64 0, .int .i64 0, .int .i64 0, .int .i64 0, .int .i64 0, .int .i64 0, .int .i64 0, .int .i64 0] 102)).alloc (.cells #[.int .i64 0, .int .i64 0] 142)) (w.heap.size + 1) [] [] ∧ StrIn (((w.alloc (.cells #[u1, u2] 26)).alloc (.cells #[.int .i64 0, .int .i64 0, .int .i64 0, .int .i64 0, .int .i64 0, .int .i64 0, .int .i64 0, .int .i64 0, .int .i64 0, .int .i64 0, .int .i64 0, .int .i64 0, .int .i64 0, .int .i64 0, .int .i64 0, .int .i64 0, .int .i64 0, .int .i64 0, .int .i64 0, .int .i64 0, .int .i64 0, .int .i64 0, .int .i64 0, .int .i64 0, .int .i64 0, .int .i64 0] 102)).alloc (.cells #[.int .i64 0, .int .i64 0] 142)) (w.heap.size + 1 + 1) 0 0 ∧ Below w.heap.size w (((w.alloc (.cells #[u1, u2] 26)).alloc (.cells #[.int .i64 0, .int .i64 0, .int .i64 0, .int .i64 0, .int .i64 0, .int .i64 0, .int .i64 0, .int .i64 0, .int .i64 0, .int .i64 0, .int .i64 0, .int .i64 0, .int .i64 0, .int .i64 0, .int .i64 0, .int .i64 0, .int .i64 0, .int .i64 0, .int .i64 0, .int .i64 0, .int .i64 0, .int .i64 0, .int .i64 0, .int .i64 0, .int .i64 0, .int .i64 0] 102)).alloc (.cells #[.int .i64 0, .int .i64 0] 142)) := by
  refine ⟨Box2.below (Box2.below (Box2.new 26 w u1 u2) (Below.alloc1 _ _)) (Below.alloc1 _ _), ?_, ?_, Below.step (Below.step (Below.alloc1 _ _) (Below.alloc1 _ _)) (Below.alloc1 _ _)⟩
  · have := pair_zero (w.alloc (.cells #[u1, u2] 26))
    rw [World.size_alloc] at this
    exact this.below (Below.alloc1 _ _)
  · have := StrIn.new ((w.alloc (.cells #[u1, u2] 26)).alloc (.cells #[.int .i64 0, .int .i64 0, .int .i64 0, .int .i64 0, .int .i64 0, .int .i64 0, .int .i64 0, .int .i64 0, .int .i64 0, .int .i64 0, .int .i64 0, .int .i64 0, .int .i64 0, .int .i64 0, .int .i64 0, .int .i64 0, .int .i64 0, .int .i64 0, .int .i64 0, .int .i64 0, .int .i64 0, .int .i64 0, .int .i64 0, .int .i64 0, .int .i64 0, .int .i64 0] 102)) 0 0
    rw [World.size_alloc, World.size_alloc] at this
    exact this
set_option maxHeartbeats 4000000 in
theorem readStretch_noa (t b : List Int) (i j : Int) (hok : pairOk t b = false) (w : World) (u1 u2 : Value) (h1 : Rd w u1 t) (h2 : Rd w u2 b) :
    Calls Try.prog 130 #[.agg #[u1, u2], .int .i64 i, .int .i64 j] w (StrOut w [] [] 0 0 false) := by
  obtain ⟨hA, hP, hS, B3⟩ := rst_new w u1 u2
  have hrd := fun w h1 h2 => readPair_any t b w u1 u2 h1 h2
  rw [hok] at hrd
  simp only [if_true, Bool.false_eq_true, if_false] at hrd
  have HSZ := Lib.hid (fun w => pairSize_any t b w)
  have k0 := hA.c0; have k1 := hA.c1
  have HP := Lib.hid hP; have HS := Lib.hid hS; have HB := Lib.hid B3; have H1 := Lib.hid (h1.below B3); have H2 := Lib.hid (h2.below B3); have HR := Lib.hid hrd
  clear hA hP hS B3 hrd h1 h2 hok
  generalize t.length = n at *
  go_enter Try.func130, Try.ntmps130
  go_wp2_with fail
  refine (HR.out _ H1.out H2.out).mono ?_
  rintro e w1 ⟨rfl, hb1⟩
  have HP1 := Lib.hid (HP.out.below hb1); have HS1 := Lib.hid (HS.out.below hb1); have HB1 := Lib.hid (Below.step HB.out hb1)
  clear hb1 k0 k1
  go_wp2_with (first
    | ((with_reducible refine wp_storePairN rfl (.tmp 9) (.tmp 14) rfl [] [] rfl rfl ?_); intro w2 hs2 hb2; have HQ2 := Lib.hid hs2; have HP2 := Lib.hid (HP1.out.below hb2); have HS2 := Lib.hid (HS1.out.below hb2); have HB2 := Lib.hid (Below.step HB1.out hb2); clear hs2 hb2)
    | ((with_reducible refine wp_storePair rfl (.tmp 6) (.tmp 33) rfl (w.heap.size + 1) [] [] [] [] rfl rfl HP2.out ?_); intro w5 hp5 hg5; have HP5 := Lib.hid hp5; have HS5 := Lib.hid (HS2.out.grown hg5 (by simp)); have HB5 := Lib.hid (HB2.out.grown hg5 HB2.out.size (by intro k hk; simp at hk; omega)); clear hp5 hg5)
    | ((with_reducible refine wp_storeStr rfl (.tmp 7) (.tmp 34) rfl (w.heap.size + 1 + 1) 0 0 0 0 rfl rfl HS5.out ?_); intro w6 hp6 hg6; have HS6 := Lib.hid hp6; have HP6 := Lib.hid (HP5.out.grown hg6 (by simp)); have HB6 := Lib.hid (HB5.out.grown hg6 HB5.out.size (by intro k hk; simp at hk; omega)); clear hp6 hg6))
  exact bodyPost_ret (results_rst _ _ (w.heap.size + 1) (w.heap.size + 1 + 1) [] [] 0 0 false HP6.out HS6.out rfl rfl rfl) rfl ⟨rfl, HB6.out⟩
set_option maxHeartbeats 4000000 in
theorem readStretch_nob (t b : List Int) (i j : Int) (hok : pairOk t b = true) (hi : i < 0) (w : World) (u1 u2 : Value) (h1 : Rd w u1 t) (h2 : Rd w u2 b) :
    Calls Try.prog 130 #[.agg #[u1, u2], .int .i64 i, .int .i64 j] w (StrOut w [] [] 0 0 false) := by
  obtain ⟨hA, hP, hS, B3⟩ := rst_new w u1 u2
  have hrd := fun w h1 h2 => readPair_any t b w u1 u2 h1 h2
  rw [hok] at hrd
  simp only [if_true, Bool.false_eq_true, if_false] at hrd
  have HSZ := Lib.hid (fun w => pairSize_any t b w)
  have k0 := hA.c0; have k1 := hA.c1
  have HP := Lib.hid hP; have HS := Lib.hid hS; have HB := Lib.hid B3; have H1 := Lib.hid (h1.below B3); have H2 := Lib.hid (h2.below B3); have HR := Lib.hid hrd
  have hd1 : decide (i < 0) = true := decide_eq_true hi
  clear hA hP hS B3 hrd h1 h2 hok
  generalize t.length = n at *
  go_enter Try.func130, Try.ntmps130
  go_wp2_with fail
  refine (HR.out _ H1.out H2.out).mono ?_
  rintro e w1 ⟨rfl, hb1⟩
  have HP1 := Lib.hid (HP.out.below hb1); have HS1 := Lib.hid (HS.out.below hb1); have HB1 := Lib.hid (Below.step HB.out hb1)
  clear hb1 k0 k1
  go_wp2_with (first
    | ((with_reducible refine wp_storePairN rfl (.tmp 9) (.tmp 14) rfl t b rfl rfl ?_); intro w2 hs2 hb2; have HQ2 := Lib.hid hs2; have HP2 := Lib.hid (HP1.out.below hb2); have HS2 := Lib.hid (HS1.out.below hb2); have HB2 := Lib.hid (Below.step HB1.out hb2); clear hs2 hb2)
    | ((with_reducible refine wp_storePair rfl (.tmp 6) (.tmp 33) rfl (w.heap.size + 1) [] [] [] [] rfl rfl HP2.out ?_); intro w5 hp5 hg5; have HP5 := Lib.hid hp5; have HS5 := Lib.hid (HS2.out.grown hg5 (by simp)); have HB5 := Lib.hid (HB2.out.grown hg5 HB2.out.size (by intro k hk; simp at hk; omega)); clear hp5 hg5)
    | ((with_reducible refine wp_storeStr rfl (.tmp 7) (.tmp 34) rfl (w.heap.size + 1 + 1) 0 0 0 0 rfl rfl HS5.out ?_); intro w6 hp6 hg6; have HS6 := Lib.hid hp6; have HP6 := Lib.hid (HP5.out.grown hg6 (by simp)); have HB6 := Lib.hid (HB5.out.grown hg6 HB5.out.size (by intro k hk; simp at hk; omega)); clear hp6 hg6))
  exact bodyPost_ret (results_rst _ _ (w.heap.size + 1) (w.heap.size + 1 + 1) [] [] 0 0 false HP6.out HS6.out rfl rfl rfl) rfl ⟨rfl, HB6.out⟩
set_option maxHeartbeats 4000000 in
theorem readStretch_noc (t b : List Int) (i : Nat) (j : Int) (hok : pairOk t b = true) (hj : j ≤ (i : Int)) (w : World) (u1 u2 : Value) (h1 : Rd w u1 t) (h2 : Rd w u2 b) :
    Calls Try.prog 130 #[.agg #[u1, u2], .int .i64 (i : Int), .int .i64 j] w (StrOut w [] [] 0 0 false) := by
  obtain ⟨hA, hP, hS, B3⟩ := rst_new w u1 u2
  have hrd := fun w h1 h2 => readPair_any t b w u1 u2 h1 h2
  rw [hok] at hrd
  simp only [if_true, Bool.false_eq_true, if_false] at hrd
  have HSZ := Lib.hid (fun w => pairSize_any t b w)
  have k0 := hA.c0; have k1 := hA.c1
  have HP := Lib.hid hP; have HS := Lib.hid hS; have HB := Lib.hid B3; have H1 := Lib.hid (h1.below B3); have H2 := Lib.hid (h2.below B3); have HR := Lib.hid hrd
  have hd1 : decide ((i : Int) < 0) = false := decide_eq_false (by omega)
  have hx1 : ¬ ((i : Int) < 0) := by omega
  have hd2 : decide (j ≤ (i : Int)) = true := decide_eq_true hj
  clear hA hP hS B3 hrd h1 h2 hok
  generalize t.length = n at *
  go_enter Try.func130, Try.ntmps130
  go_wp2_with fail
  refine (HR.out _ H1.out H2.out).mono ?_
  rintro e w1 ⟨rfl, hb1⟩
  have HP1 := Lib.hid (HP.out.below hb1); have HS1 := Lib.hid (HS.out.below hb1); have HB1 := Lib.hid (Below.step HB.out hb1)
  clear hb1 k0 k1
  go_wp2_with (first
    | ((with_reducible refine wp_storePairN rfl (.tmp 9) (.tmp 14) rfl t b rfl rfl ?_); intro w2 hs2 hb2; have HQ2 := Lib.hid hs2; have HP2 := Lib.hid (HP1.out.below hb2); have HS2 := Lib.hid (HS1.out.below hb2); have HB2 := Lib.hid (Below.step HB1.out hb2); clear hs2 hb2)
    | ((with_reducible refine wp_storePair rfl (.tmp 6) (.tmp 33) rfl (w.heap.size + 1) [] [] [] [] rfl rfl HP2.out ?_); intro w5 hp5 hg5; have HP5 := Lib.hid hp5; have HS5 := Lib.hid (HS2.out.grown hg5 (by simp)); have HB5 := Lib.hid (HB2.out.grown hg5 HB2.out.size (by intro k hk; simp at hk; omega)); clear hp5 hg5)
    | ((with_reducible refine wp_storeStr rfl (.tmp 7) (.tmp 34) rfl (w.heap.size + 1 + 1) 0 0 0 0 rfl rfl HS5.out ?_); intro w6 hp6 hg6; have HS6 := Lib.hid hp6; have HP6 := Lib.hid (HP5.out.grown hg6 (by simp)); have HB6 := Lib.hid (HB5.out.grown hg6 HB5.out.size (by intro k hk; simp at hk; omega)); clear hp6 hg6))
  exact bodyPost_ret (results_rst _ _ (w.heap.size + 1) (w.heap.size + 1 + 1) [] [] 0 0 false HP6.out HS6.out rfl rfl rfl) rfl ⟨rfl, HB6.out⟩
set_option maxHeartbeats 4000000 in
theorem readStretch_nod (t b : List Int) (i j : Nat) (hok : pairOk t b = true) (hij : i < j) (hj : t.length ≤ j) (w : World) (u1 u2 : Value) (h1 : Rd w u1 t) (h2 : Rd w u2 b) :
    Calls Try.prog 130 #[.agg #[u1, u2], .int .i64 (i : Int), .int .i64 (j : Int)] w (StrOut w [] [] 0 0 false) := by
  obtain ⟨hA, hP, hS, B3⟩ := rst_new w u1 u2
  have hrd := fun w h1 h2 => readPair_any t b w u1 u2 h1 h2
  rw [hok] at hrd
  simp only [if_true, Bool.false_eq_true, if_false] at hrd
  have HSZ := Lib.hid (fun w => pairSize_any t b w)
  have k0 := hA.c0; have k1 := hA.c1
  have HP := Lib.hid hP; have HS := Lib.hid hS; have HB := Lib.hid B3; have H1 := Lib.hid (h1.below B3); have H2 := Lib.hid (h2.below B3); have HR := Lib.hid hrd
  have hd1 : decide ((i : Int) < 0) = false := decide_eq_false (by omega)
  have hd2 : decide ((j : Int) ≤ (i : Int)) = false := decide_eq_false (by omega)
  have hn2 : decide (j ≤ i) = false := decide_eq_false (by omega)
  have hd3 : decide ((t.length : Int) ≤ (j : Int)) = true := decide_eq_true (by omega)
  have hn3 : decide (t.length ≤ j) = true := decide_eq_true hj
  have hx1 : ¬ ((i : Int) < 0) := by omega
  have hx2 : ¬ ((j : Int) ≤ (i : Int)) := by omega
  have hx3 : (t.length : Int) ≤ (j : Int) := by omega
  clear hA hP hS B3 hrd h1 h2 hok
  generalize t.length = n at *
  go_enter Try.func130, Try.ntmps130
  go_wp2_with fail
  refine (HR.out _ H1.out H2.out).mono ?_
  rintro e w1 ⟨rfl, hb1⟩
  have HP1 := Lib.hid (HP.out.below hb1); have HS1 := Lib.hid (HS.out.below hb1); have HB1 := Lib.hid (Below.step HB.out hb1)
  clear hb1 k0 k1
  go_wp2_with (first
    | ((with_reducible refine wp_storePairN rfl (.tmp 9) (.tmp 14) rfl t b rfl rfl ?_); intro w2 hs2 hb2; have HQ2 := Lib.hid hs2; have HP2 := Lib.hid (HP1.out.below hb2); have HS2 := Lib.hid (HS1.out.below hb2); have HB2 := Lib.hid (Below.step HB1.out hb2); clear hs2 hb2)
    | (with_reducible refine wp_loadPairG (.tmp 9) rfl w1.heap.size t b rfl HQ2.out (by first | with_unfolding_all rfl | (simp only [hd1, hd2, hn2, Bool.or_false]; with_unfolding_all rfl)) ?_)
    | (go_at_call 84; ((with_reducible refine (HSZ.out _).mono ?_); rintro e w3 ⟨rfl, hb3⟩; have HQ3 := Lib.hid (HQ2.out.below hb3); have HP3 := Lib.hid (HP2.out.below hb3); have HS3 := Lib.hid (HS2.out.below hb3); have HB3 := Lib.hid (Below.step HB2.out hb3); clear hb3))
    | ((with_reducible refine wp_storePair rfl (.tmp 6) (.tmp 33) rfl (w.heap.size + 1) [] [] [] [] rfl rfl HP3.out ?_); intro w5 hp5 hg5; have HP5 := Lib.hid hp5; have HS5 := Lib.hid (HS3.out.grown hg5 (by simp)); have HB5 := Lib.hid (HB3.out.grown hg5 HB3.out.size (by intro k hk; simp at hk; omega)); clear hp5 hg5)
    | ((with_reducible refine wp_storeStr rfl (.tmp 7) (.tmp 34) rfl (w.heap.size + 1 + 1) 0 0 0 0 rfl rfl HS5.out ?_); intro w6 hp6 hg6; have HS6 := Lib.hid hp6; have HP6 := Lib.hid (HP5.out.grown hg6 (by simp)); have HB6 := Lib.hid (HB5.out.grown hg6 HB5.out.size (by intro k hk; simp at hk; omega)); clear hp6 hg6))
  exact bodyPost_ret (results_rst _ _ (w.heap.size + 1) (w.heap.size + 1 + 1) [] [] 0 0 false HP6.out HS6.out rfl rfl rfl) rfl ⟨rfl, HB6.out⟩
/-- readStretch, at any arguments -/
theorem readStretch_no (t b : List Int) (i j : Int) (h : ok_IsClosed t b i j = false) (w : World) (u1 u2 : Value) (h1 : Rd w u1 t) (h2 : Rd w u2 b) :
    Calls Try.prog 130 #[.agg #[u1, u2], .int .i64 i, .int .i64 j] w (StrOut w [] [] 0 0 false) := by
  cases hok : pairOk t b with
  | false => exact readStretch_noa t b i j hok w u1 u2 h1 h2
  | true =>
    simp only [ok_IsClosed, hok, Bool.true_and, inS, decide_eq_false_iff_not] at h
    by_cases hi : i < 0
    · exact readStretch_nob t b i j hok hi w u1 u2 h1 h2
    · obtain ⟨i, rfl⟩ := Int.eq_ofNat_of_zero_le (by omega : 0 ≤ i)
      by_cases hj : j ≤ (i : Int)
      · exact readStretch_noc t b i j hok hj w u1 u2 h1 h2
      · obtain ⟨j, rfl⟩ := Int.eq_ofNat_of_zero_le (by omega : 0 ≤ j)
        exact readStretch_nod t b i j hok (by omega) (by omega) w u1 u2 h1 h2

end Go.Proofs.Ytogjclmmjdhfeab
