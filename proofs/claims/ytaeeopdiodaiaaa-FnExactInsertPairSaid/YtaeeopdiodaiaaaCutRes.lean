/- Cuts: what the laws' functions answer. -/
import Derived.Test.YtaeeopdiodaiaaaCutMath
import Derived.Test.YtaeeopdiodaiaaaInsMath
import Derived.Test.YtaeeopdiodaiaaaReadPair
import Derived.Test.YtaeeopdiodaiaaaMeS
import Derived.Test.YtaeeopdiodaiaaaCountComp
import Derived.Test.YtaeeopdiodaiaaaComps
namespace Go.Proofs.Ytaeeopdiodaiaaa
open Go.RowKit
set_option linter.unusedSimpArgs false
set_option linter.unusedVariables false

theorem pairOk_good {t b : List Int} (h : pairOk t b = true) : goodP t b := pairOk_facts h
theorem pair12 {t b : List Int} (h : goodP t b) : t.length ≤ 12 ∧ b.length ≤ 12 := ⟨good_len' h.1, good_len' h.2.1⟩
/-- i, j is a stretch of n points -/
def inS (n : Nat) (i j : Int) : Bool := decide (0 ≤ i ∧ i < j ∧ j < (n : Int))
def ok_IsClosed (t b : List Int) (i j : Int) : Bool := pairOk t b && inS t.length i j
def res_IsClosed (t b : List Int) (i j : Int) : Bool := ok_IsClosed t b i j && closedL t b i.toNat j.toNat
def ok_InsideOf (t b : List Int) (i j : Int) : Bool := res_IsClosed t b i j
def res1_InsideOf (t b : List Int) (i j : Int) : List Int := if res_IsClosed t b i j then innerL t i.toNat j.toNat else []
def res2_InsideOf (t b : List Int) (i j : Int) : List Int := if res_IsClosed t b i j then innerL b i.toNat j.toNat else []
def ok_OutsideOf (t b : List Int) (i j : Int) : Bool := res_IsClosed t b i j
def res1_OutsideOf (t b : List Int) (i j : Int) : List Int := if res_IsClosed t b i j then outerL t i.toNat j.toNat else []
def res2_OutsideOf (t b : List Int) (i j : Int) : List Int := if res_IsClosed t b i j then outerL b i.toNat j.toNat else []
theorem closed_facts {t b : List Int} {i j : Int} (h : res_IsClosed t b i j = true) : goodP t b ∧ 0 ≤ i ∧ i < j ∧ j < (t.length : Int) ∧ closedL t b i.toNat j.toNat = true := by
  simp only [res_IsClosed, ok_IsClosed, Bool.and_eq_true, inS, decide_eq_true_eq] at h
  exact ⟨pairOk_good h.1.1, h.1.2.1, h.1.2.2.1, h.1.2.2.2, h.2⟩
theorem innerL_le (l : List Int) (i j : Nat) : (innerL l i j).length ≤ l.length := by simp [innerL]; omega
theorem outerL_le (l : List Int) (i j : Nat) : (outerL l i j).length ≤ l.length := outerK_le l i j _
theorem len_InsideOf (t b : List Int) (i j : Int) : (res1_InsideOf t b i j).length ≤ 1000000 ∧ (res2_InsideOf t b i j).length ≤ 1000000 := by
  unfold res1_InsideOf res2_InsideOf
  split
  · next h =>
    have := pair12 (closed_facts h).1
    have := innerL_le t i.toNat j.toNat
    have := innerL_le b i.toNat j.toNat
    omega
  · simp
theorem len_OutsideOf (t b : List Int) (i j : Int) : (res1_OutsideOf t b i j).length ≤ 1000000 ∧ (res2_OutsideOf t b i j).length ≤ 1000000 := by
  unfold res1_OutsideOf res2_OutsideOf
  split
  · next h =>
    have := pair12 (closed_facts h).1
    have := outerL_le t i.toNat j.toNat
    have := outerL_le b i.toNat j.toNat
    omega
  · simp
def ok_InsertPair (t b : List Int) (x : Int) (p q : List Int) : Bool := pairOk t b && pairOk p q && decide (0 ≤ x ∧ x ≤ (t.length : Int)) && decide (t.length + p.length ≤ 12)
def res1_InsertPair (t b : List Int) (x : Int) (p q : List Int) : List Int := if ok_InsertPair t b x p q then insL t x.toNat p else []
def res2_InsertPair (t b : List Int) (x : Int) (p q : List Int) : List Int := if ok_InsertPair t b x p q then insL b x.toNat q else []
theorem insert_facts {t b : List Int} {x : Int} {p q : List Int} (h : ok_InsertPair t b x p q = true) : goodP t b ∧ goodP p q ∧ 0 ≤ x ∧ x ≤ (t.length : Int) ∧ t.length + p.length ≤ 12 := by
  simp only [ok_InsertPair, Bool.and_eq_true, decide_eq_true_eq] at h
  exact ⟨pairOk_good h.1.1.1, pairOk_good h.1.1.2, h.1.2.1, h.1.2.2, h.2⟩
theorem len_InsertPair (t b : List Int) (x : Int) (p q : List Int) : (res1_InsertPair t b x p q).length ≤ 1000000 ∧ (res2_InsertPair t b x p q).length ≤ 1000000 := by
  unfold res1_InsertPair res2_InsertPair
  split
  · next h =>
    obtain ⟨⟨a1, a2, a3⟩, ⟨b1, b2, b3⟩, c1, c2, c3⟩ := insert_facts h
    rw [insL_length p (by omega), insL_length q (by omega)]
    omega
  · simp
def rowOf (p : Str) : List Int := [(p.1 : Int), (p.2 : Int)]
def ok_ClosedStretches (t b : List Int) : Bool := pairOk t b
def res_ClosedStretches (t b : List Int) : List (List Int) := if pairOk t b then (cutsL t b).map rowOf else []
theorem strFrom_len (n i : Nat) : ∀ k, (strFrom n i k).length ≤ k
  | 0 => Nat.le_refl _
  | k + 1 => by have := strFrom_len n i k; rw [strFrom, List.length_append]; split <;> simp <;> omega
theorem strUp_len (n : Nat) : ∀ m, (strUp n m).length ≤ m * n
  | 0 => by simp [strUp]
  | m + 1 => by
    have := strUp_len n m
    have h2 := strFrom_len n m (n - m - 1)
    rw [strUp, List.length_append, strRow, Nat.succ_mul]
    omega
theorem strAll_len {n : Nat} (hn : n ≤ 12) : (strAll n).length ≤ 144 := Nat.le_trans (strUp_len n n) (Nat.mul_le_mul hn hn)
theorem cutsL_len {t b : List Int} (h : t.length ≤ 12) : (cutsL t b).length ≤ 144 := Nat.le_trans (List.length_filter_le _ _) (strAll_len h)
theorem len_ClosedStretches (t b : List Int) : tot (res_ClosedStretches t b) ≤ 1000000 ∧ ∀ i, i < (res_ClosedStretches t b).length → ((res_ClosedStretches t b).getD i []).length ≤ 1000000 := by
  unfold res_ClosedStretches
  split
  · next h =>
    have h1 := cutsL_len (b := b) (pair12 (pairOk_good h)).1
    have h2 : ∀ i, i < ((cutsL t b).map rowOf).length → (((cutsL t b).map rowOf).getD i []).length ≤ 2 := by
      intro i hi
      rw [List.length_map] at hi
      simp [List.getD, hi, rowOf]
    have h3 := tot_le h2
    rw [List.length_map] at h3
    exact ⟨by omega, fun i hi => Nat.le_trans (h2 i hi) (by omega)⟩
  · exact ⟨by simp [tot], fun i hi => by simp at hi⟩
def strOf (r : Option Str) : Str := r.getD (0, 0)
def ok_ShortestClosed (t b : List Int) : Bool := pairOk t b && (shortL false t b).isSome
def res1_ShortestClosed (t b : List Int) : Int := if pairOk t b then (((strOf (shortL false t b)).1 : Nat) : Int) else 0
def res2_ShortestClosed (t b : List Int) : Int := if pairOk t b then (((strOf (shortL false t b)).2 : Nat) : Int) else 0
def wholeB (t b : List Int) : Bool := decide (0 < t.length) && (shortL false t b).isNone
def ok_IsWhole (t b : List Int) : Bool := pairOk t b
def res_IsWhole (t b : List Int) : Bool := pairOk t b && wholeB t b
def simpleB (t b : List Int) : Bool := decide ((piecesL false t b).length = t.length / 2)
def archedB (t b : List Int) : Bool := pairOk t b && decide (0 < t.length)
def ok_IsSimple (t b : List Int) : Bool := archedB t b
def res_IsSimple (t b : List Int) : Bool := archedB t b && simpleB t b
def ok_PiecesOf (t b : List Int) : Bool := archedB t b
def res_PiecesOf (t b : List Int) : List (List Int × List Int) := if archedB t b then piecesL false t b else []
def ok_PiecesBack (t b : List Int) : Bool := archedB t b
def res_PiecesBack (t b : List Int) : List (List Int × List Int) := if archedB t b then piecesL true t b else []
theorem arched_facts {t b : List Int} (h : archedB t b = true) : goodP t b ∧ 0 < t.length := by
  simp only [archedB, Bool.and_eq_true, decide_eq_true_eq] at h
  exact ⟨pairOk_good h.1, h.2⟩
theorem pieces_bd (last : Bool) {t b : List Int} (hg : goodP t b) (h0 : 0 < t.length) : (piecesL last t b).length ≤ 6 ∧ ∀ p ∈ piecesL last t b, p.1.length ≤ 12 ∧ p.2.length ≤ 12 := by
  have h1 := (pieces_len last hg h0).1
  have h2 := (pair12 hg).1
  refine ⟨by omega, fun p hp => pair12 ((pieces_facts last _ t b rfl hg h0).1 p hp).1⟩
theorem flat_bd {L : List (List Int × List Int)} {m : Nat} (hl : L.length ≤ m) (hm : m ≤ 20000) (h : ∀ p ∈ L, p.1.length ≤ 12 ∧ p.2.length ≤ 12) : tot (flatP L) ≤ 1000000 ∧ ∀ i, i < (flatP L).length → ((flatP L).getD i []).length ≤ 1000000 := by
  have hk : ∀ i, i < (flatP L).length → ((flatP L).getD i []).length ≤ 12 := by
    intro i hi
    rw [flatP_len] at hi
    have hk : i / 2 < L.length := by omega
    have a := flatP_at L (i / 2) hk
    have b := h (L.getD (i / 2) ([], [])) (by simp [List.getD, hk])
    have e : i = i / 2 * 2 ∨ i = i / 2 * 2 + 1 := by omega
    rcases e with e | e
    · rw [e, a.1]; exact b.1
    · rw [e, a.2]; exact b.2
  have := tot_le hk
  rw [flatP_len] at this
  exact ⟨by omega, fun i hi => Nat.le_trans (hk i hi) (by omega)⟩
theorem len_PiecesOf (t b : List Int) : tot (flatP (res_PiecesOf t b)) ≤ 1000000 ∧ ∀ i, i < (flatP (res_PiecesOf t b)).length → ((flatP (res_PiecesOf t b)).getD i []).length ≤ 1000000 := by
  unfold res_PiecesOf
  split
  · next h =>
    have h1 := pieces_bd false (arched_facts h).1 (arched_facts h).2
    exact flat_bd h1.1 (by omega) h1.2
  · exact flat_bd (m := 0) (by simp) (by omega) (by simp)
theorem len_PiecesBack (t b : List Int) : tot (flatP (res_PiecesBack t b)) ≤ 1000000 ∧ ∀ i, i < (flatP (res_PiecesBack t b)).length → ((flatP (res_PiecesBack t b)).getD i []).length ≤ 1000000 := by
  unfold res_PiecesBack
  split
  · next h =>
    have h1 := pieces_bd true (arched_facts h).1 (arched_facts h).2
    exact flat_bd h1.1 (by omega) h1.2
  · exact flat_bd (m := 0) (by simp) (by omega) (by simp)
def wholeP (p : List Int × List Int) : Bool := wholeB p.1 p.2
def simpleP (p : List Int × List Int) : Bool := simpleB p.1 p.2
def ok_AllWhole (x : Int) : Bool := inB x 1 4
def res_AllWhole (x : Int) : List (List Int × List Int) := if inB x 1 4 then (pairsN x.toNat).filter wholeP else []
theorem pairsN_good {n : Nat} (hn : n ≤ 6) {p : List Int × List Int} (h : p ∈ pairsN n) : goodP p.1 p.2 ∧ p.1.length = 2 * n := by
  have h1 := pairsN_mem h
  have a := mem_good hn h1.1
  have b := mem_good hn h1.2
  exact ⟨⟨a.1, b.1, by rw [a.2, b.2]⟩, a.2⟩
theorem len_AllWhole (x : Int) : tot (flatP (res_AllWhole x)) ≤ 1000000 ∧ ∀ i, i < (flatP (res_AllWhole x)).length → ((flatP (res_AllWhole x)).getD i []).length ≤ 1000000 := by
  unfold res_AllWhole
  split
  · next h =>
    have h1 := inB_iff.1 h
    refine flat_bd (m := 196) (Nat.le_trans (List.length_filter_le _ _) (pairsN_len (by omega))) (by omega) fun p hp => pair12 (pairsN_good (n := x.toNat) (by omega) (List.mem_filter.1 hp).1).1
  · exact flat_bd (m := 0) (by simp) (by omega) (by simp)
def ok_CountWhole (x : Int) : Bool := inB x 1 5
def res_CountWhole (x : Int) : Int := if inB x 1 5 then ((((pairsN x.toNat).filter wholeP).length : Nat) : Int) else 0
def ok_CountSimple (x : Int) : Bool := inB x 1 4
def res_CountSimple (x : Int) : Int := if inB x 1 4 then ((((pairsN x.toNat).filter simpleP).length : Nat) : Int) else 0
/-- how many pairs have how many pieces -/
def incQ (c : List Int) (p : List Int × List Int) : List Int := c.set (piecesL false p.1 p.2).length (c.getD (piecesL false p.1 p.2).length 0 + 1)
def cntQ (c : List Int) (ps : List (List Int × List Int)) : List Int := ps.foldl incQ c
theorem cntQ_len : ∀ (ps : List (List Int × List Int)) (c : List Int), (cntQ c ps).length = c.length
  | [], _ => rfl
  | p :: r, c => by
    show (cntQ (incQ c p) r).length = _
    rw [cntQ_len r, incQ, List.length_set]
theorem cntQ_snoc (c : List Int) (ps : List (List Int × List Int)) (p : List Int × List Int) : cntQ c (ps ++ [p]) = incQ (cntQ c ps) p := by simp [cntQ]
theorem incQ_bd (c : List Int) (B : Int) (p : List Int × List Int) (h : ∀ j, 0 ≤ c.getD j 0 ∧ c.getD j 0 ≤ B) (j : Nat) : 0 ≤ (incQ c p).getD j 0 ∧ (incQ c p).getD j 0 ≤ B + 1 := by
  unfold incQ
  have h1 := h j
  have h2 := h (piecesL false p.1 p.2).length
  generalize (piecesL false p.1 p.2).length = i at *
  by_cases hj : j < c.length
  · by_cases e : i = j
    · subst e
      have : (c.set i (c.getD i 0 + 1)).getD i 0 = c.getD i 0 + 1 := by simp [List.getD, hj]
      rw [this]; omega
    · have : (c.set i (c.getD i 0 + 1)).getD j 0 = c.getD j 0 := by simp [List.getD, e]
      rw [this]; omega
  · have : (c.set i (c.getD i 0 + 1)).getD j 0 = 0 := by simp [List.getD, hj]
    rw [this]; omega
theorem cntQ_bd : ∀ (ps : List (List Int × List Int)) (c : List Int) (B : Int), (∀ j, 0 ≤ c.getD j 0 ∧ c.getD j 0 ≤ B) → ∀ j, 0 ≤ (cntQ c ps).getD j 0 ∧ (cntQ c ps).getD j 0 ≤ B + ps.length
  | [], c, B, h, j => by have := h j; simpa [cntQ] using this
  | p :: r, c, B, h, j => by
    have := cntQ_bd r (incQ c p) (B + 1) (incQ_bd c B p h) j
    show 0 ≤ (cntQ (incQ c p) r).getD j 0 ∧ (cntQ (incQ c p) r).getD j 0 ≤ _
    rw [List.length_cons]
    omega
theorem cntq_bd (n : Nat) (ps : List (List Int × List Int)) (j : Nat) : 0 ≤ (cntQ (List.replicate n 0) ps).getD j 0 ∧ (cntQ (List.replicate n 0) ps).getD j 0 ≤ ps.length := by
  have := cntQ_bd ps (List.replicate n 0) 0 (zero_bd n) j
  omega
def ok_CountByPieces (x : Int) : Bool := inB x 1 4
def res_CountByPieces (x : Int) : List Int := if inB x 1 4 then cntQ (List.replicate (x.toNat + 1) 0) (pairsN x.toNat) else []
theorem len_CountByPieces (x : Int) : (res_CountByPieces x).length ≤ 1000000 := by
  unfold res_CountByPieces
  split
  · next h =>
    have := inB_iff.1 h
    rw [cntQ_len, List.length_replicate]; omega
  · simp
end Go.Proofs.Ytaeeopdiodaiaaa
