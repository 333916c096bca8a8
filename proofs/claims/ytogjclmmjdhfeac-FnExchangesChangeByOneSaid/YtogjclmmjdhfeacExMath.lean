/- Exchanges of arches: faces, pairs that can be exchanged, systems behind an exchange: plain mathematics. -/
import Derived.Test.YtogjclmmjdhfeacEnum
import Derived.Test.YtogjclmmjdhfeacPutMath
namespace Go.Proofs.Ytogjclmmjdhfeac
set_option linter.unusedSimpArgs false
set_option linter.unusedVariables false

/-! ### faces, as the program tells them -/
def justB (l : List Int) (a o : Int) : Bool := beginsB l a && decide (o < a) && decide (a < l.getD o.toNat 0) && decide (overN l a a.toNat = overN l o o.toNat + 1)
def archB (l : List Int) (o a : Int) : Bool := decide (a = o) || justB l a o
def beginsL (l : List Int) : List Int := whereL (beginsB l) l.length
def outerL (l : List Int) : List Int := whereL (isOuterB l) l.length
def underL' (l : List Int) (o : Int) : List Int := whereL (archB l o) l.length
def faceW (l : List Int) : List (List Int) := outerL l :: (beginsL l).map (underL' l)
def shareB (l : List Int) (i j : Int) : Bool := (isOuterB l i && isOuterB l j) || (beginsL l).any fun o => archB l o i && archB l o j
def setJ (l : List Int) (i j : Int) : List Int := (l.set i.toNat j).set j.toNat i
/-- behind the exchange of the arches that begin at i and j -/
def exL (l : List Int) (i j : Int) : List Int :=
  if l.getD i.toNat 0 < j then setJ (setJ l i (l.getD j.toNat 0)) (l.getD i.toNat 0) j else setJ (setJ l i j) (l.getD j.toNat 0) (l.getD i.toNat 0)
theorem exL_length (l : List Int) (i j : Int) : (exL l i j).length = l.length := by unfold exL setJ; split <;> simp
/-- the pairs that begin at i with a second one before k -/
def pairRow (l : List Int) (i : Nat) : Nat → List (List Int)
  | 0 => []
  | k + 1 => pairRow l i k ++ if decide (i < k) && shareB l i k then [[(i : Int), (k : Int)]] else []
def pairUp (l : List Int) : Nat → List (List Int)
  | 0 => []
  | i + 1 => pairUp l i ++ pairRow l i l.length
def pairsL (l : List Int) : List (List Int) := pairUp l l.length
def exP (l : List Int) (p : List Int) : List Int := exL l (p.getD 0 0) (p.getD 1 0)
def exsL (l : List Int) : List (List Int) := (pairsL l).map (exP l)

theorem pairRow_mem {l : List Int} {i : Nat} : ∀ {k : Nat} {p : List Int}, p ∈ pairRow l i k ↔ ∃ j : Nat, i < j ∧ j < k ∧ shareB l i j = true ∧ p = [(i : Int), (j : Int)]
  | 0, p => by simp [pairRow]
  | k + 1, p => by
    rw [pairRow, List.mem_append, pairRow_mem (k := k)]
    constructor
    · rintro (⟨j, h1, h2, h3, h4⟩ | h)
      · exact ⟨j, h1, by omega, h3, h4⟩
      · by_cases e : (decide (i < k) && shareB l i k) = true
        · rw [if_pos e] at h
          simp only [Bool.and_eq_true, decide_eq_true_eq] at e
          exact ⟨k, e.1, by omega, e.2, by simpa using h⟩
        · rw [if_neg e] at h; simp at h
    · rintro ⟨j, h1, h2, h3, h4⟩
      by_cases e : j = k
      · subst e
        right
        rw [if_pos (by simp [h1, h3])]
        simp [h4]
      · exact .inl ⟨j, h1, by omega, h3, h4⟩
theorem pairUp_mem {l : List Int} : ∀ {n : Nat} {p : List Int}, p ∈ pairUp l n ↔ ∃ i j : Nat, i < n ∧ i < j ∧ j < l.length ∧ shareB l i j = true ∧ p = [(i : Int), (j : Int)]
  | 0, p => by simp [pairUp]
  | n + 1, p => by
    rw [pairUp, List.mem_append, pairUp_mem (n := n), pairRow_mem]
    constructor
    · rintro (⟨i, j, h1, h2⟩ | ⟨j, h1, h2⟩)
      · exact ⟨i, j, by omega, h2⟩
      · exact ⟨n, j, by omega, h1, h2⟩
    · rintro ⟨i, j, h1, h2⟩
      by_cases e : i = n
      · subst e; exact .inr ⟨j, h2⟩
      · exact .inl ⟨i, j, by omega, h2⟩
theorem pairs_mem {l : List Int} {p : List Int} : p ∈ pairsL l ↔ ∃ i j : Nat, i < j ∧ j < l.length ∧ shareB l i j = true ∧ p = [(i : Int), (j : Int)] := by
  unfold pairsL
  rw [pairUp_mem]
  constructor
  · rintro ⟨i, j, h1, h2, h3⟩; exact ⟨i, j, h2, h3⟩
  · rintro ⟨i, j, h2, h3, h4⟩; exact ⟨i, j, by omega, h2, h3, h4⟩

/-! ### the model's -/
/-- from arch to arch, up to an end -/
def chainL (l : List Int) : Nat → Nat → Nat → List Int → List Int
  | 0, _, _, out => out
  | f + 1, k, e, out => if k < e then chainL l f (par l k + 1) e (out ++ [(k : Int)]) else out
def chainOk (l : List Int) : Nat → Nat → Nat → Bool
  | 0, _, _ => true
  | f + 1, k, e => !decide (k < e) || (decide (k < par l k) && decide (par l k < e) && chainOk l f (par l k + 1) e)
def gtP (p q : List Int) : Bool := decide (q.getD 0 0 < p.getD 0 0) || (decide (p.getD 0 0 = q.getD 0 0) && decide (q.getD 1 0 < p.getD 1 0))
def insK (out : List (List Int)) (q : List Int) : Nat → Nat
  | 0 => 0
  | m + 1 => if gtP (out.getD m []) q then insK out q m else m + 1
def insP (out : List (List Int)) (q : List Int) : List (List Int) := insAt out (insK out q out.length) q
/-- all pairs with face's element number k as the second one put into others -/
def insF (face : List Int) (out : List (List Int)) (k : Nat) : List (List Int) := (face.take k).foldl (fun out i => insP out [i, face.getD k 0]) out
def insFace (out : List (List Int)) (face : List Int) : List (List Int) := (List.range face.length).foldl (insF face) out
def pairsM (l : List Int) : List (List Int) := (faceW l).foldl insFace []
def chooseL (fs : List (List Int)) : Nat := fs.foldl (fun c f => c + f.length * (f.length - 1) / 2) 0

def faceCheck (l : List Int) : Bool :=
  chainL l (l.length + 1) 0 l.length [] == outerL l && chainOk l (l.length + 1) 0 l.length &&
  (List.range l.length).all (fun i => !decide (i < par l i) || (chainL l (l.length + 1) (i + 1) (par l i) [(i : Int)] == underL' l i && chainOk l (l.length + 1) (i + 1) (par l i)))
theorem faceC0 : (sysAll 0).all faceCheck = true := by kernel_rfl
theorem faceC1 : (sysAll 1).all faceCheck = true := by kernel_rfl
theorem faceC2 : (sysAll 2).all faceCheck = true := by kernel_rfl
theorem faceC3 : (sysAll 3).all faceCheck = true := by kernel_rfl
theorem faceC4 : (sysAll 4).all faceCheck = true := by kernel_rfl
theorem faceC5 : (sysAll 5).all faceCheck = true := by kernel_rfl
theorem faceC6 : (sysAll 6).all faceCheck = true := by kernel_rfl
theorem face_check {l : List Int} (h : goodB l = true) : faceCheck l = true := good_all6 faceC0 faceC1 faceC2 faceC3 faceC4 faceC5 faceC6 h

def exCheck (l : List Int) : Bool :=
  pairsM l == pairsL l && (pairsL l).all (fun p => goodB (exP l p)) && decide (chooseL (faceW l) = (pairsL l).length) && decide ((pairsL l).length ≤ 66)
theorem exC0 : (sysAll 0).all exCheck = true := by kernel_rfl
theorem exC1 : (sysAll 1).all exCheck = true := by kernel_rfl
theorem exC2 : (sysAll 2).all exCheck = true := by kernel_rfl
theorem exC3 : (sysAll 3).all exCheck = true := by kernel_rfl
theorem exC4 : (sysAll 4).all exCheck = true := by kernel_rfl
theorem exC5 : (sysAll 5).all exCheck = true := by kernel_rfl
theorem exC6a : ((sysAll 6).take 33).all exCheck = true := by kernel_rfl
theorem exC6b : (((sysAll 6).drop 33).take 33).all exCheck = true := by kernel_rfl
theorem exC6c : ((((sysAll 6).drop 33).drop 33).take 33).all exCheck = true := by kernel_rfl
theorem exC6d : ((((sysAll 6).drop 33).drop 33).drop 33).all exCheck = true := by kernel_rfl
theorem all_split {α : Type} {P : α → Bool} {xs : List α} {n : Nat} (h1 : (xs.take n).all P = true) (h2 : (xs.drop n).all P = true) : xs.all P = true := by
  have := List.take_append_drop n xs
  rw [← this, List.all_append, h1, h2]; rfl
theorem exC6 : (sysAll 6).all exCheck = true := all_split exC6a (all_split exC6b (all_split exC6c exC6d))
theorem ex_check {l : List Int} (h : goodB l = true) : exCheck l = true := good_all6 exC0 exC1 exC2 exC3 exC4 exC5 exC6 h
theorem ex_facts {l : List Int} (h : goodB l = true) : pairsM l = pairsL l ∧ (∀ p ∈ pairsL l, goodB (exP l p) = true) ∧ chooseL (faceW l) = (pairsL l).length ∧ (pairsL l).length ≤ 66 := by
  have := ex_check h
  unfold exCheck at this
  simp only [Bool.and_eq_true, decide_eq_true_eq, List.all_eq_true, beq_iff_eq] at this
  exact ⟨this.1.1.1, this.1.1.2, this.1.2, this.2⟩

end Go.Proofs.Ytogjclmmjdhfeac
