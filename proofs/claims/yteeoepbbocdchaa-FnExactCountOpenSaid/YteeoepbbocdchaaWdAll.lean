/- All open words of up to seven numbers: grown by their last number and sorted, and gathered number by number. -/
import Derived.Test.YteeoepbbocdchaaWdMath
import Derived.Test.YteeoepbbocdchaaPutMath
namespace Go.Proofs.Yteeoepbbocdchaa
set_option linter.unusedSimpArgs false
set_option linter.unusedVariables false

/-- a number put behind a word, for which the others make room -/
def lastP (l : List Int) (x : Nat) : List Int := l.map (fun y => if y < (x : Int) then y else y + 1) ++ [(x : Int)]
def grownW (ls : List (List Int)) (c : Nat) : List (List Int) := ls.flatMap fun l => (List.range c).map (lastP l)
def openW : Nat → List (List Int)
  | 0 => [[]]
  | n + 1 => (grownW (openW n) (n + 1)).filter fun l => (firstCrs l).isNone
/-- the words of n numbers that begin so, gathered number by number; what is left of them is f -/
def peL (n : Nat) : Nat → List Int → List (List Int)
  | 0, l => [l]
  | f + 1, l => (List.range n).flatMap fun (x : Nat) => if l.contains (x : Int) then [] else if (firstCrs (l ++ [(x : Int)])).isNone then peL n f (l ++ [(x : Int)]) else []
def mrgL : Nat → List (List Int) → List (List Int) → List (List Int)
  | 0, a, b => a ++ b
  | f + 1, a, b =>
    match a, b with
    | [], b => b
    | x :: a, [] => x :: a
    | x :: a, y :: b => if ltL y x then y :: mrgL f (x :: a) b else x :: mrgL f a (y :: b)
theorem mrgL_perm : ∀ (f : Nat) (a b : List (List Int)), (mrgL f a b).Perm (a ++ b)
  | 0, a, b => List.Perm.refl _
  | f + 1, [], b => List.Perm.refl _
  | f + 1, x :: a, [] => by simp [mrgL]
  | f + 1, x :: a, y :: b => by
    simp only [mrgL]
    split
    · exact ((mrgL_perm f (x :: a) b).cons y).trans (List.perm_middle.symm)
    · exact (mrgL_perm f a (y :: b)).cons x
def msrtL : Nat → List (List Int) → List (List Int)
  | 0, l => l
  | f + 1, l => if l.length ≤ 1 then l else mrgL l.length (msrtL f (l.take (l.length / 2))) (msrtL f (l.drop (l.length / 2)))
theorem msrtL_perm : ∀ (f : Nat) (l : List (List Int)), (msrtL f l).Perm l
  | 0, l => List.Perm.refl _
  | f + 1, l => by
    rw [msrtL]
    split
    · exact List.Perm.refl _
    · refine (mrgL_perm _ _ _).trans (((msrtL_perm f _).append (msrtL_perm f _)).trans ?_)
      rw [List.take_append_drop]
def adjB : List (List Int) → Bool
  | [] => true
  | [_] => true
  | a :: b :: l => !ltL b a && adjB (b :: l)
theorem adj_all : ∀ (l : List (List Int)) (x : List Int), adjB (x :: l) = true → ∀ y ∈ l, ltL y x = false
  | [], x, _, y, hy => by simp at hy
  | b :: l, x, h, y, hy => by
    simp only [adjB, Bool.and_eq_true, Bool.not_eq_true'] at h
    rcases List.mem_cons.1 hy with rfl | hy
    · exact h.1
    · exact ltL_ntrans y b x (adj_all l b h.2 y hy) h.1
theorem adj_srt : ∀ (l : List (List Int)), adjB l = true → srtL l
  | [], _ => srtL_nil
  | [a], _ => List.pairwise_singleton _ _
  | a :: b :: l, h => by
    have h2 := adj_all (b :: l) a h
    simp only [adjB, Bool.and_eq_true] at h
    exact List.pairwise_cons.2 ⟨fun y hy => h2 y hy, adj_srt (b :: l) h.2⟩
def openCheck (n : Nat) : Bool := msrtL 10 (openW n) == peL n n []
def openSort (n : Nat) : Bool := adjB (peL n n [])
theorem openCheck0 : openCheck 0 = true := by kernel_rfl
theorem openCheck1 : openCheck 1 = true := by kernel_rfl
theorem openCheck2 : openCheck 2 = true := by kernel_rfl
theorem openCheck3 : openCheck 3 = true := by kernel_rfl
theorem openCheck4 : openCheck 4 = true := by kernel_rfl
theorem openCheck5 : openCheck 5 = true := by kernel_rfl
theorem openCheck6 : openCheck 6 = true := by kernel_rfl
theorem openSort0 : openSort 0 = true := by kernel_rfl
theorem openSort1 : openSort 1 = true := by kernel_rfl
theorem openSort2 : openSort 2 = true := by kernel_rfl
theorem openSort3 : openSort 3 = true := by kernel_rfl
theorem openSort4 : openSort 4 = true := by kernel_rfl
theorem openSort5 : openSort 5 = true := by kernel_rfl
theorem openSort6 : openSort 6 = true := by kernel_rfl
theorem openSort7 : openSort 7 = true := by kernel_rfl
end Go.Proofs.Yteeoepbbocdchaa
