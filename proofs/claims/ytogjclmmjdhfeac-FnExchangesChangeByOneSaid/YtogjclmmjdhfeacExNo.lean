/- The systems behind one exchange are different (pure). -/
import Derived.Test.YtogjclmmjdhfeacExMath
import Derived.Test.YtogjclmmjdhfeacPutMath
namespace Go.Proofs.Ytogjclmmjdhfeac
set_option linter.unusedSimpArgs false
set_option linter.unusedVariables false

def encR (r : List Int) : Nat := r.foldl (fun a x => a * 16 + x.toNat) 0
def distB : List Nat → Bool
  | [] => true
  | x :: xs => xs.all (fun y => !Nat.beq x y) && distB xs
theorem dist_apart : ∀ {xs : List Nat}, distB xs = true → xs.Pairwise (fun x y => x ≠ y)
  | [], _ => List.Pairwise.nil
  | x :: xs, h => by
    unfold distB at h
    rw [Bool.and_eq_true, List.all_eq_true] at h
    refine List.Pairwise.cons (fun y hy e => ?_) (dist_apart h.2)
    have := h.1 y hy
    subst e
    rw [Nat.beq_refl] at this
    cases this
def exDistB (l : List Int) : Bool := distB ((exsL l).map encR)
theorem exN0 : (sysAll 0).all exDistB = true := by kernel_rfl
theorem exN1 : (sysAll 1).all exDistB = true := by kernel_rfl
theorem exN2 : (sysAll 2).all exDistB = true := by kernel_rfl
theorem exN3 : (sysAll 3).all exDistB = true := by kernel_rfl
theorem exN4 : (sysAll 4).all exDistB = true := by kernel_rfl
theorem exN5 : (sysAll 5).all exDistB = true := by kernel_rfl
theorem exN6a : ((sysAll 6).take 33).all exDistB = true := by kernel_rfl
theorem exN6b : (((sysAll 6).drop 33).take 33).all exDistB = true := by kernel_rfl
theorem exN6c : ((((sysAll 6).drop 33).drop 33).take 33).all exDistB = true := by kernel_rfl
theorem exN6d : ((((sysAll 6).drop 33).drop 33).drop 33).all exDistB = true := by kernel_rfl
theorem exN6 : (sysAll 6).all exDistB = true := all_split exN6a (all_split exN6b (all_split exN6c exN6d))
theorem exs_apart {l : List Int} (h : goodB l = true) : (exsL l).Pairwise (fun x y => x ≠ y) := by
  have h1 : exDistB l = true := good_all6 exN0 exN1 exN2 exN3 exN4 exN5 exN6 h
  have h2 := dist_apart h1
  rw [List.pairwise_map] at h2
  exact h2.imp fun h e => h (congrArg encR e)
/-- the model's list: a row that is there already is not put in again -/
def exSet (ls : List (List Int)) (p : List Int) : List (List Int) := if p ∈ ls then ls else putSL ls p
theorem exSet_fold : ∀ (ls acc : List (List Int)), (acc ++ ls).Pairwise (fun x y => x ≠ y) → ∀ out : List (List Int), (∀ r, r ∈ out ↔ r ∈ acc) → ls.foldl exSet out = ls.foldl putSL out
  | [], _, _, _, _ => rfl
  | p :: ls, acc, h, out, ho => by
    have hp : p ∉ out := fun hm => by
      have hm2 := (ho p).1 hm
      exact (List.pairwise_append.1 h).2.2 p hm2 p (List.mem_cons_self ..) rfl
    rw [List.foldl_cons, List.foldl_cons]
    unfold exSet
    rw [if_neg hp]
    refine exSet_fold ls (acc ++ [p]) (by simpa using h) _ (fun r => ?_)
    rw [(putSL_perm out p).mem_iff, List.mem_cons, ho r, List.mem_append, List.mem_singleton, or_comm]
theorem exs_set {l : List Int} (h : goodB l = true) : (exsL l).foldl exSet [] = putAll (exsL l) :=
  exSet_fold (exsL l) [] (by simpa using exs_apart h) [] (fun r => by simp)

end Go.Proofs.Ytogjclmmjdhfeac
