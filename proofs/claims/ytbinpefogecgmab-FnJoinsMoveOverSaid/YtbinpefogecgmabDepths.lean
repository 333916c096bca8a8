/- DepthsOf. -/
import Derived.Test.YtbinpefogecgmabPoints
import Derived.Test.YtbinpefogecgmabEnum
import Derived.Test.YtbinpefogecgmabJoin
namespace Go.Proofs.Ytbinpefogecgmab
open Go.RowKit
set_option linter.unusedSimpArgs false
set_option linter.unusedVariables false

/-- how many arches are over each, by the points where they begin -/
def depthsI (l : List Int) : List Int := (whereL (beginsB l) l.length).map fun i => (overN l i i.toNat : Int)
def depthOver (l : List Int) : Nat → Int
  | 0 => 0
  | k + 1 => if (k : Int) < l.getD k 0 then depthOver l k + 1 else depthOver l k - 1
def depthS (l : List Int) : Nat → List Int
  | 0 => []
  | k + 1 => if (k : Int) < l.getD k 0 then depthS l k ++ [depthOver l k] else depthS l k
theorem depthOver_in (l : List Int) : ∀ k : Nat, -(k : Int) ≤ depthOver l k ∧ depthOver l k ≤ (k : Int)
  | 0 => by simp [depthOver]
  | k + 1 => by have := depthOver_in l k; unfold depthOver; split <;> omega
theorem depthS_len (l : List Int) : ∀ k, (depthS l k).length ≤ k
  | 0 => Nat.le_refl _
  | k + 1 => by have := depthS_len l k; unfold depthS; split <;> simp <;> omega
def depthCheck (l : List Int) : Bool := depthS l l.length == depthsI l
theorem depthCheck0 : (sysAll 0).all depthCheck = true := by kernel_rfl
theorem depthCheck1 : (sysAll 1).all depthCheck = true := by kernel_rfl
theorem depthCheck2 : (sysAll 2).all depthCheck = true := by kernel_rfl
theorem depthCheck3 : (sysAll 3).all depthCheck = true := by kernel_rfl
theorem depthCheck4 : (sysAll 4).all depthCheck = true := by kernel_rfl
theorem depthCheck5 : (sysAll 5).all depthCheck = true := by kernel_rfl
theorem depthCheck6 : (sysAll 6).all depthCheck = true := by kernel_rfl

theorem whereL_mem (c : Int → Bool) : ∀ k x, x ∈ whereL c k → 0 ≤ x ∧ x < (k : Int)
  | 0, x, h => by simp [whereL] at h
  | k + 1, x, h => by
    simp only [whereL, List.mem_append] at h
    rcases h with h | h
    · have := whereL_mem c k x h; omega
    · split at h
      · simp at h; omega
      · simp at h

def res_DepthsOf (l : List Int) : List Int := if goodB l then depthsI l else []
def ok_DepthsOf (l : List Int) : Bool := goodB l
theorem len_DepthsOf (l : List Int) : (res_DepthsOf l).length ≤ 1000000 := by
  unfold res_DepthsOf
  split
  · next h => have := whereL_len (beginsB l) l.length; have := good_len' h; simp [depthsI]; omega
  · simp

theorem mapped_set (P : List Int) (f : Int → Int) (k : Nat) (hk : k < P.length) : ((P.map f).take k ++ P.drop k).set k (f (P.getD k 0)) = (P.map f).take (k + 1) ++ P.drop (k + 1) := by
  have hlen : ((P.map f).take k).length = k := by rw [List.length_take, List.length_map]; omega
  rw [List.set_append_right _ _ (by omega), hlen, Nat.sub_self, List.drop_eq_getElem_cons hk, List.set_cons_zero, List.take_succ_eq_append_getElem (by simpa using hk), List.append_assoc]
  simp [List.getD, hk]

theorem mapped_get (P : List Int) (f : Int → Int) (k : Nat) (hk : k < P.length) : ((P.map f).take k ++ P.drop k).getD k 0 = P.getD k 0 := by
  have hlen : ((P.map f).take k).length = k := by rw [List.length_take, List.length_map]; omega
  rw [List.getD, List.getElem?_append_right (by omega), hlen, Nat.sub_self, List.getElem?_drop, Nat.add_zero]; rfl

end Go.Proofs.Ytbinpefogecgmab
