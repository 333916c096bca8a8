/- A system put into another one: plain mathematics. -/
import Derived.Test.YtaeeopdiodaiaaaEnum
namespace Go.Proofs.Ytaeeopdiodaiaaa
set_option linter.unusedSimpArgs false
set_option linter.unusedVariables false

def widen (at_ m : Nat) (x : Int) : Int := if (at_ : Int) ≤ x then x + m else x
/-- as the model makes it: the first k points of the one system, and the other one in front of the point at -/
def insK (p : List Int) (at_ : Nat) (q : List Int) : Nat → List Int
  | 0 => if at_ = 0 then q.map (· + (at_ : Int)) else []
  | k + 1 => insK p at_ q k ++ (widen at_ q.length (p.getD k 0) :: if at_ = k + 1 then q.map (· + (at_ : Int)) else [])
def insL (p : List Int) (at_ : Nat) (q : List Int) : List Int := insK p at_ q p.length
/-- as the program draws it -/
def setsL (f : Int → Int) (l o : List Int) : Nat → List Int
  | 0 => l
  | k + 1 => (setsL f l o k).set (f (k : Int)).toNat (f (o.getD k 0))
def roundTo (by_ size i : Int) : Int := ((i + by_).tmod size + size).tmod size
def insDraw (p : List Int) (at_ : Nat) (q : List Int) : List Int :=
  setsL (roundTo at_ ((p.length : Int) + q.length)) (setsL (widen at_ q.length) (List.replicate (p.length + q.length) 0) p p.length) q q.length
def insCheck (p : List Int) : Bool := (List.range (p.length + 1)).all fun i => (List.range (7 - p.length / 2)).all fun m => (sysAll m).all fun q => insDraw p i q == insL p i q
theorem insCheck0 : (sysAll 0).all insCheck = true := by kernel_rfl
theorem insCheck1 : (sysAll 1).all insCheck = true := by kernel_rfl
theorem insCheck2 : (sysAll 2).all insCheck = true := by kernel_rfl
theorem insCheck3 : (sysAll 3).all insCheck = true := by kernel_rfl
theorem insCheck4 : (sysAll 4).all insCheck = true := by kernel_rfl
theorem insCheck5 : (sysAll 5).all insCheck = true := by kernel_rfl
theorem insCheck6 : (sysAll 6).all insCheck = true := by kernel_rfl
theorem ins_draw {p q : List Int} (hp : goodB p = true) (hq : goodB q = true) {i : Nat} (hi : i ≤ p.length) (hl : p.length + q.length ≤ 12) : insDraw p i q = insL p i q := by
  have h1 := good_all6 insCheck0 insCheck1 insCheck2 insCheck3 insCheck4 insCheck5 insCheck6 hp
  unfold insCheck at h1
  have e1 := (good_facts hp).1
  have e2 := (good_facts hq).1
  have h2 := List.all_eq_true.1 (List.all_eq_true.1 h1 i (List.mem_range.2 (by omega))) (q.length / 2) (List.mem_range.2 (by omega))
  exact beq_iff_eq.1 (List.all_eq_true.1 h2 q (mem_sysAll hq))
theorem insK_length (p : List Int) (i : Nat) (q : List Int) : ∀ k, (insK p i q k).length = k + if i ≤ k then q.length else 0
  | 0 => by rw [insK]; split <;> simp <;> omega
  | k + 1 => by
    rw [insK, List.length_append, insK_length p i q k, List.length_cons]
    repeat' split
    all_goals (simp; try omega)
theorem insL_length {p : List Int} {i : Nat} (q : List Int) (hi : i ≤ p.length) : (insL p i q).length = p.length + q.length := by
  rw [insL, insK_length, if_pos hi]
end Go.Proofs.Ytaeeopdiodaiaaa
