/- Plain mathematics of tables: values, choices, exponents, products. -/
import Derived.Test.YtgaaddfipkdlaabMath
namespace Go.Proofs.Ytgaaddfipkdlaab
set_option linter.unusedSimpArgs false
set_option linter.unusedVariables false

/-- the values U(k) at x, and the one before -/
def uV (x : Int) : Nat → Int
  | 0 => 1
  | 1 => x
  | n + 2 => x * uV x (n + 1) - uV x n
def uP (x : Int) : Nat → Int
  | 0 => 0
  | n + 1 => uV x n
theorem uV_next (x : Int) (n : Nat) : x * uV x (n + 1) - uV x n = uV x (n + 2) := rfl
theorem uP_next (x : Int) : ∀ n, x * uV x n - uP x n = uV x (n + 1)
  | 0 => by simp [uV, uP]
  | n + 1 => rfl
theorem x_cases {x : Int} (h1 : -3 ≤ x) (h2 : x ≤ 3) : x = -3 ∨ x = -2 ∨ x = -1 ∨ x = 0 ∨ x = 1 ∨ x = 2 ∨ x = 3 := by omega
def bndB (x : Int) : Bool := allFrom (fun i => inB (uV x i) (-60000) 60000 && inB (x * uV x i) (-200000) 200000 && inB (uP x i) (-60000) 60000) 0 12
theorem bnd_all : bndB (-3) && bndB (-2) && bndB (-1) && bndB 0 && bndB 1 && bndB 2 && bndB 3 = true := by kernel_rfl
theorem uV_bound {x : Int} (h1 : -3 ≤ x) (h2 : x ≤ 3) {i : Nat} (hi : i ≤ 11) : (-60000 ≤ uV x i ∧ uV x i ≤ 60000) ∧ (-200000 ≤ x * uV x i ∧ x * uV x i ≤ 200000) ∧ (-60000 ≤ uP x i ∧ uP x i ≤ 60000) := by
  have h : bndB x = true := by
    have := bnd_all
    simp only [Bool.and_eq_true] at this
    obtain ⟨⟨⟨⟨⟨⟨a1, a2⟩, a3⟩, a4⟩, a5⟩, a6⟩, a7⟩ := this
    rcases x_cases h1 h2 with rfl | rfl | rfl | rfl | rfl | rfl | rfl <;> assumption
  have h3 := (allFrom_iff _ _ _).1 h i (by omega) (by omega)
  simp only [Bool.and_eq_true, inB_iff] at h3
  exact ⟨h3.1.1, h3.1.2, h3.2⟩

/-- choices of things: n up to 8, k up to 3 -/
def bin : Nat → Nat → Int
  | 0, 0 => 1
  | 0, 1 => 0
  | 0, 2 => 0
  | 0, 3 => 0
  | 1, 0 => 1
  | 1, 1 => 1
  | 1, 2 => 0
  | 1, 3 => 0
  | 2, 0 => 1
  | 2, 1 => 2
  | 2, 2 => 1
  | 2, 3 => 0
  | 3, 0 => 1
  | 3, 1 => 3
  | 3, 2 => 3
  | 3, 3 => 1
  | 4, 0 => 1
  | 4, 1 => 4
  | 4, 2 => 6
  | 4, 3 => 4
  | 5, 0 => 1
  | 5, 1 => 5
  | 5, 2 => 10
  | 5, 3 => 10
  | 6, 0 => 1
  | 6, 1 => 6
  | 6, 2 => 15
  | 6, 3 => 20
  | 7, 0 => 1
  | 7, 1 => 7
  | 7, 2 => 21
  | 7, 3 => 35
  | 8, 0 => 1
  | 8, 1 => 8
  | 8, 2 => 28
  | 8, 3 => 56
  | _, _ => 0
theorem bin_bound (n k : Nat) : 0 ≤ bin n k ∧ bin n k ≤ 56 := by
  unfold bin
  split <;> omega
def chI (n : Nat) (k : Int) : Int := if k < 0 then 0 else bin n k.toNat
theorem chI_bound (n : Nat) (k : Int) : 0 ≤ chI n k ∧ chI n k ≤ 56 := by
  unfold chI
  split
  · omega
  · exact bin_bound _ _
theorem chI_neg {n : Nat} {k : Int} (h : k < 0) : chI n k = 0 := if_pos h
theorem chI_nat (n k : Nat) : chI n k = bin n k := by unfold chI; rw [if_neg (by omega)]; rfl
def expo (n k : Int) : Int := chI (2 * n).toNat (n - k) - 2 * chI (2 * n).toNat (n - k - 1) + chI (2 * n).toNat (n - k - 2)

/-- the product of the first values to their exponents -/
def prodU (n x : Int) : Nat → Int
  | 0 => 1
  | k + 1 => prodU n x k * uV x (k + 1) ^ (expo n ((k : Int) + 1)).toNat
def big (y : Int) : Bool := inB y (-1000000000000000) 1000000000000000
/-- all that is met on the way to the product is small -/
def smallB (n x : Int) : Bool := allFrom (fun k => big (prodU n x k) && big (prodU n x (k + 1)) && inB (expo n ((k : Int) + 1)) 0 13 && allFrom (fun i => big (uV x (k + 1) ^ i)) 0 ((expo n ((k : Int) + 1)).toNat + 1)) 0 n.toNat
def asksB (n x : Int) : Bool := inB n 0 4 && inB x (-3) 3 && (decide (n < 4) || inB x (-2) 2)
theorem small_all : (smallB 1 (-3) && smallB 1 (-2) && smallB 1 (-1) && smallB 1 0 && smallB 1 1 && smallB 1 2 && smallB 1 3 && smallB 2 (-3) && smallB 2 (-2) && smallB 2 (-1) && smallB 2 0 && smallB 2 1 && smallB 2 2 && smallB 2 3 && smallB 3 (-3) && smallB 3 (-2) && smallB 3 (-1) && smallB 3 0 && smallB 3 1 && smallB 3 2 && smallB 3 3 && smallB 4 (-2) && smallB 4 (-1) && smallB 4 0 && smallB 4 1 && smallB 4 2) = true := by kernel_rfl
theorem asks_facts {n x : Int} (h : asksB n x = true) : 0 ≤ n ∧ n ≤ 4 ∧ -3 ≤ x ∧ x ≤ 3 ∧ (n = 4 → -2 ≤ x ∧ x ≤ 2) := by
  unfold asksB at h
  simp only [Bool.and_eq_true, Bool.or_eq_true, inB_iff, decide_eq_true_eq] at h
  omega
theorem small_of {n x : Int} (h : asksB n x = true) (h1 : 1 ≤ n) : smallB n x = true := by
  obtain ⟨a, b, c, d, e⟩ := asks_facts h
  have := small_all
  simp only [Bool.and_eq_true] at this
  have hn : n = 1 ∨ n = 2 ∨ n = 3 ∨ n = 4 := by omega
  rcases hn with rfl | rfl | rfl | rfl
  · rcases x_cases c d with rfl | rfl | rfl | rfl | rfl | rfl | rfl <;> simp [this]
  · rcases x_cases c d with rfl | rfl | rfl | rfl | rfl | rfl | rfl <;> simp [this]
  · rcases x_cases c d with rfl | rfl | rfl | rfl | rfl | rfl | rfl <;> simp [this]
  · have hx : x = -2 ∨ x = -1 ∨ x = 0 ∨ x = 1 ∨ x = 2 := by omega
    rcases hx with rfl | rfl | rfl | rfl | rfl <;> simp [this]
theorem small_facts {n x : Int} (h : asksB n x = true) (h1 : 1 ≤ n) {k : Nat} (hk : k < n.toNat) :
    (-1000000000000000 ≤ prodU n x k ∧ prodU n x k ≤ 1000000000000000) ∧ (-1000000000000000 ≤ prodU n x (k + 1) ∧ prodU n x (k + 1) ≤ 1000000000000000) ∧ (0 ≤ expo n ((k : Int) + 1) ∧ expo n ((k : Int) + 1) ≤ 13) ∧ ∀ i, i ≤ (expo n ((k : Int) + 1)).toNat → -1000000000000000 ≤ uV x (k + 1) ^ i ∧ uV x (k + 1) ^ i ≤ 1000000000000000 := by
  have h2 := (allFrom_iff _ _ _).1 (small_of h h1) k (by omega) (by omega)
  simp only [Bool.and_eq_true, big, inB_iff] at h2
  exact ⟨h2.1.1.1, h2.1.1.2, h2.1.2, fun i hi => by
    have := (allFrom_iff _ _ _).1 h2.2 i (by omega) (by omega)
    exact inB_iff.1 this⟩

def ok_ValueAt (k x : Int) : Bool := inB k 0 10 && inB x (-3) 3
def res_ValueAt (k x : Int) : Int := if ok_ValueAt k x then uV x k.toNat else 0
def ok_ExponentOf (n k : Int) : Bool := inB n 1 4 && inB k 1 n
def res_ExponentOf (n k : Int) : Int := if ok_ExponentOf n k then expo n k else 0
def ok_ProductDeterminant (n x : Int) : Bool := decide (n ≠ 0) && asksB n x
def res_ProductDeterminant (n x : Int) : Int := if ok_ProductDeterminant n x then prodU n x n.toNat else 0

end Go.Proofs.Ytgaaddfipkdlaab
