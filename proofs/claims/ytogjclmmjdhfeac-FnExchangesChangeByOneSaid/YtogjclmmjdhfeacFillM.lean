/- Systems drawn from their ranks, ranks told from systems, and the model's list of all systems: plain mathematics. -/
import Derived.Test.YtogjclmmjdhfeacEnum
namespace Go.Proofs.Ytogjclmmjdhfeac
set_option linter.unusedSimpArgs false
set_option linter.unusedVariables false

def catN : Nat → Nat
  | 0 => 1 | 1 => 1 | 2 => 2 | 3 => 5 | 4 => 14 | 5 => 42 | 6 => 132 | _ => 0
theorem catN_bd (n : Nat) (h : n ≤ 6) : 1 ≤ catN n ∧ catN n ≤ 132 := by
  have : n = 0 ∨ n = 1 ∨ n = 2 ∨ n = 3 ∨ n = 4 ∨ n = 5 ∨ n = 6 := by omega
  rcases this with rfl | rfl | rfl | rfl | rfl | rfl | rfl <;> decide

/-- how many arches are under the first one, and the rank that is left for what is under it and behind it -/
def splitR (m : Nat) : Nat → Nat → Nat → Nat × Nat
  | 0, i, r => (i, r)
  | f + 1, i, r => if catN i * catN (m - 1 - i) ≤ r then splitR m f (i + 1) (r - catN i * catN (m - 1 - i)) else (i, r)
/-- how many systems of m arches have at least i of them under the first one -/
def remN (m : Nat) : Nat → Nat → Nat
  | 0, _ => 0
  | f + 1, i => catN i * catN (m - 1 - i) + remN m f (i + 1)
theorem remN_all (m : Nat) (h : m ≤ 6) (h0 : 0 < m) : remN m m 0 = catN m := by
  have : m = 1 ∨ m = 2 ∨ m = 3 ∨ m = 4 ∨ m = 5 ∨ m = 6 := by omega
  rcases this with rfl | rfl | rfl | rfl | rfl | rfl <;> rfl
theorem splitR_yes {m f i r : Nat} (h : catN i * catN (m - 1 - i) ≤ r) : splitR m (f + 1) i r = splitR m f (i + 1) (r - catN i * catN (m - 1 - i)) := by rw [splitR, if_pos h]
theorem splitR_no {m f i r : Nat} (h : ¬ catN i * catN (m - 1 - i) ≤ r) : splitR m (f + 1) i r = (i, r) := by rw [splitR, if_neg h]
theorem remN_step {m f i r : Nat} (h : catN i * catN (m - 1 - i) ≤ r) (hr : r < remN m (f + 1) i) : r - catN i * catN (m - 1 - i) < remN m f (i + 1) := by
  rw [remN] at hr; omega

/-- the arches with a rank, drawn from a point on -/
def fillL : Nat → List Int → Nat → Nat → Nat → List Int
  | 0, l, _, _, _ => l
  | f + 1, l, a, m, r => if m = 0 then l else
    fillL f (fillL f ((l.set a ((a + 2 * (splitR m m 0 r).1 + 1 : Nat) : Int)).set (a + 2 * (splitR m m 0 r).1 + 1) (a : Int)) (a + 1) (splitR m m 0 r).1 ((splitR m m 0 r).2 / catN (m - 1 - (splitR m m 0 r).1)))
      (a + 2 * (splitR m m 0 r).1 + 2) (m - 1 - (splitR m m 0 r).1) ((splitR m m 0 r).2 % catN (m - 1 - (splitR m m 0 r).1))
theorem fillL_length : ∀ (f : Nat) (l : List Int) (a m r : Nat), (fillL f l a m r).length = l.length
  | 0, l, a, m, r => rfl
  | f + 1, l, a, m, r => by
    rw [fillL]
    split
    · rfl
    · rw [fillL_length f, fillL_length f, List.length_set, List.length_set]
theorem fillL_zero (f : Nat) (l : List Int) (a r : Nat) : fillL f l a 0 r = l := by
  cases f with
  | zero => rfl
  | succ f => rw [fillL, if_pos rfl]
theorem fillL_succ {f : Nat} {l : List Int} {a m r i s : Nat} (hm : m ≠ 0) (h : splitR m m 0 r = (i, s)) : fillL (f + 1) l a m r =
    fillL f (fillL f ((l.set a ((a + 2 * i + 1 : Nat) : Int)).set (a + 2 * i + 1) (a : Int)) (a + 1) i (s / catN (m - 1 - i))) (a + 2 * i + 2) (m - 1 - i) (s % catN (m - 1 - i)) := by
  rw [fillL, if_neg hm, h]

/-- the system of n arches with a rank -/
def rankedL (n r : Nat) : List Int := fillL 7 (List.replicate (2 * n) 0) 0 n r
theorem rankedL_length (n r : Nat) : (rankedL n r).length = 2 * n := by rw [rankedL, fillL_length, List.length_replicate]

/-- the sum before the first arch's end -/
def beforeN (m : Nat) : Nat → Nat
  | 0 => 0
  | k + 1 => beforeN m k + catN k * catN (m - 1 - k)
def endN (l : List Int) (a : Nat) : Nat := (l.getD a 0).toNat
def rankN : Nat → List Int → Nat → Nat → Nat
  | 0, _, _, _ => 0
  | f + 1, l, a, m => if m = 0 then 0 else
    beforeN m ((endN l a - a) / 2) + rankN f l (a + 1) ((endN l a - a) / 2) * catN (m - 1 - (endN l a - a) / 2) + rankN f l (endN l a + 1) (m - 1 - (endN l a - a) / 2)
/-- the arches from a point on are a system of their own, and their rank is in bounds -/
def rankOk : Nat → List Int → Nat → Nat → Bool
  | 0, _, _, m => m == 0
  | f + 1, l, a, m => m == 0 || (decide (a < endN l a) && decide (endN l a < a + 2 * m) && decide (a + 2 * m ≤ l.length) && decide ((endN l a - a) % 2 = 1) && decide (0 ≤ l.getD a 0)
      && rankOk f l (a + 1) ((endN l a - a) / 2) && rankOk f l (endN l a + 1) (m - 1 - (endN l a - a) / 2)
      && decide (beforeN m ((endN l a - a) / 2) ≤ 132) && decide (rankN f l (a + 1) ((endN l a - a) / 2) ≤ 132) && decide (rankN f l (endN l a + 1) (m - 1 - (endN l a - a) / 2) ≤ 132))
def rankOf (l : List Int) : Nat := rankN 7 l 0 (l.length / 2)

/-- the model's list -/
def ahRow (n a k : Nat) (u v : List Int) : List Int := ((a + 2 * k + 1 : Nat) : Int) :: (u ++ (a : Int) :: v)
def ahL : Nat → Nat → Nat → List (List Int)
  | 0, _, _ => [[]]
  | f + 1, n, a => if n = 0 then [[]] else (List.range n).flatMap fun k => (ahL f k (a + 1)).flatMap fun u => (ahL f (n - 1 - k) (a + 2 * k + 2)).map fun v => ahRow n a k u v
def allL (n : Nat) : List (List Int) := ahL 7 n 0

def allCheck (n : Nat) : Bool := allL n == (List.range (catN n)).map (rankedL n)
theorem allCheck_all : (List.range 7).all allCheck = true := by kernel_rfl
theorem allL_ranked {n : Nat} (h : n ≤ 6) : allL n = (List.range (catN n)).map (rankedL n) := by
  have := List.all_eq_true.1 allCheck_all n (List.mem_range.2 (by omega))
  exact eq_of_beq this
theorem allL_length {n : Nat} (h : n ≤ 6) : (allL n).length = catN n := by rw [allL_ranked h, List.length_map, List.length_range]
theorem allL_get {n r : Nat} (h : n ≤ 6) (hr : r < catN n) : (allL n).getD r [] = rankedL n r := by
  rw [allL_ranked h]; simp [List.getD, hr]

/-- a system is found in the list at its rank alone -/
def lastAt (l : List Int) (L : List (List Int)) : Nat → Nat
  | 0 => 0
  | k + 1 => if l = L.getD k [] then k else lastAt l L k
def rankCheck (n : Nat) (l : List Int) : Bool := rankOk 7 l 0 n && decide (rankOf l < catN n) && (lastAt l (allL n) (catN n) == rankOf l)
theorem rankCheck0 : (sysAll 0).all (rankCheck 0) = true := by kernel_rfl
theorem rankCheck1 : (sysAll 1).all (rankCheck 1) = true := by kernel_rfl
theorem rankCheck2 : (sysAll 2).all (rankCheck 2) = true := by kernel_rfl
theorem rankCheck3 : (sysAll 3).all (rankCheck 3) = true := by kernel_rfl
theorem rankCheck4 : (sysAll 4).all (rankCheck 4) = true := by kernel_rfl
theorem rankCheck5 : (sysAll 5).all (rankCheck 5) = true := by kernel_rfl
theorem rankCheck6 : (sysAll 6).all (rankCheck 6) = true := by kernel_rfl
theorem rank_facts {l : List Int} (hg : goodB l = true) : rankOk 7 l 0 (l.length / 2) = true ∧ rankOf l < catN (l.length / 2) ∧ lastAt l (allL (l.length / 2)) (catN (l.length / 2)) = rankOf l := by
  have h12 := good_len' hg
  have hm := mem_sysAll hg
  have hx : l.length / 2 ≤ 6 := by omega
  have : rankCheck (l.length / 2) l = true := by
    generalize l.length / 2 = n at hm hx
    have : n = 0 ∨ n = 1 ∨ n = 2 ∨ n = 3 ∨ n = 4 ∨ n = 5 ∨ n = 6 := by omega
    rcases this with rfl | rfl | rfl | rfl | rfl | rfl | rfl
    · exact List.all_eq_true.1 rankCheck0 l hm
    · exact List.all_eq_true.1 rankCheck1 l hm
    · exact List.all_eq_true.1 rankCheck2 l hm
    · exact List.all_eq_true.1 rankCheck3 l hm
    · exact List.all_eq_true.1 rankCheck4 l hm
    · exact List.all_eq_true.1 rankCheck5 l hm
    · exact List.all_eq_true.1 rankCheck6 l hm
  simp only [rankCheck, Bool.and_eq_true, decide_eq_true_eq, beq_iff_eq] at this
  exact ⟨this.1.1, this.1.2, this.2⟩

end Go.Proofs.Ytogjclmmjdhfeac
