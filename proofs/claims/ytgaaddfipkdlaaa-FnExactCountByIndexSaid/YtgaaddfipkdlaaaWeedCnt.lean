/- CountByWinding. -/
import Derived.Test.YtgaaddfipkdlaaaWeedWind
namespace Go.Proofs.Ytgaaddfipkdlaaa
open Go.RowKit
set_option linter.unusedSimpArgs false
set_option linter.unusedVariables false

def tkP (c : Nat) : Int := if c % 5 = 1 then ((c / 5 : Nat) : Int) % 2 else 0
def tkQ (c : Nat) : Int := if c % 5 = 1 then ((c / 5 : Nat) : Int) / 2 else 0
def cntP (d : List (List Int × List Int × Nat)) : Int := (d.map (fun x => tkP x.2.2)).sum
def cntQ (d : List (List Int × List Int × Nat)) : Int := (d.map (fun x => tkQ x.2.2)).sum
theorem cntP_snoc (d : List (List Int × List Int × Nat)) (x : List Int × List Int × Nat) : cntP (d ++ [x]) = cntP d + tkP x.2.2 := by simp [cntP]
theorem cntQ_snoc (d : List (List Int × List Int × Nat)) (x : List Int × List Int × Nat) : cntQ (d ++ [x]) = cntQ d + tkQ x.2.2 := by simp [cntQ]
theorem tk_bound {T B : List Int} (h1 : 1 ≤ hdI T) (h2 : hdI T ≤ 20) : 0 ≤ tkP (stepC T B) ∧ tkP (stepC T B) ≤ 20 ∧ 0 ≤ tkQ (stepC T B) ∧ tkQ (stepC T B) ≤ 20 := by
  unfold tkP tkQ
  rw [stepC_div]
  split <;> omega
theorem stepN_one {T B : List Int} : stepN T B = 1 ↔ hdI T = hdI B := by
  unfold stepN
  split
  · constructor
    · intro h; cases h
    · intro h; omega
  · split
    · next h => exact ⟨fun _ => h, fun _ => rfl⟩
    · next h =>
      constructor
      · intro hh; split at hh
        · cases hh
        · split at hh <;> cases hh
      · intro hh; exact absurd hh h
theorem tk_yes {T B : List Int} (h : hdI T = hdI B) (h1 : 1 ≤ hdI T) : tkP (stepC T B) = hdI T % 2 ∧ tkQ (stepC T B) = hdI T / 2 := by
  unfold tkP tkQ
  rw [stepC_mod, stepC_div, stepN_one.2 h, if_pos rfl, if_pos rfl]
  rw [Int.toNat_of_nonneg (by omega)]; exact ⟨rfl, rfl⟩
theorem tk_no {T B : List Int} (h : ¬ hdI T = hdI B) : tkP (stepC T B) = 0 ∧ tkQ (stepC T B) = 0 := by
  unfold tkP tkQ
  rw [stepC_mod, if_neg (fun e => h (stepN_one.1 e)), if_neg (fun e => h (stepN_one.1 e))]; exact ⟨rfl, rfl⟩
theorem windM_le2 {t b : List Int} (h : weedB t b = true) : windM t b ≤ 41 := by
  have := parts_facts (weed_facts h).1
  unfold windM; split <;> omega

def ok_CountByWinding (t b : List Int) : Bool := weedB t b
def res1_CountByWinding (t b : List Int) : Int := if weedB t b then cntP (windAll t b) else 0
def res2_CountByWinding (t b : List Int) : Int := if weedB t b then cntQ (windAll t b) else 0

end Go.Proofs.Ytgaaddfipkdlaaa
