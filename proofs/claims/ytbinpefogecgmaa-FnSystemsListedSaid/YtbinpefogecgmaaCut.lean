/- strings.Cut at a bar. -/
import Derived.Test.YtbinpefogecgmaaParse
import Derived.Lib.Strings
import Derived.Lib.Slices
import Derived.Lib.Walk
import Derived.Lib.Bytealg
import Derived.Deep.QuietTactic
import Derived.BigQuiet
namespace Go.Proofs.Ytbinpefogecgmaa
open Go.RowKit
set_option linter.unusedSimpArgs false
set_option linter.unusedVariables false

theorem indexByte_none : ∀ (l : List UInt8) (c : UInt8), (∀ k, k < l.length → l.getD k 0 ≠ c) → Lib.indexByte l c = -1
  | [], c, _ => rfl
  | b :: l, c, h => by
    have h0 := h 0 (by simp)
    have ih := indexByte_none l c (fun k hk => by have := h (k + 1) (by simpa using hk); simpa using this)
    have : (b == c) = false := by simpa using h0
    rw [Lib.indexByte, this, ih]; rfl
theorem indexByte_some : ∀ (l : List UInt8) (c : UInt8) (i : Nat), i < l.length → l.getD i 0 = c → (∀ k, k < i → l.getD k 0 ≠ c) → Lib.indexByte l c = (i : Int)
  | [], c, i, hi, _, _ => by simp at hi
  | b :: l, c, 0, _, hb, _ => by
    have : (b == c) = true := by simpa using hb
    rw [Lib.indexByte, this]; rfl
  | b :: l, c, i + 1, hi, hb, hf => by
    have h0 := hf 0 (by omega)
    have ih := indexByte_some l c i (by simpa using hi) (by simpa using hb) (fun k hk => by have := hf (k + 1) (by omega); simpa using this)
    have : (b == c) = false := by simpa using h0
    rw [Lib.indexByte, this, ih]
    have h2 : ((i : Int) == -1) = false := by rw [beq_eq_false_iff_ne]; omega
    rw [h2]; simp
theorem byte_ne {s : ByteArray} {k : Nat} (h : byteN s k ≠ 124) : s.data.toList.getD k 0 ≠ 124 := fun e => h (by unfold byteN; rw [e]; rfl)
theorem byte_eq {s : ByteArray} {k : Nat} (h : byteN s k = 124) : s.data.toList.getD k 0 = 124 := by
  unfold byteN at h
  exact UInt8.toNat_inj.1 (by rw [h]; rfl)
/-- no bar, or a first one -/
theorem bar_cases (s : ByteArray) : (∀ k, k < s.size → byteN s k ≠ 124) ∨ ∃ i, i < s.size ∧ byteN s i = 124 ∧ ∀ k, k < i → byteN s k ≠ 124 := by
  have h : ∀ n, (∀ k, k < n → byteN s k ≠ 124) ∨ ∃ i, i < n ∧ byteN s i = 124 ∧ ∀ k, k < i → byteN s k ≠ 124 := by
    intro n
    induction n with
    | zero => exact .inl (fun k hk => by omega)
    | succ n ih =>
      rcases ih with ih | ⟨i, h1, h2, h3⟩
      · by_cases hb : byteN s n = 124
        · exact .inr ⟨n, by omega, hb, ih⟩
        · refine .inl fun k hk => ?_
          by_cases e : k = n
          · rw [e]; exact hb
          · exact ih k (by omega)
      · exact .inr ⟨i, by omega, h2, h3⟩
  exact h s.size


end Go.Proofs.Ytbinpefogecgmaa
