/- A text split at its bars. -/
import Derived.Test.YtbinpefogecgmaaParse
import Derived.Test.YtbinpefogecgmaaOwn
import Derived.Test.YtbinpefogecgmaaStr0
namespace Go.Proofs.Ytbinpefogecgmaa
open Go.RowKit
set_option linter.unusedSimpArgs false
set_option linter.unusedVariables false

def splitAt' (s : ByteArray) : Nat → List ByteArray × Nat
  | 0 => ([], 0)
  | k + 1 => if byteN s k = 124 then ((splitAt' s k).1 ++ [s.extract (splitAt' s k).2 k], k + 1) else splitAt' s k
def splitL (s : ByteArray) : List ByteArray := (splitAt' s s.size).1 ++ [s.extract (splitAt' s s.size).2 s.size]
theorem splitAt_le (s : ByteArray) : ∀ k, (splitAt' s k).1.length ≤ k ∧ (splitAt' s k).2 ≤ k
  | 0 => by simp [splitAt']
  | k + 1 => by
    have := splitAt_le s k
    rw [splitAt']
    split
    · simp only [List.length_append, List.length_cons, List.length_nil]; omega
    · omega
theorem splitAt_yes {s : ByteArray} {k : Nat} (h : byteN s k = 124) : splitAt' s (k + 1) = ((splitAt' s k).1 ++ [s.extract (splitAt' s k).2 k], k + 1) := by rw [splitAt', if_pos h]
theorem splitAt_no {s : ByteArray} {k : Nat} (h : byteN s k ≠ 124) : splitAt' s (k + 1) = splitAt' s k := by rw [splitAt', if_neg h]
theorem splitAt_none (s : ByteArray) : ∀ k, (∀ j, j < k → byteN s j ≠ 124) → splitAt' s k = ([], 0)
  | 0, _ => rfl
  | k + 1, h => by rw [splitAt_no (h k (by omega))]; exact splitAt_none s k (fun j hj => h j (by omega))
theorem splitL_none {s : ByteArray} (h : ∀ j, j < s.size → byteN s j ≠ 124) : splitL s = [s.extract 0 s.size] := by rw [splitL, splitAt_none s _ h]; rfl
theorem splitAt_first {s : ByteArray} {i : Nat} (hb : byteN s i = 124) (hf : ∀ j, j < i → byteN s j ≠ 124) : splitAt' s (i + 1) = ([s.extract 0 i], i + 1) := by rw [splitAt_yes hb, splitAt_none s i hf]; rfl
theorem splitAt_one {s : ByteArray} {i : Nat} (hb : byteN s i = 124) (hf : ∀ j, j < i → byteN s j ≠ 124) : ∀ m, (∀ j, i < j → j < i + 1 + m → byteN s j ≠ 124) → splitAt' s (i + 1 + m) = ([s.extract 0 i], i + 1)
  | 0, _ => splitAt_first hb hf
  | m + 1, h => by rw [← Nat.add_assoc, splitAt_no (h (i + 1 + m) (by omega) (by omega))]; exact splitAt_one hb hf m (fun j h1 h2 => h j h1 (by omega))
theorem splitAt_mono (s : ByteArray) : ∀ m k, (splitAt' s k).1.length ≤ (splitAt' s (k + m)).1.length
  | 0, k => Nat.le_refl _
  | m + 1, k => by
    have := splitAt_mono s m k
    rw [← Nat.add_assoc, splitAt']
    split
    · simp only [List.length_append, List.length_cons, List.length_nil]; omega
    · exact this
theorem splitL_one {s : ByteArray} {i : Nat} (hi : i < s.size) (hb : byteN s i = 124) (hf : ∀ j, j < i → byteN s j ≠ 124) (hr : ∀ j, i < j → j < s.size → byteN s j ≠ 124) : splitL s = [s.extract 0 i, s.extract (i + 1) s.size] := by
  have h := splitAt_one hb hf (s.size - (i + 1)) (fun j h1 h2 => hr j h1 (by omega))
  rw [show i + 1 + (s.size - (i + 1)) = s.size by omega] at h
  rw [splitL, h]; rfl
theorem splitL_more {s : ByteArray} {i j : Nat} (hb : byteN s i = 124) (hij : i < j) (hj : j < s.size) (hb2 : byteN s j = 124) : 3 ≤ (splitL s).length := by
  have h1 : 1 ≤ (splitAt' s (i + 1)).1.length := by rw [splitAt_yes hb]; simp
  have h2 := splitAt_mono s (j - (i + 1)) (i + 1)
  rw [show i + 1 + (j - (i + 1)) = j by omega] at h2
  have h3 : (splitAt' s (j + 1)).1.length = (splitAt' s j).1.length + 1 := by rw [splitAt_yes hb2]; simp
  have h4 := splitAt_mono s (s.size - (j + 1)) (j + 1)
  rw [show j + 1 + (s.size - (j + 1)) = s.size by omega] at h4
  rw [splitL, List.length_append]
  simp only [List.length_cons, List.length_nil]; omega


end Go.Proofs.Ytbinpefogecgmaa
