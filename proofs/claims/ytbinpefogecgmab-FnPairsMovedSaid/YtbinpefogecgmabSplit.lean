/- A text split at its bars. -/
import Derived.Test.YtbinpefogecgmabParse
import Derived.Test.YtbinpefogecgmabOwn
import Derived.Test.YtbinpefogecgmabStr0
namespace Go.Proofs.Ytbinpefogecgmab
open Go.RowKit
set_option linter.unusedSimpArgs false
set_option linter.unusedVariables false

def splitAt' (s : ByteArray) : Nat → List ByteArray × Nat
  | 0 => ([], 0)
  | k + 1 => if byteN s k = 124 then ((splitAt' s k).1 ++ [s.extract (splitAt' s k).2 k], k + 1) else splitAt' s k
def splitL (s : ByteArray) : List ByteArray := (splitAt' s s.size).1 ++ [s.extract (splitAt' s s.size).2 s.size]
theorem splitAt_le (s : ByteArray) : ∀ k, (splitAt' s k).1.length ≤ k ∧ (splitAt' s k).2 ≤ k
  | 0 => by simp [splitAt']
  | k + 1 => by
    have := splitAt_le s k
    rw [splitAt']
    split
    · simp only [List.length_append, List.length_cons, List.length_nil]; omega
    · omega
theorem splitAt_yes {s : ByteArray} {k : Nat} (h : byteN s k = 124) : splitAt' s (k + 1) = ((splitAt' s k).1 ++ [s.extract (splitAt' s k).2 k], k + 1) := by rw [splitAt', if_pos h]
theorem splitAt_no {s : ByteArray} {k : Nat} (h : byteN s k ≠ 124) : splitAt' s (k + 1) = splitAt' s k := by rw [splitAt', if_neg h]
theorem splitAt_none (s : ByteArray) : ∀ k, (∀ j, j < k → byteN s j ≠ 124) → splitAt' s k = ([], 0)
  | 0, _ => rfl
  | k + 1, h => by rw [splitAt_no (h k (by omega))]; exact splitAt_none s k (fun j hj => h j (by omega))
theorem splitL_none {s : ByteArray} (h : ∀ j, j < s.size → byteN s j ≠ 124) : splitL s = [s.extract 0 s.size] := by rw [splitL, splitAt_none s _ h]; rfl
theorem splitAt_first {s : ByteArray} {i : Nat} (hb : byteN s i = 124) (hf : ∀ j, j < i → byteN s j ≠ 124) : splitAt' s (i + 1) = ([s.extract 0 i], i + 1) := by rw [splitAt_yes hb, splitAt_none s i hf]; rfl
theorem splitAt_one {s : ByteArray} {i : Nat} (hb : byteN s i = 124) (hf : ∀ j, j < i → byteN s j ≠ 124) : ∀ m, (∀ j, i < j → j < i + 1 + m → byteN s j ≠ 124) → splitAt' s (i + 1 + m) = ([s.extract 0 i], i + 1)
  | 0, _ => splitAt_first hb hf
  | m + 1, h => by rw [← Nat.add_assoc, splitAt_no (h (i + 1 + m) (by omega) (by omega))]; exact splitAt_one hb hf m (fun j h1 h2 => h j h1 (by omega))
theorem splitAt_mono (s : ByteArray) : ∀ m k, (splitAt' s k).1.length ≤ (splitAt' s (k + m)).1.length
  | 0, k => Nat.le_refl _
  | m + 1, k => by
    have := splitAt_mono s m k
    rw [← Nat.add_assoc, splitAt']
    split
    · simp only [List.length_append, List.length_cons, List.length_nil]; omega
    · exact this
theorem splitL_one {s : ByteArray} {i : Nat} (hi : i < s.size) (hb : byteN s i = 124) (hf : ∀ j, j < i → byteN s j ≠ 124) (hr : ∀ j, i < j → j < s.size → byteN s j ≠ 124) : splitL s = [s.extract 0 i, s.extract (i + 1) s.size] := by
  have h := splitAt_one hb hf (s.size - (i + 1)) (fun j h1 h2 => hr j h1 (by omega))
  rw [show i + 1 + (s.size - (i + 1)) = s.size by omega] at h
  rw [splitL, h]; rfl
theorem splitL_more {s : ByteArray} {i j : Nat} (hb : byteN s i = 124) (hij : i < j) (hj : j < s.size) (hb2 : byteN s j = 124) : 3 ≤ (splitL s).length := by
  have h1 : 1 ≤ (splitAt' s (i + 1)).1.length := by rw [splitAt_yes hb]; simp
  have h2 := splitAt_mono s (j - (i + 1)) (i + 1)
  rw [show i + 1 + (j - (i + 1)) = j by omega] at h2
  have h3 : (splitAt' s (j + 1)).1.length = (splitAt' s j).1.length + 1 := by rw [splitAt_yes hb2]; simp
  have h4 := splitAt_mono s (s.size - (j + 1)) (j + 1)
  rw [show j + 1 + (s.size - (j + 1)) = s.size by omega] at h4
  rw [splitL, List.length_append]
  simp only [List.length_cons, List.length_nil]; omega

set_option maxHeartbeats 4000000 in
theorem l1Split_any (s : ByteArray) (w : World) (hs : s.size ≤ 1048600) :
    Calls Try.prog 124 #[.string s, .int .u8 124] w fun e w' => ∃ v, e = .returned v ∧ OwnSt w.heap.size w' v (splitL s) ∧ Below w.heap.size w w' := by
  have HBY := Lib.hid (fun k hk => byteN_eq s k hk)
  go_enter Try.func124, Try.ntmps124
  go_wp2
  go_loopw [5, 6, 7] (fun o f i wr => ∃ k : Nat, k ≤ s.size ∧ i = .int .i64 (k : Int) ∧ f = .int .i64 (((splitAt' s k).2 : Nat) : Int) ∧ OwnSt w.heap.size wr o (splitAt' s k).1 ∧ Below w.heap.size w wr) (fun _ _ i _ => s.size - (intOf i).toNat)
  case atStart => exact ⟨0, by omega, rfl, rfl, OwnSt.nil _ _, Below.refl _ _⟩
  case round =>
    obtain ⟨k, hk, rfl, rfl, hown, hbel⟩ := hrel
    generalize wr = wa at *
    have hle := splitAt_le s k
    by_cases hlt : k < s.size
    · have hby := HBY.out k hlt
      have hyes := splitAt_yes (s := s) (k := k)
      have hno := splitAt_no (s := s) (k := k)
      generalize splitAt' s k = S at *
      obtain ⟨ps, f⟩ := S
      simp only at hle hyes hno hown
      by_cases hb : byteN s k = 124
      · have t1 : ((s[k].toNat : Int) == 124) = true := by rw [hby, hb]; rfl
        have HY := Lib.hid (hyes hb)
        have HO := Lib.hid hown; have HB := Lib.hid hbel; have HLE := Lib.hid hle
        have b1 : (0 : Int) ≤ (f : Int) := by omega
        have b2 : (f : Int) ≤ (k : Int) := by omega
        have b3 : (k : Int) ≤ (s.size : Int) := by omega
        clear hyes hno hown hbel hby hb
        go_wp2_with (at_builtin; refine wp_appendSt _ rfl _ _ rfl w.heap.size wa.heap.size _ ps (s.extract f k) rfl rfl (cell_litS _ _ _) (HO.out.below (Below.alloc1 _ _)) (by have := HLE.out.1; omega) (by have := HB.out.size; simp; omega) ?_; intro v' w2 ho2 hb2; have HO2 := Lib.hid ho2; have HB2 := Lib.hid ((HB.out.alloc HB.out.size (.cells #[.string (s.extract f k)] 9)).trans hb2); clear ho2 hb2)
        go_roundw
        case rel => exact ⟨k + 1, by omega, by go_num, by rw [HY.out]; go_num, by rw [HY.out]; exact HO2.out, HB2.out⟩
        case measure => simp [intOf]; omega
      · have t1 : ((s[k].toNat : Int) == 124) = false := by rw [hby]; simp; omega
        have HN := Lib.hid (hno hb)
        have HO := Lib.hid hown; have HB := Lib.hid hbel
        clear hyes hno hown hbel hby hb
        go_wp2
        go_roundw
        case rel => exact ⟨k + 1, by omega, by go_num, by rw [HN.out], by rw [HN.out]; exact HO.out, HB.out⟩
        case measure => simp [intOf]; omega
    · obtain rfl : k = s.size := by omega
      have hfin : splitL s = (splitAt' s s.size).1 ++ [s.extract (splitAt' s s.size).2 s.size] := rfl
      generalize splitAt' s s.size = S at *
      obtain ⟨ps, f⟩ := S
      simp only at hle hfin hown
      have HF := Lib.hid hfin; have HO := Lib.hid hown; have HB := Lib.hid hbel; have HLE := Lib.hid hle
      have b1 : (0 : Int) ≤ (f : Int) := by omega
      have b2 : (f : Int) ≤ (s.size : Int) := by omega
      clear hfin hown hbel
      go_wp2_with (at_builtin; refine wp_appendSt _ rfl _ _ rfl w.heap.size wa.heap.size _ ps (s.extract f s.size) rfl rfl (cell_litS _ _ _) (HO.out.below (Below.alloc1 _ _)) (by have := HLE.out.1; omega) (by have := HB.out.size; simp; omega) ?_; intro v' w2 ho2 hb2; have HB2 := Lib.hid ((HB.out.alloc HB.out.size (.cells #[.string (s.extract f s.size)] 9)).trans hb2); obtain ⟨x1, y1, z1, hv⟩ : ∃ a n c, v' = .slice a n c := (by obtain ⟨a, c, h, _⟩ := ho2.form; exact ⟨a, _, c, h⟩); subst hv; have HO2 := Lib.hid ho2; clear ho2 hb2)
      go_ret
      exact ⟨_, rfl, by rw [HF.out]; exact HO2.out, HB2.out⟩

end Go.Proofs.Ytbinpefogecgmab
