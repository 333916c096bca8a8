/- strings.Cut at a bar. -/
import Derived.Test.YtbinpefogecgmabParse
import Derived.Lib.Strings
import Derived.Lib.Slices
import Derived.Lib.Walk
import Derived.Lib.Bytealg
import Derived.Deep.QuietTactic
import Derived.BigQuiet
namespace Go.Proofs.Ytbinpefogecgmab
open Go.RowKit
set_option linter.unusedSimpArgs false
set_option linter.unusedVariables false

theorem indexByte_none : ∀ (l : List UInt8) (c : UInt8), (∀ k, k < l.length → l.getD k 0 ≠ c) → Lib.indexByte l c = -1
  | [], c, _ => rfl
  | b :: l, c, h => by
    have h0 := h 0 (by simp)
    have ih := indexByte_none l c (fun k hk => by have := h (k + 1) (by simpa using hk); simpa using this)
    have : (b == c) = false := by simpa using h0
    rw [Lib.indexByte, this, ih]; rfl
theorem indexByte_some : ∀ (l : List UInt8) (c : UInt8) (i : Nat), i < l.length → l.getD i 0 = c → (∀ k, k < i → l.getD k 0 ≠ c) → Lib.indexByte l c = (i : Int)
  | [], c, i, hi, _, _ => by simp at hi
  | b :: l, c, 0, _, hb, _ => by
    have : (b == c) = true := by simpa using hb
    rw [Lib.indexByte, this]; rfl
  | b :: l, c, i + 1, hi, hb, hf => by
    have h0 := hf 0 (by omega)
    have ih := indexByte_some l c i (by simpa using hi) (by simpa using hb) (fun k hk => by have := hf (k + 1) (by omega); simpa using this)
    have : (b == c) = false := by simpa using h0
    rw [Lib.indexByte, this, ih]
    have h2 : ((i : Int) == -1) = false := by rw [beq_eq_false_iff_ne]; omega
    rw [h2]; simp
theorem byte_ne {s : ByteArray} {k : Nat} (h : byteN s k ≠ 124) : s.data.toList.getD k 0 ≠ 124 := fun e => h (by unfold byteN; rw [e]; rfl)
theorem byte_eq {s : ByteArray} {k : Nat} (h : byteN s k = 124) : s.data.toList.getD k 0 = 124 := by
  unfold byteN at h
  exact UInt8.toNat_inj.1 (by rw [h]; rfl)
/-- no bar, or a first one -/
theorem bar_cases (s : ByteArray) : (∀ k, k < s.size → byteN s k ≠ 124) ∨ ∃ i, i < s.size ∧ byteN s i = 124 ∧ ∀ k, k < i → byteN s k ≠ 124 := by
  have h : ∀ n, (∀ k, k < n → byteN s k ≠ 124) ∨ ∃ i, i < n ∧ byteN s i = 124 ∧ ∀ k, k < i → byteN s k ≠ 124 := by
    intro n
    induction n with
    | zero => exact .inl (fun k hk => by omega)
    | succ n ih =>
      rcases ih with ih | ⟨i, h1, h2, h3⟩
      · by_cases hb : byteN s n = 124
        · exact .inr ⟨n, by omega, hb, ih⟩
        · refine .inl fun k hk => ?_
          by_cases e : k = n
          · rw [e]; exact hb
          · exact ih k (by omega)
      · exact .inr ⟨i, by omega, h2, h3⟩
  exact h s.size

set_option maxHeartbeats 1000000 in
set_option maxRecDepth 100000 in
theorem indexByte_any (s : ByteArray) (c : Int) (w : World) :
    Calls Try.prog 156 #[.string s, .int .u8 c] w fun e w' => e = .returned (.int .i64 (Lib.indexByte s.data.toList c.toNat.toUInt8)) ∧ w' = w := by
  go_enter Try.func156, Try.ntmps156
  go_wp2
  rw [run_callFunc_extern Try.func162 (by kernel_rfl) (by kernel_rfl) (by kernel_rfl) (e := Extern.BytealgIndexByte.indexByte) (by kernel_rfl), Lib.run_indexByteString]
  simp only [Result.andThen]
  rw [Oper.upon_value]
  go_wp2
  go_ret
  exact ⟨rfl, rfl⟩

set_option maxHeartbeats 2000000 in
set_option maxRecDepth 100000 in
theorem index_one (s : ByteArray) (w : World) :
    Calls Try.prog 147 #[.string s, .string ⟨#[124]⟩] w fun e w' => e = .returned (.int .i64 (Lib.indexByte s.data.toList 124)) ∧ w = w' := by
  go_enter Try.func147, Try.ntmps147
  go_wp2_with (go_at_call 156; refine (indexByte_any _ _ _).mono ?_; rintro e w' ⟨rfl, rfl⟩)
  · have h : ([124] == s.toList) = true := by assumption
    go_ret
    refine ⟨?_, rfl⟩
    have e : s.data.toList = [124] := by rw [← Lib.toList_data]; exact (beq_iff_eq.1 h).symm
    rw [e]
    simp [Lib.indexByte]
  · go_ret
    exact ⟨rfl, rfl⟩

theorem scut_no (s : ByteArray) (w : World) (h : ∀ k, k < s.size → byteN s k ≠ 124) :
    Calls Try.prog 123 #[.string s, .string ⟨#[124]⟩] w fun e w' => e = .returned (.tuple #[.string s, .string ByteArray.empty, .bool false]) ∧ Below w.heap.size w w' := by
  have hx := index_one s w
  rw [indexByte_none s.data.toList 124 (fun k hk => byte_ne (h k (by simpa using hk)))] at hx
  have HX := Lib.hid hx; clear hx h
  go_enter Try.func123, Try.ntmps123
  go_wp2_with (go_at_call 147; refine HX.out.mono ?_; rintro e w' ⟨rfl, rfl⟩)
  go_ret3
  exact ⟨rfl, Below.refl _ _⟩
set_option maxRecDepth 100000 in
theorem scut_yes (s : ByteArray) (i : Nat) (w : World) (hs : s.size ≤ 1048600) (hi : i < s.size) (hb : byteN s i = 124) (hf : ∀ k, k < i → byteN s k ≠ 124) :
    Calls Try.prog 123 #[.string s, .string ⟨#[124]⟩] w fun e w' => e = .returned (.tuple #[.string (s.extract 0 i), .string (s.extract (i + 1) s.size), .bool true]) ∧ Below w.heap.size w w' := by
  have hx := index_one s w
  rw [indexByte_some s.data.toList 124 i (by simpa using hi) (byte_eq hb) (fun k hk => byte_ne (hf k hk))] at hx
  have HX := Lib.hid hx; clear hx hb hf
  have c1 : (0 : Int) ≤ ↑i := by omega
  have c2 : (↑i : Int) ≤ ↑s.size := by omega
  have c3 : (0 : Int) ≤ ↑i + 1 := by omega
  have c4 : (↑i + 1 : Int) ≤ ↑s.size := by omega
  go_enter Try.func123, Try.ntmps123
  go_wp2_with (go_at_call 147; refine HX.out.mono ?_; rintro e w' ⟨rfl, rfl⟩)
  go_quiet (fail)
  go_wp2
  go_ret3
  exact ⟨rfl, Below.drewN (Below.refl _ _) _⟩

theorem cut_no (s : ByteArray) (w : World) (h : ∀ k, k < s.size → byteN s k ≠ 124) :
    Calls Try.prog 76 #[.string s, .string ⟨#[124]⟩] w fun e w' => e = .returned (.tuple #[.string s, .string ByteArray.empty, .bool false]) ∧ Below w.heap.size w w' := by
  have HX := Lib.hid (scut_no s w h); clear h
  go_enter Try.func76, Try.ntmps76
  go_wp2_with fail
  refine HX.out.mono ?_
  rintro e w1 ⟨rfl, hb⟩
  go_wp2
  go_ret3
  exact ⟨rfl, hb⟩
theorem cut_yes (s : ByteArray) (i : Nat) (w : World) (hs : s.size ≤ 1048600) (hi : i < s.size) (hb : byteN s i = 124) (hf : ∀ k, k < i → byteN s k ≠ 124) :
    Calls Try.prog 76 #[.string s, .string ⟨#[124]⟩] w fun e w' => e = .returned (.tuple #[.string (s.extract 0 i), .string (s.extract (i + 1) s.size), .bool true]) ∧ Below w.heap.size w w' := by
  have HX := Lib.hid (scut_yes s i w hs hi hb hf)
  clear hs hi hb hf
  go_enter Try.func76, Try.ntmps76
  go_wp2_with fail
  refine HX.out.mono ?_
  rintro e w1 ⟨rfl, hb⟩
  go_wp2
  go_ret3
  exact ⟨rfl, hb⟩

end Go.Proofs.Ytbinpefogecgmab
