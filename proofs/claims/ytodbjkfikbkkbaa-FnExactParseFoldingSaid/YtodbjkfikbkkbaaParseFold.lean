/- ParseFolding. -/
import Derived.Test.YtodbjkfikbkkbaaStkRead
import Derived.Test.YtodbjkfikbkkbaaStkSpec
import Derived.Test.YtodbjkfikbkkbaaSlice
namespace Go.Proofs.Ytodbjkfikbkkbaa
open Go.RowKit
set_option linter.unusedSimpArgs false
set_option linter.unusedVariables false

def byteF (s : ByteArray) (k : Nat) : Nat := (s.data.toList.getD k 0).toNat
theorem byteF_eq (s : ByteArray) (k : Nat) (h : k < s.size) : s[k].toNat = byteF s k := by
  have h' : k < s.data.toList.length := by simpa using h
  simp only [byteF, List.getD, List.getElem?_eq_getElem h', Option.getD_some]
  rfl
theorem byteF_lt (s : ByteArray) (k : Nat) : byteF s k < 256 := (s.data.toList.getD k 0).toNat_lt
def pfL (s : ByteArray) : List Int := (List.range s.size).map fun k => (byteF s k : Int) - 48
theorem pfL_length (s : ByteArray) : (pfL s).length = s.size := by simp [pfL]
theorem pfL_get (s : ByteArray) (k : Nat) (h : k < s.size) : (pfL s).getD k 0 = (byteF s k : Int) - 48 := by simp [pfL, List.getD, h]
theorem pf_snoc (s : ByteArray) (k : Nat) (h : k < s.size) : (pfL s).take (k + 1) = (pfL s).take k ++ [(byteF s k : Int) - 48] := by
  rw [List.take_succ_eq_append_getElem (by rw [pfL_length]; exact h), ← pfL_get s k h]
  simp [List.getD, pfL_length, h]
def ok_ParseFolding (s : ByteArray) : Bool := stackB (pfL s)
def res_ParseFolding (s : ByteArray) : List Int := if stackB (pfL s) then pfL s else []
theorem len_ParseFolding (s : ByteArray) : (res_ParseFolding s).length ≤ 1000000 := by
  unfold res_ParseFolding
  split
  · next h => have := stack_len h; omega
  · simp
theorem pf_yes {s : ByteArray} (h : stackB (pfL s) = true) : res_ParseFolding s = pfL s ∧ ok_ParseFolding s = true := ⟨by unfold res_ParseFolding; rw [h]; rfl, h⟩
theorem pf_no {s : ByteArray} (h : stackB (pfL s) = false) : res_ParseFolding s = [] ∧ ok_ParseFolding s = false := ⟨by unfold res_ParseFolding; rw [h]; rfl, h⟩
theorem pf_long (s : ByteArray) (h : 8 < s.size) : stackB (pfL s) = false := by
  unfold stackB
  rw [pfL_length]
  simp [show ¬ s.size ≤ 8 by omega]

set_option maxHeartbeats 2000000 in
theorem specPF_run (s : ByteArray) (w : World) (h8 : s.size ≤ 8) : Calls Try.prog 30 #[.string s] w (Gives w (res_ParseFolding s) (ok_ParseFolding s)) := by
  have hby := Lib.hid (fun k hk => byteF_eq s k hk)
  have hlt256 := fun k => byteF_lt s k
  have HSN := Lib.hid (pf_snoc s)
  have HPL := Lib.hid (pfL_length s)
  have HLT := Lib.hid hlt256; clear hlt256
  have H0 : Hid ((pfL s).take 0 = []) := rfl
  go_enter Try.func30, Try.ntmps30
  go_wp2
  go_loopw [4, 5] (fun o q wr => ∃ (k : Nat), k ≤ s.size ∧ q = .int .i64 (k : Int) ∧ Own w.heap.size wr o ((pfL s).take k) ∧ Below w.heap.size w wr) (fun _ q _ => s.size - (intOf q).toNat)
  case atStart => exact ⟨0, by omega, rfl, Own.nil _ _, Below.refl _ _⟩
  case round =>
    obtain ⟨k, hk, rfl, hown, hbel⟩ := hrel
    have hsz := hbel.size
    by_cases hlt : k < s.size
    · have hbk := hby.out k hlt
      have hx := HLT.out k
      have hsn := HSN.out k hlt
      have HL : Hid (((pfL s).take k).length ≤ 8) := by show _ ≤ 8; rw [List.length_take]; omega
      rw [← hbk] at hsn hx
      have HS := Lib.hid hsn
      clear hsn hbk
      go_wp2_with (at_builtin; refine wp_append _ rfl _ _ rfl w.heap.size _ _ ((pfL s).take k) [(s[k].toNat : Int) - 48] rfl rfl (Own.below hown (Below.alloc1 _ _)) (Own.rd (Own.lit1 _ _ _ (Nat.le_refl _))) (by have := HL.out; simp only [List.length_cons, List.length_nil]; omega) (by simp; omega) ?_; intro v' w1 hown1 hgr hbel1; rw [← HS.out] at hown1; have hbel2 := (hbel.alloc hsz _).trans hbel1; clear hown hgr hbel1 hbel)
      go_roundw
      case rel => exact ⟨k + 1, by omega, by go_num, hown1, hbel2⟩
      case measure => simp [intOf]; omega
    · obtain rfl : k = s.size := by omega
      rw [List.take_of_length_le (by rw [HPL.out]; exact Nat.le_refl _)] at hown
      have HP := Lib.hid (spStack_any _ _ wr (Own.rd hown))
      cases hg : stackB (pfL s) with
      | true =>
        rw [hg] at HP
        have HR : Hid (res_ParseFolding s = pfL s ∧ ok_ParseFolding s = true) := pf_yes hg
        clear hg
        go_wp2_with (go_at_call 34; refine HP.out.mono ?_; rintro e w1 ⟨rfl, rfl⟩)
        go_ret2
        rw [HR.out.1, HR.out.2]
        exact ⟨_, rfl, hown, hbel⟩
      | false =>
        rw [hg] at HP
        have HR : Hid (res_ParseFolding s = [] ∧ ok_ParseFolding s = false) := pf_no hg
        clear hg
        go_wp2_with (go_at_call 34; refine HP.out.mono ?_; rintro e w1 ⟨rfl, rfl⟩)
        go_ret2
        rw [HR.out.1, HR.out.2]
        exact ⟨_, rfl, Own.nil _ _, hbel⟩

theorem spec_ParseFolding (s : ByteArray) (w : World) (hs : s.size ≤ 1048576) : Calls Try.prog 30 #[.string s] w (Gives w (res_ParseFolding s) (ok_ParseFolding s)) := by
  by_cases h : s.size ≤ 8
  · exact specPF_run s w h
  · unfold res_ParseFolding ok_ParseFolding
    rw [pf_long s (by omega)]
    simp only [Bool.false_eq_true, if_false]
    have h2 : 8 < s.size := by omega
    clear h
    go_enter Try.func30, Try.ntmps30
    go_wp2
    go_ret2
    exact ⟨_, rfl, Own.nil _ _, Below.refl _ _⟩

set_option maxHeartbeats 2000000 in
theorem implPF_run (s : ByteArray) (w : World) (h8 : s.size ≤ 8) : Calls Try.prog 31 #[.string s] w (Gives w (res_ParseFolding s) (ok_ParseFolding s)) := by
  have hby := Lib.hid (fun k hk => byteF_eq s k hk)
  have hlt256 := fun k => byteF_lt s k
  have HPG := Lib.hid (pfL_get s)
  have HPL := Lib.hid (pfL_length s)
  have HLT := Lib.hid hlt256; clear hlt256
  have HFS := Lib.hid (fun (n k : Nat) (hn : n = (pfL s).length) (hk : k < n) => fill_set (pfL s) n k hn hk)
  have HZ : Hid (List.replicate s.size (0 : Int) = (pfL s).take 0 ++ List.replicate (s.size - 0) 0) := by show _ = _; simp
  go_enter Try.func31, Try.ntmps31
  go_wp2_with (at_make; refine wp_make w rfl _ _ rfl s.size _ _ rfl rfl rfl rfl (by omega) ?_; intro w2 hown hbel hsz; rw [HZ.out] at hown)
  go_loopw [16] (fun q wr => ∃ (k : Nat), k ≤ s.size ∧ q = .int .i64 (k : Int) ∧ Own w.heap.size wr (.slice (some ⟨w.heap.size, 0, none⟩) s.size s.size) ((pfL s).take k ++ List.replicate (s.size - k) 0) ∧ Below w.heap.size w wr) (fun q _ => s.size - (intOf q).toNat)
  case atStart => exact ⟨0, by omega, rfl, hown, hbel⟩
  case round =>
    clear hown hbel hsz
    obtain ⟨k, hk, rfl, hown, hbel⟩ := hrel
    by_cases hlt : k < s.size
    · have hbk := hby.out k hlt
      have hx := HLT.out k
      have hfs := HFS.out s.size k HPL.out.symm hlt
      rw [HPG.out k hlt, ← hbk] at hfs
      rw [← hbk] at hx
      have hlen : ((pfL s).take k ++ List.replicate (s.size - k) 0).length = s.size := by rw [List.length_append, List.length_take, HPL.out, List.length_replicate]; omega
      have hdst := hown.cellAt k (by rw [hlen]; exact hlt)
      have hfr := hown.frozenAt k
      have hnew := hown.stored k ((s[k].toNat : Int) - 48)
      rw [hfs] at hnew
      have HW := Lib.hid hnew
      have HB := Lib.hid (hbel.setCell (p := ⟨w.heap.size, k, none⟩) (Nat.le_refl _) (.int .i64 ((s[k].toNat : Int) - 48)))
      generalize ((pfL s).take k ++ List.replicate (s.size - k) 0).getD k 0 = z at hdst
      clear hnew hown hbel hfs hlen hbk
      go_wp2
      go_roundw
      case rel => exact ⟨k + 1, by omega, by go_num, HW.out, HB.out⟩
      case measure => simp [intOf]; omega
    · obtain rfl : k = s.size := by omega
      rw [List.take_of_length_le (by rw [HPL.out]; exact Nat.le_refl _), Nat.sub_self, List.replicate_zero, List.append_nil] at hown
      have hb0 := hbel.size
      cases hg : stackB (pfL s) with
      | true =>
        have HL := Lib.hid (stack_len hg)
        have HC := Lib.hid (readStack_yes _ _ wr (Own.rd hown) hg)
        have HR : Hid (res_ParseFolding s = pfL s ∧ ok_ParseFolding s = true) := pf_yes hg
        clear hg
        go_wp2_with (first
          | (go_at_call 36; refine HC.out.mono ?_; rintro e w1 ⟨rfl, hb1⟩)
          | ((with_reducible refine wp_storeNewStk rfl (.tmp 6) (.tmp 31) rfl _ (pfL s) HL.out rfl rfl ?_); intro w2 hs2 hb2))
        go_ret2
        rw [HR.out.1, HR.out.2]
        have C := Below.step hb1 hb2
        exact ⟨_, rfl, hown.below C, Below.step hbel C⟩
      | false =>
        have HC := Lib.hid (readStack_no _ _ wr (Own.rd hown) hg)
        have HR : Hid (res_ParseFolding s = [] ∧ ok_ParseFolding s = false) := pf_no hg
        clear hg
        go_wp2_with (first
          | (go_at_call 36; refine HC.out.mono ?_; rintro e w1 ⟨rfl, hb1⟩)
          | ((with_reducible refine wp_storeNewStk rfl (.tmp 6) (.tmp 31) rfl _ [] (Nat.zero_le _) rfl rfl ?_); intro w2 hs2 hb2))
        go_ret2
        rw [HR.out.1, HR.out.2]
        exact ⟨_, rfl, Own.nil _ _, Below.step hbel (Below.step hb1 hb2)⟩

theorem impl_ParseFolding (s : ByteArray) (w : World) (hs : s.size ≤ 1048576) : Calls Try.prog 31 #[.string s] w (Gives w (res_ParseFolding s) (ok_ParseFolding s)) := by
  by_cases h : s.size ≤ 8
  · exact implPF_run s w h
  · unfold res_ParseFolding ok_ParseFolding
    rw [pf_long s (by omega)]
    simp only [Bool.false_eq_true, if_false]
    have h2 : 8 < s.size := by omega
    clear h
    go_enter Try.func31, Try.ntmps31
    go_wp2
    go_ret2
    exact ⟨_, rfl, Own.nil _ _, Below.refl _ _⟩

end Go.Proofs.Ytodbjkfikbkkbaa
