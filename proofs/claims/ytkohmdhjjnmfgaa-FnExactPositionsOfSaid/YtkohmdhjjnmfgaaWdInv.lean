/- InverseOf, BackwardsOf and MirrorPermutation in the program. -/
import Derived.Test.YtkohmdhjjnmfgaaWdRow
namespace Go.Proofs.Ytkohmdhjjnmfgaa
open Go.RowKit
set_option linter.unusedSimpArgs false
set_option linter.unusedVariables false

theorem wd_cases (l : List Int) (P : List Int → List Int → Bool → Prop) (h1 : wordB l = true → P l (idxW l) true) (h2 : wordB l = false → P [] zero12 false) : P (selL (wordB l) l) (selI (wordB l) l) (wordB l) := by
  cases h : wordB l with
  | true => exact h1 h
  | false => exact h2 h
theorem sel_len (l : List Int) : (selL (wordB l) l).length ≤ 12 := by
  cases h : wordB l with
  | true => exact word_len h
  | false => exact Nat.zero_le _
theorem seli_len (l : List Int) : (selI (wordB l) l).length = 12 := by
  cases h : wordB l with
  | true => exact idxW_length l
  | false => exact zero12_length
theorem sel_in (l : List Int) : InRange (selL (wordB l) l) := by
  cases h : wordB l with
  | true => exact (word_facts h).2.1
  | false => intro i hi; simp [selL_no] at hi

def ok_InverseOf (l : List Int) : Bool := wordB l
def res_InverseOf (l : List Int) : List Int := tellL (selL (wordB l) l).length fun k => (selI (wordB l) l).getD k 0
theorem len_InverseOf (l : List Int) : (res_InverseOf l).length ≤ 1000000 := by
  have := sel_len l
  unfold res_InverseOf
  rw [tellL_length]; omega

set_option maxHeartbeats 2000000 in
theorem impl_InverseOf (l : List Int) (w : World) (u : Value) (h : Rd w u l) (m : l.length ≤ 1048576) : Calls Try.prog 21 #[u] w (Gives w (res_InverseOf l) (ok_InverseOf l)) := by
  have hrw := readWord_any u l w h
  have hp := sel_len l
  have hb := seli_len l
  have hin := sel_in l
  unfold res_InverseOf ok_InverseOf
  generalize selL (wordB l) l = p at *
  generalize selI (wordB l) l = b at *
  generalize wordB l = R at *
  have hrow := fun w => row_idx p (fun k => b.getD k 0) (.agg (wdC p b)) w hp (fun k w hk => indexOf_any p b k w hp hb (by omega))
  have HR := Lib.hid hrw; have HP := Lib.hid hp; have HB := Lib.hid hb; have HROW := Lib.hid hrow
  generalize (tellL p.length fun k => b.getD k 0) = out at HROW ⊢
  clear hrw hp hb hrow hin
  go_enter Try.func21, Try.ntmps21
  go_wp2_with fail
  refine HR.out.mono ?_
  rintro e w1 ⟨rfl, hb1⟩
  go_wp2_with (first
      | ((with_reducible refine wp_storeNewWd rfl (.tmp 4) (.tmp 9) rfl w1 p b HP.out HB.out rfl rfl ?_); intro w2 hs2 hb2; have HW2 := Lib.hid hs2; have HB2 := Lib.hid (Below.step hb1 hb2); clear hs2)
      | (with_reducible refine wp_loadPtW rfl (.tmp 11) rfl w1.heap.size p b HP.out rfl HW2.out ?_)
      | (with_reducible refine wp_loadWd rfl (.tmp 4) rfl w1.heap.size p b HP.out HB.out rfl HW2.out ?_)
      | (go_at_call 37; refine (HROW.out _).mono ?_; rintro e w3 ⟨v3, rfl, hown, hb3⟩))
  go_ret2
  exact ⟨_, rfl, hown.mono HB2.out.size, Below.step HB2.out hb3⟩

def ok_BackwardsOf (l : List Int) : Bool := wordB l
def res_BackwardsOf (l : List Int) : List Int := tellL (selL (wordB l) l).length fun k => (selL (wordB l) l).getD ((selL (wordB l) l).length - 1 - k) 0
theorem len_BackwardsOf (l : List Int) : (res_BackwardsOf l).length ≤ 1000000 := by
  have := sel_len l
  unfold res_BackwardsOf
  rw [tellL_length]; omega

set_option maxHeartbeats 2000000 in
theorem impl_BackwardsOf (l : List Int) (w : World) (u : Value) (h : Rd w u l) (m : l.length ≤ 1048576) : Calls Try.prog 23 #[u] w (Gives w (res_BackwardsOf l) (ok_BackwardsOf l)) := by
  have hrw := readWord_any u l w h
  have hp := sel_len l
  have hb := seli_len l
  have hin := sel_in l
  unfold res_BackwardsOf ok_BackwardsOf
  generalize selL (wordB l) l = p at *
  generalize selI (wordB l) l = b at *
  generalize wordB l = R at *
  have hrow := fun w => row_end p (fun k => p.getD (p.length - 1 - k) 0) (.agg (ptC p)) w hp (fun k w hk => fromEnd_any p k w hp hk)
  have HR := Lib.hid hrw; have HP := Lib.hid hp; have HB := Lib.hid hb; have HROW := Lib.hid hrow
  generalize (tellL p.length fun k => p.getD (p.length - 1 - k) 0) = out at HROW ⊢
  clear hrw hp hb hrow hin
  go_enter Try.func23, Try.ntmps23
  go_wp2_with fail
  refine HR.out.mono ?_
  rintro e w1 ⟨rfl, hb1⟩
  go_wp2_with (first
      | ((with_reducible refine wp_storeNewWd rfl (.tmp 4) (.tmp 9) rfl w1 p b HP.out HB.out rfl rfl ?_); intro w2 hs2 hb2; have HW2 := Lib.hid hs2; have HB2 := Lib.hid (Below.step hb1 hb2); clear hs2)
      | (with_reducible refine wp_loadPtW rfl (.tmp 11) rfl w1.heap.size p b HP.out rfl HW2.out ?_)
      | (with_reducible refine wp_loadPtW rfl (.tmp 13) rfl w1.heap.size p b HP.out rfl HW2.out ?_)
      | (go_at_call 37; refine (HROW.out _).mono ?_; rintro e w3 ⟨v3, rfl, hown, hb3⟩))
  go_ret2
  exact ⟨_, rfl, hown.mono HB2.out.size, Below.step HB2.out hb3⟩

def ok_MirrorPermutation (l : List Int) : Bool := wordB l
def res_MirrorPermutation (l : List Int) : List Int := tellL (selL (wordB l) l).length fun k => ((selL (wordB l) l).length : Int) - 1 - (selL (wordB l) l).getD k 0
theorem len_MirrorPermutation (l : List Int) : (res_MirrorPermutation l).length ≤ 1000000 := by
  have := sel_len l
  unfold res_MirrorPermutation
  rw [tellL_length]; omega

set_option maxHeartbeats 2000000 in
theorem impl_MirrorPermutation (l : List Int) (w : World) (u : Value) (h : Rd w u l) (m : l.length ≤ 1048576) : Calls Try.prog 25 #[u] w (Gives w (res_MirrorPermutation l) (ok_MirrorPermutation l)) := by
  have hrw := readWord_any u l w h
  have hp := sel_len l
  have hb := seli_len l
  have hin := sel_in l
  unfold res_MirrorPermutation ok_MirrorPermutation
  generalize selL (wordB l) l = p at *
  generalize selI (wordB l) l = b at *
  generalize wordB l = R at *
  have hrow := fun w => row_mir p (fun k => (p.length : Int) - 1 - p.getD k 0) (.agg (ptC p)) w hp (fun k w hk => mirrored_any p k w hp hk hin)
  have HR := Lib.hid hrw; have HP := Lib.hid hp; have HB := Lib.hid hb; have HROW := Lib.hid hrow
  generalize (tellL p.length fun k => (p.length : Int) - 1 - p.getD k 0) = out at HROW ⊢
  clear hrw hp hb hrow hin
  go_enter Try.func25, Try.ntmps25
  go_wp2_with fail
  refine HR.out.mono ?_
  rintro e w1 ⟨rfl, hb1⟩
  go_wp2_with (first
      | ((with_reducible refine wp_storeNewWd rfl (.tmp 4) (.tmp 9) rfl w1 p b HP.out HB.out rfl rfl ?_); intro w2 hs2 hb2; have HW2 := Lib.hid hs2; have HB2 := Lib.hid (Below.step hb1 hb2); clear hs2)
      | (with_reducible refine wp_loadPtW rfl (.tmp 11) rfl w1.heap.size p b HP.out rfl HW2.out ?_)
      | (with_reducible refine wp_loadPtW rfl (.tmp 13) rfl w1.heap.size p b HP.out rfl HW2.out ?_)
      | (go_at_call 37; refine (HROW.out _).mono ?_; rintro e w3 ⟨v3, rfl, hown, hb3⟩))
  go_ret2
  exact ⟨_, rfl, hown.mono HB2.out.size, Below.step HB2.out hb3⟩

end Go.Proofs.Ytkohmdhjjnmfgaa
