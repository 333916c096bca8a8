/- Flat systems. -/
import Derived.Test.YtbinpefogecgmaaJoin
import Derived.Test.YtbinpefogecgmaaRead
import Derived.Test.YtbinpefogecgmaaSlice
namespace Go.Proofs.Ytbinpefogecgmaa
open Go.RowKit
set_option linter.unusedSimpArgs false
set_option linter.unusedVariables false

/-- small arches, the first k of them -/
def flats : Nat → List Int
  | 0 => []
  | k + 1 => flats k ++ [2 * (k : Int) + 1, 2 * (k : Int)]
theorem flats_length : ∀ k, (flats k).length = 2 * k
  | 0 => rfl
  | k + 1 => by simp [flats, flats_length k]; omega
def res_FlatOf (x : Int) : List Int := if inB x 0 6 then flats x.toNat else []
def ok_FlatOf (x : Int) : Bool := inB x 0 6

theorem len_FlatOf (x : Int) : (res_FlatOf x).length ≤ 1000000 := by
  unfold res_FlatOf
  split
  · next h =>
    have := inB_iff.1 h
    rw [flats_length]; omega
  · simp

set_option maxHeartbeats 1000000 in
theorem ahFlat_upto (n : Nat) (hn : n ≤ 7) (w : World) : Calls Try.prog 105 #[.int .i64 n] w (Made w (flats n)) := by
  go_enter Try.func105, Try.ntmps105
  go_wp2
  go_loopw [3, 4] (fun o i wr => ∃ k : Nat, k ≤ n ∧ i = .int .i64 k ∧ Own w.heap.size wr o (flats k) ∧ Below w.heap.size w wr) (fun _ i _ => n - (intOf i).toNat)
  case atStart => exact ⟨0, by omega, by go_num, Own.nil _ _, Below.refl _ _⟩
  case round =>
    obtain ⟨k, hk, rfl, hown, hbel⟩ := hrel
    have hsz := hbel.size
    by_cases hlt : k < n
    · have HL := Lib.hid (flats_length k)
      go_wp2_with (at_builtin; refine wp_append _ rfl _ _ rfl w.heap.size _ _ (flats k) [2 * (k : Int) + 1, 2 * (k : Int)] rfl rfl (Own.below hown (Below.alloc1 _ _)) (Own.rd (Own.lit2 _ _ _ _ (Nat.le_refl _))) (by rw [HL.out]; simp; omega) (by simp; omega) ?_; intro v' w1 hown1 hgr hbel1; have hbel2 := (hbel.alloc hsz _).trans hbel1; clear hown hgr hbel1 hbel)
      go_roundw
      case rel => exact ⟨k + 1, by omega, by go_num, hown1, hbel2⟩
      case measure => simp [intOf]; omega
    · obtain rfl : k = n := by omega
      go_wp2
      go_ret
      exact ⟨_, rfl, hown, hbel⟩

theorem ahFlat_any (n : Nat) (hn : n ≤ 6) (w : World) : Calls Try.prog 105 #[.int .i64 n] w (Made w (flats n)) := ahFlat_upto n (by omega) w

theorem spec_FlatOf (x : Int) (w : World) : Calls Try.prog 44 #[.int .i64 x] w (Gives w (res_FlatOf x) (ok_FlatOf x)) := by
  unfold res_FlatOf ok_FlatOf
  by_cases h : 0 ≤ x ∧ x ≤ 6
  · obtain ⟨n, rfl⟩ := Int.eq_ofNat_of_zero_le h.1
    have hn : n ≤ 6 := by omega
    have hb := inB_yes h.1 h.2
    rw [hb]
    simp only [if_true, Int.toNat_natCast]
    have HB := Lib.hid hb; clear hb h
    go_enter Try.func44, Try.ntmps44
    go_wp2_with (first | (go_at_call 72; refine (ahArches_any _ _).mono ?_; rintro e w' ⟨rfl, rfl⟩; rw [HB.out]) | (go_at_call 105; refine (ahFlat_any n hn _).mono ?_; rintro e w' ⟨v, rfl, hown, hbel⟩))
    go_ret2
    exact ⟨_, rfl, hown, hbel⟩
  · have hb := inB_no h
    rw [hb]
    have HB := Lib.hid hb; clear hb h
    go_enter Try.func44, Try.ntmps44
    go_wp2_with (go_at_call 72; refine (ahArches_any _ _).mono ?_; rintro e w' ⟨rfl, rfl⟩; rw [HB.out])
    go_ret2
    exact ⟨_, rfl, Own.nil _ _, Below.refl _ _⟩

def flatJ (n : Nat) : Nat → List Int
  | 0 => List.replicate (2 * n) 0
  | k + 1 => ((flatJ n k).set (2 * k) (2 * (k : Int) + 1)).set (2 * k + 1) (2 * (k : Int))

theorem flatJ_length (n : Nat) : ∀ k, (flatJ n k).length = 2 * n
  | 0 => by simp [flatJ]
  | k + 1 => by simp [flatJ, flatJ_length n k]

theorem flatJ_all (n : Nat) (hn : n ≤ 6) : flatJ n n = flats n := by
  have : n = 0 ∨ n = 1 ∨ n = 2 ∨ n = 3 ∨ n = 4 ∨ n = 5 ∨ n = 6 := by omega
  rcases this with rfl | rfl | rfl | rfl | rfl | rfl | rfl <;> rfl

set_option maxHeartbeats 1000000 in
theorem impl_FlatOf (x : Int) (w : World) : Calls Try.prog 42 #[.int .i64 x] w (Gives w (res_FlatOf x) (ok_FlatOf x)) := by
  unfold res_FlatOf ok_FlatOf
  by_cases h : 0 ≤ x ∧ x ≤ 6
  · obtain ⟨n, rfl⟩ := Int.eq_ofNat_of_zero_le h.1
    have hn : n ≤ 6 := by omega
    have hb := inB_yes h.1 h.2
    rw [hb]
    simp only [if_true, Int.toNat_natCast]
    have HB := Lib.hid hb; clear hb h
    have hbl := SysIn.blank w (2 * n) (2 * (n : Int)) (by omega) (by omega)
    have HBL := Lib.hid hbl; clear hbl
    go_enter Try.func42, Try.ntmps42
    go_wp2_with (go_at_call 77; refine (isArchCount_any _ _).mono ?_; rintro e w' ⟨rfl, rfl⟩; rw [HB.out])
    go_loopw [13] (fun i wr => ∃ k : Nat, k ≤ n ∧ i = .int .i64 k ∧ SysIn wr w.heap.size (flatJ n k) ∧ Below w.heap.size w wr) (fun i _ => n - (intOf i).toNat)
    case atStart => exact ⟨0, by omega, rfl, HBL.out, Below.alloc1 _ _⟩
    case round =>
      obtain ⟨k, hk, rfl, hsys, hbel⟩ := hrel
      have hsz := hbel.size
      have hL := Lib.hid (flatJ_length n k)
      have hcs := hsys.size (by rw [hL.out]; omega)
      rw [hL.out] at hcs
      by_cases hlt : k < n
      · have hcs2 : wr.cell? ⟨w.heap.size, 12, none⟩ = some (.int .i64 (2 * (n : Int))) := by rw [hcs]; congr 2
        clear hcs
        have hjoin := Lib.hid (join_int w.heap.size (2 * (k : Int)) (2 * (k : Int) + 1) (flatJ n k) wr hsys (by rw [hL.out]; omega) (by omega) (by rw [hL.out]; omega) (by omega) (by rw [hL.out]; omega))
        go_wp2_with (go_at_call 87; refine hjoin.out.mono ?_; rintro e w' ⟨rfl, hs', hg⟩)
        go_roundw
        case rel =>
          refine ⟨k + 1, by omega, by go_num, ?_, hbel.grown hg hsz (by intro k hk; simp at hk; omega)⟩
          have e : (2 * (k : Int)).toNat = 2 * k := by omega
          have e2 : (2 * (k : Int) + 1).toNat = 2 * k + 1 := by omega
          rw [e, e2] at hs'
          exact hs'
        case measure => simp [intOf]; omega
      · obtain rfl : k = n := by omega
        clear hcs
        have hfin := Lib.hid (flatJ_all k hn)
        rw [hfin.out] at hsys
        have hl2 : Hid ((flats k).length ≤ 12) := by show (flats k).length ≤ 12; rw [← hfin.out, hL.out]; omega
        go_wp2_with (first | (with_reducible refine wp_loadSys rfl (.tmp 4) rfl w.heap.size (flats k) hl2.out rfl hsys ?_) | (go_at_call 80; refine (list_any _ _ hl2.out).mono ?_; rintro e w' ⟨v, rfl, hown, hb2⟩))
        go_ret2
        exact ⟨_, rfl, hown.mono hsz, Below.step hbel hb2⟩
  · have hb := inB_no h
    rw [hb]
    have HB := Lib.hid hb; clear hb h
    go_enter Try.func42, Try.ntmps42
    go_wp2_with (go_at_call 77; refine (isArchCount_any _ _).mono ?_; rintro e w' ⟨rfl, rfl⟩; rw [HB.out])
    go_ret2
    exact ⟨_, rfl, Own.nil _ _, Below.refl _ _⟩

end Go.Proofs.Ytbinpefogecgmaa
