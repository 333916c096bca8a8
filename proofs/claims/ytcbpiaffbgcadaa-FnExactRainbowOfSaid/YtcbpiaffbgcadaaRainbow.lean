/- Rainbows and flat systems. -/
import Derived.Test.YtcbpiaffbgcadaaJoin
import Derived.Test.YtcbpiaffbgcadaaRead
import Derived.Test.YtcbpiaffbgcadaaSlice
namespace Go.Proofs.Ytcbpiaffbgcadaa
open Go.RowKit
set_option linter.unusedSimpArgs false
set_option linter.unusedVariables false

/-- the numbers downward, the first k of them -/
def down (n k : Nat) : List Int := (List.range k).map fun (i : Nat) => 2 * (n : Int) - 1 - (i : Int)
def rainbow (n : Nat) : List Int := down n (2 * n)
def res_RainbowOf (x : Int) : List Int := if inB x 0 6 then rainbow x.toNat else []
def ok_RainbowOf (x : Int) : Bool := inB x 0 6

theorem len_RainbowOf (x : Int) : (res_RainbowOf x).length ≤ 1000000 := by
  unfold res_RainbowOf
  split
  · next h =>
    have := inB_iff.1 h
    simp [rainbow, down]; omega
  · simp

theorem down_snoc (n k : Nat) : down n (k + 1) = down n k ++ [2 * (n : Int) - 1 - (k : Int)] := by
  unfold down
  rw [List.range_succ, List.map_append]; rfl

set_option maxHeartbeats 1000000 in
theorem ahRainbow_any (n : Nat) (hn : n ≤ 6) (w : World) : Calls Try.prog 58 #[.int .i64 n] w (Made w (rainbow n)) := by
  go_enter Try.func58, Try.ntmps58
  go_wp2
  go_loopw [3, 4] (fun o i wr => ∃ k : Nat, k ≤ 2 * n ∧ i = .int .i64 (2 * (n : Int) - 1 - (k : Int)) ∧ Own w.heap.size wr o (down n k) ∧ Below w.heap.size w wr) (fun _ i _ => (intOf i + 1).toNat)
  case atStart => exact ⟨0, by omega, by go_num, Own.nil _ _, Below.refl _ _⟩
  case round =>
    obtain ⟨k, hk, rfl, hown, hbel⟩ := hrel
    have hsz := hbel.size
    by_cases hlt : k < 2 * n
    · have hsn := Lib.hid (down_snoc n k)
      have hlen : (down n k).length = k := by simp [down]
      have HL := Lib.hid hlen; clear hlen
      go_wp2_with (at_builtin; refine wp_append _ rfl _ _ rfl w.heap.size _ _ (down n k) [2 * (n : Int) - 1 - (k : Int)] rfl rfl (Own.below hown (Below.alloc1 _ _)) (Own.rd (Own.lit1 _ _ _ (Nat.le_refl _))) (by rw [HL.out]; simp; omega) (by simp; omega) ?_; intro v' w1 hown1 hgr hbel1; rw [← hsn.out] at hown1; have hbel2 := (hbel.alloc hsz _).trans hbel1; clear hown hgr hbel1 hbel)
      go_roundw
      case rel => exact ⟨k + 1, by omega, by go_num, hown1, hbel2⟩
      case measure => simp [intOf]; omega
    · obtain rfl : k = 2 * n := by omega
      go_wp2
      go_ret
      exact ⟨_, rfl, hown, hbel⟩

theorem spec_RainbowOf (x : Int) (w : World) : Calls Try.prog 34 #[.int .i64 x] w (Gives w (res_RainbowOf x) (ok_RainbowOf x)) := by
  unfold res_RainbowOf ok_RainbowOf
  by_cases h : 0 ≤ x ∧ x ≤ 6
  · obtain ⟨n, rfl⟩ := Int.eq_ofNat_of_zero_le h.1
    have hn : n ≤ 6 := by omega
    have hb := inB_yes h.1 h.2
    rw [hb]
    simp only [if_true, Int.toNat_natCast]
    have HB := Lib.hid hb; clear hb h
    go_enter Try.func34, Try.ntmps34
    go_wp2_with (first | (go_at_call 48; refine (ahArches_any _ _).mono ?_; rintro e w' ⟨rfl, rfl⟩; rw [HB.out]) | (go_at_call 58; refine (ahRainbow_any n hn _).mono ?_; rintro e w' ⟨v, rfl, hown, hbel⟩))
    go_ret2
    exact ⟨_, rfl, hown, hbel⟩
  · have hb := inB_no h
    rw [hb]
    have HB := Lib.hid hb; clear hb h
    go_enter Try.func34, Try.ntmps34
    go_wp2_with (go_at_call 48; refine (ahArches_any _ _).mono ?_; rintro e w' ⟨rfl, rfl⟩; rw [HB.out])
    go_ret2
    exact ⟨_, rfl, Own.nil _ _, Below.refl _ _⟩

def rainJ (n : Nat) : Nat → List Int
  | 0 => List.replicate (2 * n) 0
  | k + 1 => ((rainJ n k).set k (2 * (n : Int) - 1 - (k : Int))).set (2 * n - 1 - k) (k : Int)

theorem rainJ_length (n : Nat) : ∀ k, (rainJ n k).length = 2 * n
  | 0 => by simp [rainJ]
  | k + 1 => by simp [rainJ, rainJ_length n k]

theorem rainJ_all (n : Nat) (hn : n ≤ 6) : rainJ n n = rainbow n := by
  have : n = 0 ∨ n = 1 ∨ n = 2 ∨ n = 3 ∨ n = 4 ∨ n = 5 ∨ n = 6 := by omega
  rcases this with rfl | rfl | rfl | rfl | rfl | rfl | rfl <;> rfl

set_option maxHeartbeats 1000000 in
theorem impl_RainbowOf (x : Int) (w : World) : Calls Try.prog 35 #[.int .i64 x] w (Gives w (res_RainbowOf x) (ok_RainbowOf x)) := by
  unfold res_RainbowOf ok_RainbowOf
  by_cases h : 0 ≤ x ∧ x ≤ 6
  · obtain ⟨n, rfl⟩ := Int.eq_ofNat_of_zero_le h.1
    have hn : n ≤ 6 := by omega
    have hb := inB_yes h.1 h.2
    rw [hb]
    simp only [if_true, Int.toNat_natCast]
    have HB := Lib.hid hb; clear hb h
    have hbl := SysIn.blank w (2 * n) (2 * (n : Int)) (by omega) (by omega)
    have HBL := Lib.hid hbl; clear hbl
    go_enter Try.func35, Try.ntmps35
    go_wp2_with (go_at_call 50; refine (isArchCount_any _ _).mono ?_; rintro e w' ⟨rfl, rfl⟩; rw [HB.out])
    go_loopw [13] (fun i wr => ∃ k : Nat, k ≤ n ∧ i = .int .i64 k ∧ SysIn wr w.heap.size (rainJ n k) ∧ Below w.heap.size w wr) (fun i _ => n - (intOf i).toNat)
    case atStart => exact ⟨0, by omega, rfl, HBL.out, Below.alloc1 _ _⟩
    case round =>
      obtain ⟨k, hk, rfl, hsys, hbel⟩ := hrel
      have hsz := hbel.size
      have hL := Lib.hid (rainJ_length n k)
      have hcs := hsys.size (by rw [hL.out]; omega)
      rw [hL.out] at hcs
      by_cases hlt : k < n
      · have hcs2 : wr.cell? ⟨w.heap.size, 12, none⟩ = some (.int .i64 (2 * (n : Int))) := by rw [hcs]; congr 2
        clear hcs
        have hjoin := Lib.hid (join_int w.heap.size k (2 * (n : Int) - 1 - (k : Int)) (rainJ n k) wr hsys (by rw [hL.out]; omega) (by omega) (by rw [hL.out]; omega) (by omega) (by rw [hL.out]; omega))
        go_wp2_with (go_at_call 59; refine hjoin.out.mono ?_; rintro e w' ⟨rfl, hs', hg⟩)
        go_roundw
        case rel =>
          refine ⟨k + 1, by omega, by go_num, ?_, hbel.grown hg hsz (by intro k hk; simp at hk; omega)⟩
          have e : (2 * (n : Int) - 1 - (k : Int)).toNat = 2 * n - 1 - k := by omega
          rw [e] at hs'
          exact hs'
        case measure => simp [intOf]; omega
      · obtain rfl : k = n := by omega
        clear hcs
        have hfin := Lib.hid (rainJ_all k hn)
        rw [hfin.out] at hsys
        have hl2 : Hid ((rainbow k).length ≤ 12) := by show (rainbow k).length ≤ 12; rw [← hfin.out, hL.out]; omega
        go_wp2_with (first | (with_reducible refine wp_loadSys rfl (.tmp 4) rfl w.heap.size (rainbow k) hl2.out rfl hsys ?_) | (go_at_call 53; refine (list_any _ _ hl2.out).mono ?_; rintro e w' ⟨v, rfl, hown, hb2⟩))
        go_ret2
        exact ⟨_, rfl, hown.mono hsz, Below.step hbel hb2⟩
  · have hb := inB_no h
    rw [hb]
    have HB := Lib.hid hb; clear hb h
    go_enter Try.func35, Try.ntmps35
    go_wp2_with (go_at_call 50; refine (isArchCount_any _ _).mono ?_; rintro e w' ⟨rfl, rfl⟩; rw [HB.out])
    go_ret2
    exact ⟨_, rfl, Own.nil _ _, Below.refl _ _⟩

end Go.Proofs.Ytcbpiaffbgcadaa
