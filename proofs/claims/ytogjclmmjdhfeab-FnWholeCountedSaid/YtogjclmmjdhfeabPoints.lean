/- Points of a system that are chosen. -/
import Derived.Test.YtogjclmmjdhfeabRead
import Derived.Test.YtogjclmmjdhfeabSlice
import Derived.Test.YtogjclmmjdhfeabGood
namespace Go.Proofs.Ytogjclmmjdhfeab
open Go.RowKit
set_option linter.unusedSimpArgs false
set_option linter.unusedVariables false

theorem begins_any (l : List Int) (i : Int) (w : World) (h : l.length ≤ 12) (h0 : 0 ≤ i) (h1 : i < 12) :
    Calls Try.prog 166 #[.agg (sysC l), .int .i64 i] w (GivesB w (beginsB l i)) := by
  obtain ⟨i, rfl⟩ := Int.eq_ofNat_of_zero_le h0
  have hc := sysC_get h i (by omega)
  unfold beginsB
  rw [Int.toNat_natCast]
  generalize l.getD i 0 = x at hc
  go_enter Try.func166, Try.ntmps166
  go_wp2
  go_ret
  exact ⟨rfl, Below.alloc1 _ _⟩




set_option maxHeartbeats 2000000 in
theorem points_begins (c : Int → Bool) (g : Value) (l : List Int) (w : World) (hl : l.length ≤ 12)
    (hp : ∀ (i : Int) (w : World), 0 ≤ i → i < 12 → Calls Try.prog 166 #[g, .int .i64 i] w (GivesB w (c i))) :
    Calls Try.prog 228 #[.agg (sysC l), .func (.func 166) #[g] #[]] w (Made w (whereL c l.length)) := by
  have hlast := sysC_last hl
  obtain ⟨n, hn⟩ : ∃ n, n = l.length := ⟨_, rfl⟩
  rw [← hn] at hlast hl ⊢
  have HP := Lib.hid hp; clear hp hn
  go_enter Try.func228, Try.ntmps228
  go_wp2
  go_loopw [5, 9] (fun o i wr => ∃ k : Nat, k ≤ n ∧ i = .int .i64 k ∧ Own w.heap.size wr o (whereL c k) ∧ Below w.heap.size w wr) (fun _ i _ => n - (intOf i).toNat)
  case atStart => exact ⟨0, by omega, rfl, Own.nil _ _, Below.alloc1 _ _⟩
  case round =>
    obtain ⟨k, hk, rfl, hown, hbel⟩ := hrel
    have hsz := hbel.size
    by_cases hlt : k < n
    · have hpk := fun w => HP.out (k : Int) w (by omega) (by omega)
      have hlen := whereL_len c k
      have HL := Lib.hid hlen; clear hlen
      cases hck : c (k : Int) with
      | true =>
        have hnx : whereL c (k + 1) = whereL c k ++ [(k : Int)] := by rw [whereL, hck]; rfl
        rw [hck] at hpk
        have HK := Lib.hid hpk; have HNX := Lib.hid hnx; clear hpk hnx hck
        go_wp2_with (first
          | (go_at_call 166; refine (HK.out _).mono ?_; rintro e w1 ⟨rfl, hb1⟩; have hown1 := Own.below hown hb1; have hbel1 := Below.step hbel hb1; have hsz1 := hbel1.size)
          | (at_builtin; refine wp_append _ rfl _ _ rfl w.heap.size _ _ (whereL c k) [(k : Int)] rfl rfl (Own.below hown1 (Below.alloc1 _ _)) (Own.rd (Own.lit1 _ _ _ (Nat.le_refl _))) (by have := HL.out; simp; omega) (by simp; omega) ?_; intro v' w2 hown2 hgr hbel2; rw [← HNX.out] at hown2; have hbel3 := (hbel1.alloc hsz1 _).trans hbel2; clear hgr hbel2))
        go_roundw
        case rel => exact ⟨k + 1, by omega, by go_num, hown2, hbel3⟩
        case measure => simp [intOf]; omega
      | false =>
        have hnx : whereL c (k + 1) = whereL c k := by rw [whereL, hck]; simp
        rw [hck] at hpk
        have HK := Lib.hid hpk; have HNX := Lib.hid hnx; clear hpk hnx hck
        go_wp2_with (go_at_call 166; refine (HK.out _).mono ?_; rintro e w1 ⟨rfl, hb1⟩; have hown1 := Own.below hown hb1; have hbel1 := Below.step hbel hb1)
        rw [← HNX.out] at hown1
        go_roundw
        case rel => exact ⟨k + 1, by omega, by go_num, hown1, hbel1⟩
        case measure => simp [intOf]; omega
    · obtain rfl : k = n := by omega
      go_wp2
      go_ret
      exact ⟨_, rfl, hown, hbel⟩



end Go.Proofs.Ytogjclmmjdhfeab
