/- Points of a system that are chosen. -/
import Derived.Test.YtogjclmmjdhfeacRead
import Derived.Test.YtogjclmmjdhfeacOwn
import Derived.Test.YtogjclmmjdhfeacGood
namespace Go.Proofs.Ytogjclmmjdhfeac
open Go.RowKit
set_option linter.unusedSimpArgs false
set_option linter.unusedVariables false

theorem begins_any (l : List Int) (i : Int) (w : World) (h : l.length ≤ 12) (h0 : 0 ≤ i) (h1 : i < 12) :
    Calls Try.prog 121 #[.agg (sysC l), .int .i64 i] w (GivesB w (beginsB l i)) := by
  obtain ⟨i, rfl⟩ := Int.eq_ofNat_of_zero_le h0
  have hc := sysC_get h i (by omega)
  unfold beginsB
  rw [Int.toNat_natCast]
  generalize l.getD i 0 = x at hc
  go_enter Try.func121, Try.ntmps121
  go_wp2
  go_ret
  exact ⟨rfl, Below.alloc1 _ _⟩


set_option maxHeartbeats 1000000 in
theorem depth_any (l : List Int) (i : Nat) (w : World) (h : l.length ≤ 12) (h1 : i < 12) :
    Calls Try.prog 147 #[.agg (sysC l), .int .i64 (i : Int)] w (fun e w' => e = .returned (.int .i64 (overN l (i : Int) i)) ∧ Below w.heap.size w w') := by
  have HG := Lib.hid (fun k hk => sysC_get h k hk)
  go_enter Try.func147, Try.ntmps147
  go_wp2
  go_loop [5, 8] (fun o c => ∃ k : Nat, k ≤ i ∧ c = .int .i64 k ∧ o = .int .i64 (overN l (i : Int) k)) (fun _ c => i - (intOf c).toNat)
  case atStart => exact ⟨0, by omega, rfl, rfl⟩
  case round =>
    obtain ⟨k, hk, rfl, rfl⟩ := hrel
    by_cases hlt : k < i
    · have hc := HG.out k (by omega)
      have hle := overN_le l (i : Int) k
      by_cases hx : (i : Int) < l.getD k 0
      · have hn : overN l (i : Int) (k + 1) = overN l (i : Int) k + 1 := by rw [overN, if_pos hx]
        generalize l.getD k 0 = x at hc hx
        have HN := Lib.hid hn; clear hn
        generalize overN l (i : Int) k = y at HN hle
        go_wp2
        go_round
        case rel => exact ⟨k + 1, by omega, by go_num, by rw [HN.out]; go_num⟩
        case measure => simp [intOf]; omega
      · have hn : overN l (i : Int) (k + 1) = overN l (i : Int) k := by rw [overN, if_neg hx, Nat.add_zero]
        generalize l.getD k 0 = x at hc hx
        have HN := Lib.hid hn; clear hn
        generalize overN l (i : Int) k = y at HN hle
        go_wp2
        go_round
        case rel => exact ⟨k + 1, by omega, by go_num, by rw [HN.out]⟩
        case measure => simp [intOf]; omega
    · obtain rfl : k = i := by omega
      go_wp2
      go_ret
      exact ⟨rfl, Below.alloc1 _ _⟩


set_option maxHeartbeats 1000000 in
theorem isOuter_any (l : List Int) (i : Int) (w : World) (h : l.length ≤ 12) (h0 : 0 ≤ i) (h1 : i < 12) :
    Calls Try.prog 146 #[.agg (sysC l), .int .i64 i] w (GivesB w (isOuterB l i)) := by
  obtain ⟨i, rfl⟩ := Int.eq_ofNat_of_zero_le h0
  unfold isOuterB
  rw [Int.toNat_natCast]
  have hb := fun w => begins_any l (i : Int) w h h0 h1
  have hd := fun w => depth_any l i w h (by omega)
  have hbox : SysIn (w.alloc (.cells (sysC l) 56)) w.heap.size l := heap_alloc_new w _
  have HL := Lib.hid h; have HD := Lib.hid hd; have HX := Lib.hid hbox
  clear hd hbox
  cases hbb : beginsB l (i : Int) with
  | false =>
    rw [hbb] at hb
    have HB := Lib.hid hb; clear hb hbb
    go_enter Try.func146, Try.ntmps146
    go_wp2_with (first
      | (with_reducible refine wp_loadSys rfl (.tmp 2) rfl w.heap.size l HL.out rfl HX.out ?_)
      | (go_at_call 121; refine (HB.out _).mono ?_; rintro e w1 ⟨rfl, hb1⟩))
    go_ret
    exact ⟨rfl, (Below.alloc1 _ _).trans (hb1.mono (by simp))⟩
  | true =>
    rw [hbb] at hb
    have HB := Lib.hid hb; clear hb hbb
    generalize overN l (i : Int) i = y at HD
    by_cases hy : y = 0
    · subst hy
      go_enter Try.func146, Try.ntmps146
      go_wp2_with (first
        | (with_reducible refine wp_loadSys rfl (.tmp 2) rfl w.heap.size l HL.out rfl HX.out ?_)
        | (go_at_call 121; refine (HB.out _).mono ?_; rintro e w1 ⟨rfl, hb1⟩; have hx1 := SysIn.below HX.out hb1)
        | (with_reducible refine wp_loadSysG (.tmp 2) rfl w.heap.size l HL.out rfl hx1 (by with_unfolding_all rfl) ?_)
        | (go_at_call 147; refine (HD.out _).mono ?_; rintro e w2 ⟨rfl, hb2⟩))
      go_ret
      exact ⟨rfl, ((Below.alloc1 _ _).trans (hb1.mono (by simp))).trans (hb2.mono (by have := hb1.size; simp at this; omega))⟩
    · have hy2 : ((y : Int) == 0) = false := by simp; omega
      rw [decide_eq_false hy]
      clear hy
      go_enter Try.func146, Try.ntmps146
      go_wp2_with (first
        | (with_reducible refine wp_loadSys rfl (.tmp 2) rfl w.heap.size l HL.out rfl HX.out ?_)
        | (go_at_call 121; refine (HB.out _).mono ?_; rintro e w1 ⟨rfl, hb1⟩; have hx1 := SysIn.below HX.out hb1)
        | (with_reducible refine wp_loadSysG (.tmp 2) rfl w.heap.size l HL.out rfl hx1 (by with_unfolding_all rfl) ?_)
        | (go_at_call 147; refine (HD.out _).mono ?_; rintro e w2 ⟨rfl, hb2⟩))
      go_ret
      exact ⟨by simp [hy2], ((Below.alloc1 _ _).trans (hb1.mono (by simp))).trans (hb2.mono (by have := hb1.size; simp at this; omega))⟩

set_option maxHeartbeats 2000000 in
theorem points_begins (c : Int → Bool) (g : Value) (l : List Int) (w : World) (hl : l.length ≤ 12)
    (hp : ∀ (i : Int) (w : World), 0 ≤ i → i < 12 → Calls Try.prog 121 #[g, .int .i64 i] w (GivesB w (c i))) :
    Calls Try.prog 99 #[.agg (sysC l), .func (.func 121) #[g] #[]] w (Made w (whereL c l.length)) := by
  have hlast := sysC_last hl
  obtain ⟨n, hn⟩ : ∃ n, n = l.length := ⟨_, rfl⟩
  rw [← hn] at hlast hl ⊢
  have HP := Lib.hid hp; clear hp hn
  go_enter Try.func99, Try.ntmps99
  go_wp2
  go_loopw [5, 9] (fun o i wr => ∃ k : Nat, k ≤ n ∧ i = .int .i64 k ∧ Own w.heap.size wr o (whereL c k) ∧ Below w.heap.size w wr) (fun _ i _ => n - (intOf i).toNat)
  case atStart => exact ⟨0, by omega, rfl, Own.nil _ _, Below.alloc1 _ _⟩
  case round =>
    obtain ⟨k, hk, rfl, hown, hbel⟩ := hrel
    have hsz := hbel.size
    by_cases hlt : k < n
    · have hpk := fun w => HP.out (k : Int) w (by omega) (by omega)
      have hlen := whereL_len c k
      have HL := Lib.hid hlen; clear hlen
      cases hck : c (k : Int) with
      | true =>
        have hnx : whereL c (k + 1) = whereL c k ++ [(k : Int)] := by rw [whereL, hck]; rfl
        rw [hck] at hpk
        have HK := Lib.hid hpk; have HNX := Lib.hid hnx; clear hpk hnx hck
        go_wp2_with (first
          | (go_at_call 121; refine (HK.out _).mono ?_; rintro e w1 ⟨rfl, hb1⟩; have hown1 := Own.below hown hb1; have hbel1 := Below.step hbel hb1; have hsz1 := hbel1.size)
          | (at_builtin; refine wp_append _ rfl _ _ rfl w.heap.size _ _ (whereL c k) [(k : Int)] rfl rfl (Own.below hown1 (Below.alloc1 _ _)) (Own.rd (Own.lit1 _ _ _ (Nat.le_refl _))) (by have := HL.out; simp; omega) (by simp; omega) ?_; intro v' w2 hown2 hgr hbel2; rw [← HNX.out] at hown2; have hbel3 := (hbel1.alloc hsz1 _).trans hbel2; clear hgr hbel2))
        go_roundw
        case rel => exact ⟨k + 1, by omega, by go_num, hown2, hbel3⟩
        case measure => simp [intOf]; omega
      | false =>
        have hnx : whereL c (k + 1) = whereL c k := by rw [whereL, hck]; simp
        rw [hck] at hpk
        have HK := Lib.hid hpk; have HNX := Lib.hid hnx; clear hpk hnx hck
        go_wp2_with (go_at_call 121; refine (HK.out _).mono ?_; rintro e w1 ⟨rfl, hb1⟩; have hown1 := Own.below hown hb1; have hbel1 := Below.step hbel hb1)
        rw [← HNX.out] at hown1
        go_roundw
        case rel => exact ⟨k + 1, by omega, by go_num, hown1, hbel1⟩
        case measure => simp [intOf]; omega
    · obtain rfl : k = n := by omega
      go_wp2
      go_ret
      exact ⟨_, rfl, hown, hbel⟩


set_option maxHeartbeats 2000000 in
theorem points_isOuter (c : Int → Bool) (g : Value) (l : List Int) (w : World) (hl : l.length ≤ 12)
    (hp : ∀ (i : Int) (w : World), 0 ≤ i → i < 12 → Calls Try.prog 146 #[g, .int .i64 i] w (GivesB w (c i))) :
    Calls Try.prog 99 #[.agg (sysC l), .func (.func 146) #[g] #[]] w (Made w (whereL c l.length)) := by
  have hlast := sysC_last hl
  obtain ⟨n, hn⟩ : ∃ n, n = l.length := ⟨_, rfl⟩
  rw [← hn] at hlast hl ⊢
  have HP := Lib.hid hp; clear hp hn
  go_enter Try.func99, Try.ntmps99
  go_wp2
  go_loopw [5, 9] (fun o i wr => ∃ k : Nat, k ≤ n ∧ i = .int .i64 k ∧ Own w.heap.size wr o (whereL c k) ∧ Below w.heap.size w wr) (fun _ i _ => n - (intOf i).toNat)
  case atStart => exact ⟨0, by omega, rfl, Own.nil _ _, Below.alloc1 _ _⟩
  case round =>
    obtain ⟨k, hk, rfl, hown, hbel⟩ := hrel
    have hsz := hbel.size
    by_cases hlt : k < n
    · have hpk := fun w => HP.out (k : Int) w (by omega) (by omega)
      have hlen := whereL_len c k
      have HL := Lib.hid hlen; clear hlen
      cases hck : c (k : Int) with
      | true =>
        have hnx : whereL c (k + 1) = whereL c k ++ [(k : Int)] := by rw [whereL, hck]; rfl
        rw [hck] at hpk
        have HK := Lib.hid hpk; have HNX := Lib.hid hnx; clear hpk hnx hck
        go_wp2_with (first
          | (go_at_call 146; refine (HK.out _).mono ?_; rintro e w1 ⟨rfl, hb1⟩; have hown1 := Own.below hown hb1; have hbel1 := Below.step hbel hb1; have hsz1 := hbel1.size)
          | (at_builtin; refine wp_append _ rfl _ _ rfl w.heap.size _ _ (whereL c k) [(k : Int)] rfl rfl (Own.below hown1 (Below.alloc1 _ _)) (Own.rd (Own.lit1 _ _ _ (Nat.le_refl _))) (by have := HL.out; simp; omega) (by simp; omega) ?_; intro v' w2 hown2 hgr hbel2; rw [← HNX.out] at hown2; have hbel3 := (hbel1.alloc hsz1 _).trans hbel2; clear hgr hbel2))
        go_roundw
        case rel => exact ⟨k + 1, by omega, by go_num, hown2, hbel3⟩
        case measure => simp [intOf]; omega
      | false =>
        have hnx : whereL c (k + 1) = whereL c k := by rw [whereL, hck]; simp
        rw [hck] at hpk
        have HK := Lib.hid hpk; have HNX := Lib.hid hnx; clear hpk hnx hck
        go_wp2_with (go_at_call 146; refine (HK.out _).mono ?_; rintro e w1 ⟨rfl, hb1⟩; have hown1 := Own.below hown hb1; have hbel1 := Below.step hbel hb1)
        rw [← HNX.out] at hown1
        go_roundw
        case rel => exact ⟨k + 1, by omega, by go_num, hown1, hbel1⟩
        case measure => simp [intOf]; omega
    · obtain rfl : k = n := by omega
      go_wp2
      go_ret
      exact ⟨_, rfl, hown, hbel⟩

end Go.Proofs.Ytogjclmmjdhfeac
