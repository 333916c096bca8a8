/- SmallArches. -/
import Derived.Test.YtbinpefogecgmaaPoints
import Derived.Test.YtbinpefogecgmaaEnum
namespace Go.Proofs.Ytbinpefogecgmaa
open Go.RowKit
set_option linter.unusedSimpArgs false
set_option linter.unusedVariables false

def res_SmallArches (l : List Int) : List Int := if goodB l then whereL (isSmallB l) l.length else []
def ok_SmallArches (l : List Int) : Bool := goodB l
theorem len_SmallArches (l : List Int) : (res_SmallArches l).length ≤ 1000000 := by
  unfold res_SmallArches
  split
  · next h => have := whereL_len (isSmallB l) l.length; have := good_len' h; omega
  · simp

set_option maxHeartbeats 1000000 in
theorem impl_SmallArches (l : List Int) (w : World) (u : Value) (h : Rd w u l) (m : l.length ≤ 1048576) : Calls Try.prog 55 #[u] w (Gives w (res_SmallArches l) (ok_SmallArches l)) := by
  unfold res_SmallArches ok_SmallArches
  cases hg : goodB l with
  | true =>
    simp only [if_true]
    have HL : Hid (l.length ≤ 12) := good_len' hg
    have HG := Lib.hid hg; clear hg
    go_enter Try.func55, Try.ntmps55
    go_wp2_with fail
    refine (readSystem_yes u l _ h HG.out).mono ?_
    rintro e w1 ⟨rfl, hb⟩
    go_wp2_with (first
      | ((with_reducible refine wp_storeNew rfl (.tmp 4) (.tmp 9) rfl _ l HL.out rfl rfl ?_); intro w2 hs2 hb2)
      | (with_reducible refine wp_loadSys rfl (.tmp 4) rfl w1.heap.size l HL.out rfl hs2 ?_)
      | (go_at_call 101; ((with_reducible refine (points_isSmall (isSmallB l) _ l _ HL.out (fun i w h0 h1 => isSmall_any l i w HL.out h0 h1)).mono ?_); rintro e w3 ⟨v, rfl, hown, hb3⟩)))
    go_ret2
    have C := Below.step hb hb2
    exact ⟨_, rfl, hown.mono C.size, Below.step C hb3⟩
  | false =>
    have HG := Lib.hid hg; clear hg
    go_enter Try.func55, Try.ntmps55
    go_wp2_with fail
    refine (readSystem_no u l _ h HG.out).mono ?_
    rintro e w1 ⟨rfl, hb⟩
    go_wp2_with ((with_reducible refine wp_storeNew rfl (.tmp 4) (.tmp 9) rfl _ [] (Nat.zero_le _) rfl rfl ?_); intro w2 hs2 hb2)
    go_ret2
    exact ⟨_, rfl, Own.nil _ _, Below.step hb hb2⟩

set_option maxHeartbeats 2000000 in
theorem specSmall_run (l : List Int) (w : World) (u : Value) (h : Rd w u l) (hg : goodB l = true) : Calls Try.prog 56 #[u] w (Gives w (whereL (isSmallB l) l.length) true) := by
  have hl12 := good_len' hg
  have hr : ∀ k, k < l.length → 0 ≤ l.getD k 0 ∧ l.getD k 0 < l.length := fun k hk => ⟨((good_facts hg).2.2.1 k hk).1, ((good_facts hg).2.2.1 k hk).2.1⟩
  have hgood := fun w h => ahGood_any u l w h (by omega)
  rw [hg] at hgood
  have h0 := h
  obtain ⟨a, c, rfl, hlc, hcm, hnc, hrd⟩ := h
  obtain ⟨n, hn⟩ : ∃ n, n = l.length := ⟨_, rfl⟩
  rw [← hn] at hlc hl12 hr hrd h0 hgood ⊢
  unfold maxLen at hcm
  have HN := Lib.hid hn; have HR := Lib.hid hr; have HC := Lib.hid hrd; have H0 := Lib.hid h0; have HA := Lib.hid hgood
  clear hn hr hrd h0 hg hnc hgood
  go_enter Try.func56, Try.ntmps56
  go_wp2_with fail
  refine (HA.out _ H0.out).mono ?_
  rintro e w1 ⟨rfl, hb⟩
  go_wp2
  go_loopw [4, 12] (fun o i wr => ∃ k : Nat, k ≤ n ∧ i = .int .i64 k ∧ Own w.heap.size wr o (whereL (isSmallB l) k) ∧ Below w.heap.size w wr) (fun _ i _ => n - (intOf i).toNat)
  case atStart => exact ⟨0, by omega, rfl, Own.nil _ _, hb⟩
  case round =>
    obtain ⟨k, hk, rfl, hown, hbel⟩ := hrel
    have hsz := hbel.size
    clear hb
    by_cases hlt : k < n
    · rcases HC.out with h0 | ⟨bb, off, rfl, hcell⟩
      · exfalso; rw [HN.out, h0] at hlt; simp at hlt
      have hsrc : wr.cell? ⟨bb, off + k, none⟩ = some (.int .i64 (l.getD k 0)) := by
        have := hcell k hlt
        exact (hbel.cell (p := ⟨bb, off + k, none⟩) (World.block_lt_of_cell? w _ this)).trans this
      have HL := Lib.hid (whereL_len (isSmallB l) k)
      have hnx : whereL (isSmallB l) (k + 1) = whereL (isSmallB l) k ++ if l.getD k 0 = (k : Int) + 1 then [(k : Int)] else [] := by
        rw [whereL, isSmallB, Int.toNat_natCast]
        by_cases e : l.getD k 0 = (k : Int) + 1 <;> simp [e]
      generalize l.getD k 0 = x at hsrc hnx
      by_cases hx : x = (k : Int) + 1
      · rw [if_pos hx] at hnx
        rw [hx] at hsrc
        have HNX := Lib.hid hnx; clear hnx hx hcell
        go_wp2_with (at_builtin; refine wp_append _ rfl _ _ rfl w.heap.size _ _ (whereL (isSmallB l) k) [(k : Int)] rfl rfl (Own.below hown (Below.alloc1 _ _)) (Own.rd (Own.lit1 _ _ _ (Nat.le_refl _))) (by have := HL.out; simp; omega) (by simp; omega) ?_; intro v' w2 hown2 hgr hbel2; rw [← HNX.out] at hown2; have hbel3 := (hbel.alloc hsz _).trans hbel2; clear hgr hbel2)
        go_roundw
        case rel => exact ⟨k + 1, by omega, by go_num, hown2, hbel3⟩
        case measure => simp [intOf]; omega
      · rw [if_neg hx, List.append_nil] at hnx
        have hx2 : (x == (k : Int) + 1) = false := by simpa using hx
        rw [← hnx] at hown
        clear hnx hx hcell
        go_wp2
        go_roundw
        case rel => exact ⟨k + 1, by omega, by go_num, hown, hbel⟩
        case measure => simp [intOf]; omega
    · obtain rfl : k = n := by omega
      go_wp2
      go_ret2
      exact ⟨_, rfl, hown, hbel⟩

theorem spec_SmallArches (l : List Int) (w : World) (u : Value) (h : Rd w u l) (m : l.length ≤ 1048576) : Calls Try.prog 56 #[u] w (Gives w (res_SmallArches l) (ok_SmallArches l)) := by
  unfold res_SmallArches ok_SmallArches
  have hgood := ahGood_any u l w h m
  cases hg : goodB l with
  | true => exact specSmall_run l w u h hg
  | false =>
    rw [hg] at hgood
    have HA := Lib.hid hgood; clear hg hgood
    go_enter Try.func56, Try.ntmps56
    go_wp2_with (go_at_call 92; refine HA.out.mono ?_; rintro e w1 ⟨rfl, hb⟩)
    go_ret2
    exact ⟨_, rfl, Own.nil _ _, hb⟩

end Go.Proofs.Ytbinpefogecgmaa
