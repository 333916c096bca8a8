/- DropArch: what the model leaves out; both functions at every input. -/
import Derived.Test.YtbinpefogecgmaaDrop
namespace Go.Proofs.Ytbinpefogecgmaa
open Go.RowKit
set_option linter.unusedSimpArgs false
set_option linter.unusedVariables false

set_option maxHeartbeats 2000000 in
theorem ahWithout_any (l : List Int) (i j : Nat) (w : World) (u : Value) (h : Rd w u l) (hg : goodB l = true) (hi : i < l.length) (hj : l.getD i 0 = (j : Int)) :
    Calls Try.prog 109 #[u, .int .i64 (i : Int)] w (Made w (withoutL l i j l.length)) := by
  have hl := good_len' hg
  have hfx := (good_facts hg).2.2.1
  obtain ⟨a, c, rfl, hlc, hcm, hnc, hrd⟩ := h
  obtain ⟨n, hn⟩ : ∃ n, n = l.length := ⟨_, rfl⟩
  rw [← hn] at hlc hl hi hfx hrd ⊢
  unfold maxLen at hcm
  have HN := Lib.hid hn; have HC := Lib.hid hrd; have HX := Lib.hid hfx; have HJ := Lib.hid hj
  clear hn hrd hfx hj hnc hg
  go_enter Try.func109, Try.ntmps109
  go_wp2
  go_loopw [5, 11] (fun o q wr => ∃ k : Nat, k ≤ n ∧ q = .int .i64 k ∧ Own w.heap.size wr o (withoutL l i j k) ∧ Below w.heap.size w wr) (fun _ q _ => n - (intOf q).toNat)
  case atStart => exact ⟨0, by omega, rfl, Own.nil _ _, Below.refl _ _⟩
  case round =>
    obtain ⟨k, hk, rfl, hown, hbel⟩ := hrel
    have hsz := hbel.size
    by_cases hlt : k < n
    · rcases HC.out with h0 | ⟨bb, off, rfl, hcell⟩
      · exfalso; rw [HN.out, h0] at hlt; simp at hlt
      have hsrc : ∀ k, k < n → wr.cell? ⟨bb, off + k, none⟩ = some (.int .i64 (l.getD k 0)) := fun k hlt => by
        have := hcell k hlt
        exact (hbel.cell (p := ⟨bb, off + k, none⟩) (World.block_lt_of_cell? w _ this)).trans this
      have c1 := hsrc k hlt
      have c2 := hsrc i hi
      rw [HJ.out] at c2
      have hx := HX.out k hlt
      have hnx0 : withoutL l i j (k + 1) = if k = i ∨ k = j then withoutL l i j k else withoutL l i j k ++ [withoutV (i : Int) (j : Int) (l.getD k 0)] := rfl
      generalize l.getD k 0 = x at c1 hx hnx0
      have hx0 := hx.1
      have hx1 := hx.2.1
      have HLL := Lib.hid (withoutL_len l i j k)
      clear hsrc hcell hx
      by_cases h1 : k = i
      · have hnx : withoutL l i j (k + 1) = withoutL l i j k := by rw [hnx0, if_pos (.inl h1)]
        rw [← hnx] at hown
        have h5 : ((k : Int) == (i : Int)) = true := by simp; omega
        clear hnx hnx0 h1
        go_wp2
        go_roundw
        case rel => exact ⟨k + 1, by omega, by go_num, hown, hbel⟩
        case measure => simp [intOf]; omega
      · have h5 : ((k : Int) == (i : Int)) = false := by simp; omega
        by_cases h2 : k = j
        · have hnx : withoutL l i j (k + 1) = withoutL l i j k := by rw [hnx0, if_pos (.inr h2)]
          rw [← hnx] at hown
          have h6 : ((k : Int) == (j : Int)) = true := by simp; omega
          clear hnx hnx0 h2
          go_wp2
          go_roundw
          case rel => exact ⟨k + 1, by omega, by go_num, hown, hbel⟩
          case measure => simp [intOf]; omega
        · have h6 : ((k : Int) == (j : Int)) = false := by simp; omega
          have hnx1 : withoutL l i j (k + 1) = withoutL l i j k ++ [withoutV (i : Int) (j : Int) x] := by rw [hnx0, if_neg (fun h => h.elim h1 h2)]
          clear hnx0
          by_cases h3 : (i : Int) < x
          · by_cases h4 : (j : Int) < x
            · have hnx : withoutL l i j (k + 1) = withoutL l i j k ++ [x - 2] := by rw [hnx1, withoutV, if_pos h3, if_pos h4]; rfl
              clear hnx1
              have HK := Lib.hid hnx; clear hnx
              go_wp2_with (at_builtin; refine wp_append _ rfl _ _ rfl w.heap.size _ _ (withoutL l i j k) [x - 2] rfl rfl (Own.below hown (Below.alloc1 _ _)) (Own.rd (Own.lit1 _ _ _ (Nat.le_refl _))) (by have := HLL.out; simp; omega) (by simp; omega) ?_; intro v' w2 hown2 hgr hbel2; rw [← HK.out] at hown2; have hbel3 := (hbel.alloc hsz _).trans hbel2; clear hgr hbel2)
              go_roundw
              case rel => exact ⟨k + 1, by omega, by go_num, hown2, hbel3⟩
              case measure => simp [intOf]; omega
            · have hnx : withoutL l i j (k + 1) = withoutL l i j k ++ [x - 1] := by rw [hnx1, withoutV, if_pos h3, if_neg h4]; rfl
              clear hnx1
              have HK := Lib.hid hnx; clear hnx
              go_wp2_with (at_builtin; refine wp_append _ rfl _ _ rfl w.heap.size _ _ (withoutL l i j k) [x - 1] rfl rfl (Own.below hown (Below.alloc1 _ _)) (Own.rd (Own.lit1 _ _ _ (Nat.le_refl _))) (by have := HLL.out; simp; omega) (by simp; omega) ?_; intro v' w2 hown2 hgr hbel2; rw [← HK.out] at hown2; have hbel3 := (hbel.alloc hsz _).trans hbel2; clear hgr hbel2)
              go_roundw
              case rel => exact ⟨k + 1, by omega, by go_num, hown2, hbel3⟩
              case measure => simp [intOf]; omega
          · by_cases h4 : (j : Int) < x
            · have hnx : withoutL l i j (k + 1) = withoutL l i j k ++ [x - 1] := by rw [hnx1, withoutV, if_neg h3, if_pos h4]; rfl
              clear hnx1
              have HK := Lib.hid hnx; clear hnx
              go_wp2_with (at_builtin; refine wp_append _ rfl _ _ rfl w.heap.size _ _ (withoutL l i j k) [x - 1] rfl rfl (Own.below hown (Below.alloc1 _ _)) (Own.rd (Own.lit1 _ _ _ (Nat.le_refl _))) (by have := HLL.out; simp; omega) (by simp; omega) ?_; intro v' w2 hown2 hgr hbel2; rw [← HK.out] at hown2; have hbel3 := (hbel.alloc hsz _).trans hbel2; clear hgr hbel2)
              go_roundw
              case rel => exact ⟨k + 1, by omega, by go_num, hown2, hbel3⟩
              case measure => simp [intOf]; omega
            · have hnx : withoutL l i j (k + 1) = withoutL l i j k ++ [x] := by rw [hnx1, withoutV, if_neg h3, if_neg h4]; simp
              clear hnx1
              have HK := Lib.hid hnx; clear hnx
              go_wp2_with (at_builtin; refine wp_append _ rfl _ _ rfl w.heap.size _ _ (withoutL l i j k) [x] rfl rfl (Own.below hown (Below.alloc1 _ _)) (Own.rd (Own.lit1 _ _ _ (Nat.le_refl _))) (by have := HLL.out; simp; omega) (by simp; omega) ?_; intro v' w2 hown2 hgr hbel2; rw [← HK.out] at hown2; have hbel3 := (hbel.alloc hsz _).trans hbel2; clear hgr hbel2)
              go_roundw
              case rel => exact ⟨k + 1, by omega, by go_num, hown2, hbel3⟩
              case measure => simp [intOf]; omega
    · obtain rfl : k = n := by omega
      go_wp2
      go_ret
      exact ⟨_, rfl, hown, hbel⟩

theorem ok_Drop_no {l : List Int} {i : Int} (h : goodB l = false ∨ i < 0 ∨ (l.length : Int) ≤ i ∨ l.getD i.toNat 0 ≤ i) : ok_DropArch l i = false ∧ res_DropArch l i = [] := by
  have e : ok_DropArch l i = false := by
    simp only [ok_DropArch, beginsB, Bool.and_eq_false_iff, decide_eq_false_iff_not]
    rcases h with h | h | h | h
    · exact .inl (.inl h)
    · exact .inl (.inr (by omega))
    · exact .inl (.inr (by omega))
    · exact .inr (by omega)
  exact ⟨e, by simp [res_DropArch, e]⟩
theorem ok_Drop_yes {l : List Int} {i : Nat} (hg : goodB l = true) (hi : i < l.length) (hb : i < par l i) : ok_DropArch l i = true ∧ res_DropArch l i = dropM l i (par l i) (l.length - 2) := by
  have hp := par_int ((good_facts hg).2.2.1 i hi).1
  have e : ok_DropArch l i = true := by
    simp only [ok_DropArch, beginsB, Bool.and_eq_true, decide_eq_true_eq, Int.toNat_natCast]
    exact ⟨⟨hg, by omega⟩, by omega⟩
  exact ⟨e, by simp [res_DropArch, e]⟩

set_option maxHeartbeats 1000000 in
theorem spec_DropArch (l : List Int) (i : Int) (w : World) (u : Value) (h : Rd w u l) (m : l.length ≤ 1048576) : Calls Try.prog 48 #[u, .int .i64 i] w (Gives w (res_DropArch l i) (ok_DropArch l i)) := by
  have hgood := fun w h => ahGood_any u l w h m
  have H0 := Lib.hid h
  cases hg : goodB l with
  | false =>
    obtain ⟨e1, e2⟩ := ok_Drop_no (l := l) (i := i) (.inl hg)
    rw [e1, e2]
    simp only [hg] at hgood
    have HA := Lib.hid hgood
    clear hg e1 e2 hgood h
    go_enter Try.func48, Try.ntmps48
    go_wp2_with (go_at_call 92; refine (HA.out _ H0.out).mono ?_; rintro e w1 ⟨rfl, hb⟩)
    go_ret2
    exact ⟨_, rfl, Own.nil _ _, hb⟩
  | true =>
    simp only [hg] at hgood
    have HA := Lib.hid hgood
    have hl := good_len' hg
    have hfx := (good_facts hg).2.2.1
    obtain ⟨a, c, rfl, hlc, hcm, hnc, hrd⟩ := h
    unfold maxLen at hcm
    by_cases h1 : 0 ≤ i ∧ i < (l.length : Int)
    · obtain ⟨i, rfl⟩ := Int.eq_ofNat_of_zero_le h1.1
      have hi : i < l.length := by omega
      have hp := par_int (hfx i hi).1
      rcases hrd with h0 | ⟨bb, off, rfl, hcell⟩
      · rw [h0] at hi; simp at hi
      have c1 := hcell i hi
      rw [← hp] at c1
      have HC := Lib.hid c1
      have hx2 := (hfx i hi).2.1
      by_cases h2 : i < par l i
      · obtain ⟨e1, e2⟩ := ok_Drop_yes hg hi h2
        rw [e1, e2, ← drop_eq hg hi h2]
        have HW := Lib.hid (fun w h => ahWithout_any l i (par l i) w (.slice (some ⟨bb, off, none⟩) l.length c) h hg hi hp.symm)
        generalize withoutL l i (par l i) l.length = r at HW ⊢
        generalize par l i = j at hp c1 h2 HC HW ⊢
        generalize hn : l.length = n at *
        have hn12 : n ≤ 12 := hl
        have hj12 : j < 12 := by omega
        clear hn hg e1 e2 hgood hfx hcell hx2 hp c1
        go_enter Try.func48, Try.ntmps48
        go_wp2_with (first
          | (go_at_call 92; refine (HA.out _ H0.out).mono ?_; rintro e w1 ⟨rfl, hb⟩; have c2 := (hb.cell (p := ⟨bb, off + i, none⟩) (World.block_lt_of_cell? w _ HC.out)).trans HC.out)
          | (go_at_call 81; refine (l1In_any _ _ _ _).mono ?_; rintro e w' ⟨rfl, rfl⟩; rw [inB_yes (by omega) (by omega)])
          | (go_at_call 109; refine (HW.out _ (Rd.below H0.out hb)).mono ?_; rintro e w2 ⟨v2, rfl, hown2, hb2⟩))
        go_ret2
        exact ⟨_, rfl, hown2.mono hb.size, Below.step hb hb2⟩
      · obtain ⟨e1, e2⟩ := ok_Drop_no (l := l) (i := (i : Int)) (.inr (.inr (.inr (by rw [Int.toNat_natCast]; omega))))
        rw [e1, e2]
        generalize par l i = j at hp c1 h2 HC ⊢
        generalize hn : l.length = n at *
        have hn12 : n ≤ 12 := hl
        have hij : ¬ (i : Int) < (j : Int) := by omega
        have hij2 : (j : Int) < (i : Int) := by
          have := (hfx i hi).2.2.1
          omega
        clear hn hg e1 e2 hgood hfx hcell hx2 hp c1
        go_enter Try.func48, Try.ntmps48
        go_wp2_with (first
          | (go_at_call 92; refine (HA.out _ H0.out).mono ?_; rintro e w1 ⟨rfl, hb⟩; have c2 := (hb.cell (p := ⟨bb, off + i, none⟩) (World.block_lt_of_cell? w _ HC.out)).trans HC.out)
          | (go_at_call 81; refine (l1In_any _ _ _ _).mono ?_; rintro e w' ⟨rfl, rfl⟩; rw [inB_yes (by omega) (by omega)]))
        go_ret2
        exact ⟨_, rfl, Own.nil _ _, hb⟩
    · obtain ⟨e1, e2⟩ := ok_Drop_no (l := l) (i := i) (.inr (by omega))
      rw [e1, e2]
      generalize hn : l.length = n at *
      have hn12 : n ≤ 12 := hl
      clear hn hg e1 e2 hgood hfx hrd
      go_enter Try.func48, Try.ntmps48
      go_wp2_with (first
        | (go_at_call 92; refine (HA.out _ H0.out).mono ?_; rintro e w1 ⟨rfl, hb⟩)
        | (go_at_call 81; refine (l1In_any _ _ _ _).mono ?_; rintro e w' ⟨rfl, rfl⟩; rw [inB_no (by omega)]))
      go_ret2
      exact ⟨_, rfl, Own.nil _ _, hb⟩

set_option maxHeartbeats 2000000 in
theorem impl_DropArch (l : List Int) (i : Int) (w : World) (u : Value) (h : Rd w u l) (m : l.length ≤ 1048576) : Calls Try.prog 47 #[u, .int .i64 i] w (Gives w (res_DropArch l i) (ok_DropArch l i)) := by
  cases hg : goodB l with
  | false =>
    obtain ⟨e1, e2⟩ := ok_Drop_no (l := l) (i := i) (.inl hg)
    rw [e1, e2]
    have HG := Lib.hid hg; clear hg e1 e2
    go_enter Try.func47, Try.ntmps47
    go_wp2_with fail
    refine (readSystem_no u l _ h HG.out).mono ?_
    rintro e w1 ⟨rfl, hb⟩
    go_wp2_with ((with_reducible refine wp_storeNew rfl (.tmp 6) (.tmp 14) rfl _ [] (Nat.zero_le _) rfl rfl ?_); intro w2 hs2 hb2; have hcs := hs2.size (Nat.zero_le _); rw [List.length_nil] at hcs)
    go_ret2
    exact ⟨_, rfl, Own.nil _ _, Below.step hb hb2⟩
  | true =>
    have hl := good_len' hg
    have hfx := (good_facts hg).2.2.1
    by_cases h1 : 0 ≤ i ∧ i < (l.length : Int)
    · obtain ⟨i, rfl⟩ := Int.eq_ofNat_of_zero_le h1.1
      have hi : i < l.length := by omega
      have hp := par_int (hfx i hi).1
      by_cases h2 : i < par l i
      · obtain ⟨e1, e2⟩ := ok_Drop_yes hg hi h2
        rw [e1, e2]
        exact implDrop_run l i w u h hg hi h2
      · obtain ⟨e1, e2⟩ := ok_Drop_no (l := l) (i := (i : Int)) (.inr (.inr (.inr (by rw [Int.toNat_natCast]; omega))))
        rw [e1, e2]
        have hbeg := fun w => begins_any l (i : Int) w hl (by omega) (by omega)
        have hbt : beginsB l (i : Int) = false := by unfold beginsB; rw [Int.toNat_natCast]; exact decide_eq_false (by omega)
        rw [hbt] at hbeg
        have HL : Hid (l.length ≤ 12) := hl
        have HG := Lib.hid hg
        have HBG := Lib.hid hbeg
        obtain ⟨n, hn⟩ : ∃ n, n = l.length := ⟨_, rfl⟩
        have HN := Lib.hid hn
        rw [← hn] at hi hl
        clear hn hg hfx hbeg hbt hp h1 h2 e1 e2
        have hd1 : decide ((i : Int) < 0) = false := by simp
        have hd2 : decide (n ≤ i) = false := by simp; omega
        go_enter Try.func47, Try.ntmps47
        go_wp2_with fail
        refine (readSystem_yes u l _ h HG.out).mono ?_
        rintro e w1 ⟨rfl, hb⟩
        go_wp2_with (first | ((with_reducible refine wp_storeNew rfl (.tmp 6) (.tmp 14) rfl _ l HL.out rfl rfl ?_); intro w2 hs2 hb2; have hcs := hs2.size HL.out; rw [← HN.out] at hcs) | (with_reducible refine wp_loadSysG (.tmp 6) rfl w1.heap.size l HL.out rfl hs2 (by first | with_unfolding_all rfl | (simp only [hd1, hd2, Bool.or_false]; with_unfolding_all rfl)) ?_) | (go_at_call 89; refine (HBG.out _).mono ?_; rintro e w3 ⟨rfl, hb3⟩))
        go_ret2
        exact ⟨_, rfl, Own.nil _ _, Below.step (Below.step hb hb2) hb3⟩
    · obtain ⟨e1, e2⟩ := ok_Drop_no (l := l) (i := i) (.inr (by omega))
      rw [e1, e2]
      have HL : Hid (l.length ≤ 12) := hl
      have HG := Lib.hid hg
      obtain ⟨n, hn⟩ : ∃ n, n = l.length := ⟨_, rfl⟩
      have HN := Lib.hid hn
      rw [← hn] at h1 hl
      clear hn hg hfx e1 e2
      by_cases h2 : i < 0
      · clear h1
        go_enter Try.func47, Try.ntmps47
        go_wp2_with fail
        refine (readSystem_yes u l _ h HG.out).mono ?_
        rintro e w1 ⟨rfl, hb⟩
        go_wp2_with (first | ((with_reducible refine wp_storeNew rfl (.tmp 6) (.tmp 14) rfl _ l HL.out rfl rfl ?_); intro w2 hs2 hb2; have hcs := hs2.size HL.out; rw [← HN.out] at hcs))
        go_ret2
        exact ⟨_, rfl, Own.nil _ _, Below.step hb hb2⟩
      · have h3 : (n : Int) ≤ i := by omega
        clear h1
        go_enter Try.func47, Try.ntmps47
        go_wp2_with fail
        refine (readSystem_yes u l _ h HG.out).mono ?_
        rintro e w1 ⟨rfl, hb⟩
        go_wp2_with (first | ((with_reducible refine wp_storeNew rfl (.tmp 6) (.tmp 14) rfl _ l HL.out rfl rfl ?_); intro w2 hs2 hb2; have hcs := hs2.size HL.out; rw [← HN.out] at hcs))
        go_ret2
        exact ⟨_, rfl, Own.nil _ _, Below.step hb hb2⟩

end Go.Proofs.Ytbinpefogecgmaa
