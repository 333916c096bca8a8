/- SemiOfFolding: the program's function and the model's. -/
import Derived.Test.YtnkkgbecdckigaaSemiF
import Derived.Test.YtnkkgbecdckigaaReadFold
import Derived.Test.YtnkkgbecdckigaaSpFold
namespace Go.Proofs.Ytnkkgbecdckigaa
open Go.RowKit
set_option linter.unusedSimpArgs false
set_option linter.unusedVariables false

def ok_SemiOfFolding (l : List Int) : Bool := stackB l && foldB l && (decide (l.length ≤ 6) && decide (l.getD 0 0 = 0))
def res_SemiOfFolding (l : List Int) : List Int := if stackB l && foldB l && (decide (l.length ≤ 6) && decide (l.getD 0 0 = 0)) then semiL l else []
theorem len_SemiOfFolding (l : List Int) : (res_SemiOfFolding l).length ≤ 1000000 := by
  unfold res_SemiOfFolding
  split
  · next h => rw [semiL_length]; simp at h; omega
  · simp
theorem sof_yes {l : List Int} (h1 : stackB l = true) (h2 : foldB l = true) (h3 : l.length ≤ 6) (h4 : l.getD 0 0 = 0) : res_SemiOfFolding l = semiL l ∧ ok_SemiOfFolding l = true := by
  unfold res_SemiOfFolding ok_SemiOfFolding; rw [h1, h2, decide_eq_true h3, decide_eq_true h4]; exact ⟨rfl, rfl⟩
theorem sof_no {l : List Int} (h : (stackB l && foldB l) = false ∨ 6 < l.length ∨ l.getD 0 0 ≠ 0) : res_SemiOfFolding l = [] ∧ ok_SemiOfFolding l = false := by
  have e : (stackB l && foldB l && (decide (l.length ≤ 6) && decide (l.getD 0 0 = 0))) = false := by
    rcases h with h | h | h
    · rw [h]; rfl
    · rw [decide_eq_false (by omega : ¬ l.length ≤ 6)]; simp
    · rw [decide_eq_false h]; simp
  unfold res_SemiOfFolding ok_SemiOfFolding; rw [e]; exact ⟨rfl, rfl⟩

set_option maxHeartbeats 2000000 in
theorem impl_SemiOfFolding (l : List Int) (w : World) (u : Value) (h : Rd w u l) (m : l.length ≤ 1048576) : Calls Try.prog 32 #[u] w (Gives w (res_SemiOfFolding l) (ok_SemiOfFolding l)) := by
  cases hc : stackB l && foldB l with
  | false =>
    rw [(sof_no (.inl hc)).1, (sof_no (.inl hc)).2]
    have HC := Lib.hid (readFolding_not u l w h hc)
    clear hc h
    go_enter Try.func32, Try.ntmps32
    go_wp2_with fail
    refine HC.out.mono ?_
    rintro e w1 ⟨rfl, hb⟩
    go_wp2_with ((with_reducible refine wp_storeNewStk rfl (.tmp 4) (.tmp 9) rfl _ [] (Nat.zero_le _) rfl rfl ?_); intro w2 hs2 hb2)
    go_ret2
    exact ⟨_, rfl, Own.nil _ _, Below.step hb hb2⟩
  | true =>
    rw [Bool.and_eq_true] at hc
    obtain ⟨hg, hf⟩ := hc
    have HC := Lib.hid (readFolding_yes u l w h hg hf)
    have HL := Lib.hid (stack_len hg)
    have h8 := stack_len hg
    have h1 := (stack_facts hg).1
    by_cases h6 : l.length ≤ 6
    · by_cases h0 : l.getD 0 0 = 0
      · rw [(sof_yes hg hf h6 h0).1, (sof_yes hg hf h6 h0).2]
        have HS := Lib.hid (fun w => semi_any l w hg h6)
        have HSL : Hid ((semiL l).length ≤ 12) := by show _ ≤ 12; rw [semiL_length]; omega
        have HN0 := Lib.hid h0
        obtain ⟨n, hn⟩ : ∃ n, n = l.length := ⟨_, rfl⟩
        have HN := Lib.hid hn
        rw [← hn] at h6 h8 h1
        clear hg hf hn h h0
        go_enter Try.func32, Try.ntmps32
        go_wp2_with fail
        refine HC.out.mono ?_
        rintro e w1 ⟨rfl, hb⟩
        go_wp2_with (first
          | ((with_reducible refine wp_storeNewStk rfl (.tmp 4) (.tmp 9) rfl _ l HL.out rfl rfl ?_); intro w2 hs2 hb2; have hcs := hs2.size HL.out; rw [← HN.out] at hcs; have hc0 := hs2.cell HL.out 0 (by omega); rw [HN0.out] at hc0)
          | (with_reducible refine wp_loadStk rfl (.tmp 4) rfl w1.heap.size l HL.out rfl hs2 ?_)
          | (go_at_call 55; refine (HS.out _).mono ?_; rintro e w3 ⟨rfl, hb3⟩)
          | (go_at_call 56; refine (list_any _ _ HSL.out).mono ?_; rintro e w4 ⟨v, rfl, hown, hb4⟩))
        go_ret2
        have C := Below.step (Below.step hb hb2) hb3
        exact ⟨_, rfl, hown.mono C.size, Below.step C hb4⟩
      · rw [(sof_no (.inr (.inr h0))).1, (sof_no (.inr (.inr h0))).2]
        obtain ⟨n, hn⟩ : ∃ n, n = l.length := ⟨_, rfl⟩
        have HN := Lib.hid hn
        rw [← hn] at h6 h8 h1
        obtain ⟨x, hx⟩ : ∃ x, x = l.getD 0 0 := ⟨_, rfl⟩
        rw [← hx] at h0
        have HX := Lib.hid hx
        have hne : (x != 0) = true := by simp; omega
        clear hg hf hn h hx
        go_enter Try.func32, Try.ntmps32
        go_wp2_with fail
        refine HC.out.mono ?_
        rintro e w1 ⟨rfl, hb⟩
        go_wp2_with ((with_reducible refine wp_storeNewStk rfl (.tmp 4) (.tmp 9) rfl _ l HL.out rfl rfl ?_); intro w2 hs2 hb2; have hcs := hs2.size HL.out; rw [← HN.out] at hcs; have hc0 := hs2.cell HL.out 0 (by omega); rw [← HX.out] at hc0)
        go_ret2
        exact ⟨_, rfl, Own.nil _ _, Below.step hb hb2⟩
    · rw [(sof_no (.inr (.inl (by omega)))).1, (sof_no (.inr (.inl (by omega)))).2]
      obtain ⟨n, hn⟩ : ∃ n, n = l.length := ⟨_, rfl⟩
      have HN := Lib.hid hn
      rw [← hn] at h6 h8 h1
      have h7 : 6 < n := by omega
      clear hg hf hn h h6
      go_enter Try.func32, Try.ntmps32
      go_wp2_with fail
      refine HC.out.mono ?_
      rintro e w1 ⟨rfl, hb⟩
      go_wp2_with ((with_reducible refine wp_storeNewStk rfl (.tmp 4) (.tmp 9) rfl _ l HL.out rfl rfl ?_); intro w2 hs2 hb2; have hcs := hs2.size HL.out; rw [← HN.out] at hcs)
      go_ret2
      exact ⟨_, rfl, Own.nil _ _, Below.step hb hb2⟩

set_option maxHeartbeats 4000000 in
set_option maxRecDepth 100000 in
theorem spSystem_any (v : Value) (s : List Int) (w : World) (h : Rd w v s) (hs : stackB s = true) (h6 : s.length ≤ 6) :
    Calls Try.prog 54 #[v] w (Made w (semiL s)) := by
  have h1 := (stack_facts hs).1
  have hrr := (stack_facts hs).2.2.1
  obtain ⟨b, off, c, rfl, hlc, hcm, hcell⟩ := h.at h1
  obtain ⟨q, hq⟩ : ∃ q, q = s.length := ⟨_, rfl⟩
  unfold semiL
  rw [← hq] at hlc hcell h6 h1 hrr ⊢
  unfold maxLen at hcm
  have HRR := Lib.hid hrr; have HC := Lib.hid hcell
  have HL := Lib.hid (semiK_length s q)
  have H0 : Hid (List.replicate (2 * q) 0 = semiK s q 0) := rfl
  clear hq hrr hs hcell h
  go_enter Try.func54, Try.ntmps54
  go_wp2_with (at_make; refine wp_make w rfl _ _ rfl (2 * q) _ _ rfl rfl (by simp) (by simp) (by omega) ?_; intro w2 hown hbel hsz; rw [H0.out] at hown)
  go_loopw [17] (fun i wr => ∃ k : Nat, k ≤ q ∧ i = .int .i64 k ∧ Own w.heap.size wr (.slice (some ⟨w.heap.size, 0, none⟩) (2 * q) (2 * q)) (semiK s q k) ∧ Below w.heap.size w wr) (fun i _ => q - (intOf i).toNat)
  case atStart => exact ⟨0, by omega, rfl, hown, hbel⟩
  case round =>
    clear hown hbel hsz
    obtain ⟨k, hk, rfl, hown, hbel⟩ := hrel
    by_cases hlt : k < q
    · have hsrc : wr.cell? ⟨b, off + k, none⟩ = some (.int .i64 (s.getD k 0)) := by
        have := HC.out k hlt
        exact (hbel.cell (p := ⟨b, off + k, none⟩) (World.block_lt_of_cell? w _ this)).trans this
      have hk2 : (k + 1) % q < q := Nat.mod_lt _ (by omega)
      have hrem : ((k : Int) + 1) % (q : Int) = (((k + 1) % q : Nat) : Int) := by rw [Int.natCast_emod]; rfl
      have hnext : semiK s q (k + 1) = ((semiK s q k).set (exN q (par s k)) ((2 * q - 1 - exN q (par s ((k + 1) % q)) : Nat) : Int)).set (2 * q - 1 - exN q (par s ((k + 1) % q))) ((exN q (par s k) : Nat) : Int) := rfl
      obtain ⟨k2, hk2e⟩ : ∃ k2, k2 = (k + 1) % q := ⟨_, rfl⟩
      rw [← hk2e] at hk2 hrem hnext
      have hsrc2 : wr.cell? ⟨b, off + k2, none⟩ = some (.int .i64 (s.getD k2 0)) := by
        have := HC.out k2 hk2
        exact (hbel.cell (p := ⟨b, off + k2, none⟩) (World.block_lt_of_cell? w _ this)).trans this
      have hx1 := HRR.out k hlt
      have hx2 := HRR.out k2 hk2
      have p1 := par_int hx1.1
      have p2 := par_int hx2.1
      rw [← p1] at hsrc hx1
      rw [← p2] at hsrc2 hx2
      generalize par s k = c1 at *
      generalize par s k2 = c2 at *
      have hc1q : c1 < q := by omega
      have hc2q : c2 < q := by omega
      have x1 := exN_lt hc1q
      have x2 := exN_lt hc2q
      have a1e : exN q c1 = if c1 % 2 = 0 then q + c1 else q - 1 - c1 := rfl
      have a2e : exN q c2 = if c2 % 2 = 0 then q + c2 else q - 1 - c2 := rfl
      generalize exN q c1 = a1 at *
      generalize exN q c2 = a2 at *
      obtain ⟨a3, ha3⟩ : ∃ a3, a3 = 2 * q - 1 - a2 := ⟨_, rfl⟩
      rw [← ha3] at hnext
      have x3 : a3 < 2 * q := by omega
      have hLk := HL.out k
      generalize semiK s q k = L at *
      have d1 := hown.cellAt a1 (by omega)
      have f1 := hown.frozenAt a1
      have ho1 := hown.stored a1 (a3 : Int)
      have d2 := ho1.cellAt a3 (by rw [List.length_set]; omega)
      have f2 := ho1.frozenAt a3
      have ho2 := ho1.stored a3 (a1 : Int)
      rw [← hnext] at ho2
      have hb2 := (hbel.setCell (p := ⟨w.heap.size, a1, none⟩) (Nat.le_refl _) (.int .i64 (a3 : Int))).setCell (p := ⟨w.heap.size, a3, none⟩) (Nat.le_refl _) (.int .i64 (a1 : Int))
      have HO := Lib.hid ho2; have HB := Lib.hid hb2
      generalize L.getD a1 0 = z1 at d1
      generalize (L.set a1 (a3 : Int)).getD a3 0 = z2 at d2
      clear hown hbel ho1 ho2 hb2 hnext hk2e p1 p2
      by_cases e1 : c1 % 2 = 0
      · rw [if_pos e1] at a1e
        have t1 : ((c1 : Int) % 2 == 1) = false := by simp; omega
        have v1 : (q : Int) + (c1 : Int) = (a1 : Int) := by omega
        clear a1e e1
        by_cases e2 : c2 % 2 = 0
        · rw [if_pos e2] at a2e
          have t2 : ((c2 : Int) % 2 == 1) = false := by simp; omega
          have v2 : (q : Int) - 1 - (c2 : Int) = (a3 : Int) := by omega
          clear a2e e2 ha3
          go_wp2
          go_roundw
          case rel => exact ⟨k + 1, by omega, by go_num, HO.out, HB.out⟩
          case measure => simp [intOf]; omega
        · rw [if_neg e2] at a2e
          have t2 : ((c2 : Int) % 2 == 1) = true := by simp; omega
          have v2 : (q : Int) + (c2 : Int) = (a3 : Int) := by omega
          clear a2e e2 ha3
          go_wp2
          go_roundw
          case rel => exact ⟨k + 1, by omega, by go_num, HO.out, HB.out⟩
          case measure => simp [intOf]; omega
      · rw [if_neg e1] at a1e
        have t1 : ((c1 : Int) % 2 == 1) = true := by simp; omega
        have v1 : (q : Int) - 1 - (c1 : Int) = (a1 : Int) := by omega
        clear a1e e1
        by_cases e2 : c2 % 2 = 0
        · rw [if_pos e2] at a2e
          have t2 : ((c2 : Int) % 2 == 1) = false := by simp; omega
          have v2 : (q : Int) - 1 - (c2 : Int) = (a3 : Int) := by omega
          clear a2e e2 ha3
          go_wp2
          go_roundw
          case rel => exact ⟨k + 1, by omega, by go_num, HO.out, HB.out⟩
          case measure => simp [intOf]; omega
        · rw [if_neg e2] at a2e
          have t2 : ((c2 : Int) % 2 == 1) = true := by simp; omega
          have v2 : (q : Int) + (c2 : Int) = (a3 : Int) := by omega
          clear a2e e2 ha3
          go_wp2
          go_roundw
          case rel => exact ⟨k + 1, by omega, by go_num, HO.out, HB.out⟩
          case measure => simp [intOf]; omega
    · obtain rfl : k = q := by omega
      go_wp2
      go_ret
      exact ⟨_, rfl, hown, hbel⟩

set_option maxHeartbeats 1000000 in
theorem spec_SemiOfFolding (l : List Int) (w : World) (u : Value) (h : Rd w u l) (m : l.length ≤ 1048576) : Calls Try.prog 31 #[u] w (Gives w (res_SemiOfFolding l) (ok_SemiOfFolding l)) := by
  have HP := Lib.hid (spStack_any u l w h)
  cases hg : stackB l with
  | false =>
    have hn : (stackB l && foldB l) = false := by rw [hg]; rfl
    rw [(sof_no (.inl hn)).1, (sof_no (.inl hn)).2]
    rw [hg] at HP
    clear hn hg h
    go_enter Try.func31, Try.ntmps31
    go_wp2_with (go_at_call 34; refine HP.out.mono ?_; rintro e w1 ⟨rfl, rfl⟩)
    go_ret2
    exact ⟨_, rfl, Own.nil _ _, Below.refl _ _⟩
  | true =>
    rw [hg] at HP
    have HF := Lib.hid (spIs_any u l w h hg)
    cases hf : foldB l with
    | false =>
      have hn : (stackB l && foldB l) = false := by rw [hg, hf]; rfl
      rw [(sof_no (.inl hn)).1, (sof_no (.inl hn)).2]
      rw [hf] at HF
      clear hn hg h hf
      go_enter Try.func31, Try.ntmps31
      go_wp2_with (first
        | (go_at_call 34; refine HP.out.mono ?_; rintro e w1 ⟨rfl, rfl⟩)
        | (go_at_call 35; refine HF.out.mono ?_; rintro e w1 ⟨rfl, hb⟩))
      go_ret2
      exact ⟨_, rfl, Own.nil _ _, hb⟩
    | true =>
      rw [hf] at HF
      have h8 := stack_len hg
      have h1 := (stack_facts hg).1
      have HSY := Lib.hid (fun (w1 : World) (h1 : Rd w1 u l) (h6 : l.length ≤ 6) => spSystem_any u l w1 h1 hg h6)
      have hyes := fun (h6 : l.length ≤ 6) (h0 : l.getD 0 0 = 0) => sof_yes hg hf h6 h0
      have H := Lib.hid h
      obtain ⟨b, off, c, rfl, hlc, hcm, hcell⟩ := h.at h1
      have hc0 := hcell 0 (by omega)
      rw [Nat.add_zero] at hc0
      have hbl := World.block_lt_of_cell? w _ hc0
      obtain ⟨n, hn⟩ : ∃ n, n = l.length := ⟨_, rfl⟩
      rw [← hn] at hlc h8 h1 HSY hyes H HP HF ⊢
      unfold maxLen at hcm
      have HC0 := Lib.hid hc0; have HBL := Lib.hid hbl; have HN := Lib.hid hn
      by_cases h0 : l.getD 0 0 = 0
      · rw [h0] at HC0
        by_cases h6 : n ≤ 6
        · rw [(hyes h6 h0).1, (hyes h6 h0).2]
          clear hn hcell hc0 hbl hg hf h hyes h0
          go_enter Try.func31, Try.ntmps31
          go_wp2_with (first
            | (go_at_call 34; refine HP.out.mono ?_; rintro e w1 ⟨rfl, rfl⟩)
            | (go_at_call 35; refine HF.out.mono ?_; rintro e w1 ⟨rfl, hb⟩; have hc1 := (hb.cell (p := ⟨b, off, none⟩) HBL.out).trans HC0.out; have HB := Lib.hid hb; clear hb)
            | (go_at_call 54; refine (HSY.out _ (H.out.below HB.out) h6).mono ?_; rintro e w2 ⟨v2, rfl, ho2, hb2⟩))
          go_ret2
          exact ⟨_, rfl, ho2.mono HB.out.size, Below.step HB.out hb2⟩
        · have hno := sof_no (l := l) (.inr (.inl (by omega)))
          rw [hno.1, hno.2]
          have h7 : 6 < n := by omega
          clear hn hcell hc0 hbl hg hf h hyes h0 hno h6
          go_enter Try.func31, Try.ntmps31
          go_wp2_with (first
            | (go_at_call 34; refine HP.out.mono ?_; rintro e w1 ⟨rfl, rfl⟩)
            | (go_at_call 35; refine HF.out.mono ?_; rintro e w1 ⟨rfl, hb⟩; have hc1 := (hb.cell (p := ⟨b, off, none⟩) HBL.out).trans HC0.out; have HB := Lib.hid hb; clear hb))
          go_ret2
          exact ⟨_, rfl, Own.nil _ _, HB.out⟩
      · have hno := sof_no (l := l) (.inr (.inr h0))
        rw [hno.1, hno.2]
        generalize l.getD 0 0 = x at HC0 h0
        have hne : (x != 0) = true := by simp; omega
        clear hn hcell hc0 hbl hg hf h hyes hno
        go_enter Try.func31, Try.ntmps31
        go_wp2_with (first
          | (go_at_call 34; refine HP.out.mono ?_; rintro e w1 ⟨rfl, rfl⟩)
          | (go_at_call 35; refine HF.out.mono ?_; rintro e w1 ⟨rfl, hb⟩; have hc1 := (hb.cell (p := ⟨b, off, none⟩) HBL.out).trans HC0.out; have HB := Lib.hid hb; clear hb))
        go_ret2
        exact ⟨_, rfl, Own.nil _ _, HB.out⟩

end Go.Proofs.Ytnkkgbecdckigaa
