/- What the program draws from a rank. -/
import Derived.Test.YtogjclmmjdhfeacFillM
import Derived.Test.YtogjclmmjdhfeacJoin
import Derived.Test.YtogjclmmjdhfeacRead
import Derived.Test.YtogjclmmjdhfeacNum
import Derived.Test.YtogjclmmjdhfeacOwn
import Derived.OwnWalk
namespace Go.Proofs.Ytogjclmmjdhfeac
open Go.RowKit
set_option linter.unusedSimpArgs false
set_option linter.unusedVariables false

theorem cat_N (n : Nat) (h : n ≤ 6) : cat n = (catN n : Int) := by
  have : n = 0 ∨ n = 1 ∨ n = 2 ∨ n = 3 ∨ n = 4 ∨ n = 5 ∨ n = 6 := by omega
  rcases this with rfl | rfl | rfl | rfl | rfl | rfl | rfl <;> rfl
theorem catalan_N (n : Nat) (hn : n ≤ 6) (w : World) :
    Calls Try.prog 71 #[.int .i64 n] w fun e w' => e = .returned (.int .i64 (catN n : Int)) ∧ w = w' := by rw [← cat_N n hn]; exact catalan_any n hn w

set_option maxHeartbeats 2000000 in
theorem fill_any : ∀ (f b a m r : Nat) (l : List Int) (w : World), SysIn w b l → l.length ≤ 12 → m ≤ f → m ≤ 6 → a + 2 * m ≤ l.length → r < catN m →
    Calls Try.prog 100 #[.pointer (some ⟨b, 0, none⟩), .int .i64 (a : Int), .int .i64 (m : Int), .int .i64 (r : Int)] w (TurnedJ w b (fillL f l a m r)) := by
  intro f
  induction f with
  | zero =>
    intro b a m r l w hs hl hmf hm6 ha hr
    obtain rfl : m = 0 := by omega
    go_enter Try.func100, Try.ntmps100
    go_wp2_with fail
    go_end0
    exact ⟨rfl, hs, World.grownBy.refl _ _⟩
  | succ f ih =>
    intro b a m r l w hs hl hmf hm6 ha hr
    by_cases hm : m = 0
    · subst hm
      go_enter Try.func100, Try.ntmps100
      go_wp2_with fail
      go_end0
      exact ⟨rfl, by rw [fillL_zero]; exact hs, World.grownBy.refl _ _⟩
    · have hr0 : r < remN m m 0 := by rw [remN_all m hm6 (by omega)]; exact hr
      have HR0 := Lib.hid hr0; have HS := Lib.hid hs; have HL := Lib.hid hl; have HIH := Lib.hid ih
      have hm0 : ((m : Int) == 0) = false := by simp; omega
      have hrb := (catN_bd m hm6).2
      have hr132 : r ≤ 132 := by omega
      clear hr0 hs ih hr hrb
      go_enter Try.func100, Try.ntmps100
      go_wp2_with fail
      go_loop [3, 8, 9] (fun rk inn bh => ∃ i s q : Nat, i + q + 1 = m ∧ s ≤ 132 ∧ rk = .int .i64 (s : Int) ∧ inn = .int .i64 (i : Int) ∧ bh = .int .i64 (q : Int) ∧ Hid (splitR m (q + 1) i s = splitR m m 0 r ∧ s < remN m (q + 1) i)) (fun _ inn _ => m - (intOf inn).toNat)
      case atStart => exact ⟨0, r, m - 1, by omega, hr132, rfl, rfl, by go_num, by rw [show m - 1 + 1 = m by omega]; exact ⟨rfl, HR0.out⟩⟩
      case round =>
        obtain ⟨i, s, q, hiq, hs132, rfl, rfl, rfl, HK⟩ := hrel
        clear hr132 HR0
        obtain ⟨c1, hc1⟩ : ∃ c, c = catN i := ⟨_, rfl⟩
        obtain ⟨c2, hc2⟩ : ∃ c, c = catN q := ⟨_, rfl⟩
        have b1 := catN_bd i (by omega)
        have b2 := catN_bd q (by omega)
        have hk := HK.out
        have hq1 : m - 1 - i = q := by omega
        have hcall1 := fun w => catalan_N i (by omega) w
        have hcall2 := fun w => catalan_N q (by omega) w
        rw [← hc1] at b1 hcall1
        rw [← hc2] at b2 hcall2
        have hpn : c1 * c2 ≤ 132 * 132 := Nat.mul_le_mul b1.2 b2.2
        have hpc : ((c1 * c2 : Nat) : Int) = (c1 : Int) * (c2 : Int) := by simp
        have hp0 : (0 : Int) ≤ (c1 : Int) * (c2 : Int) := by omega
        have hp1 : (c1 : Int) * (c2 : Int) ≤ 17424 := by omega
        have b11 := b1.1; have b12 := b1.2; have b21 := b2.1; have b22 := b2.2
        have HC1 := Lib.hid hcall1; have HC2 := Lib.hid hcall2
        by_cases hge : c1 * c2 ≤ s
        · have hk2 := splitR_yes (m := m) (f := q) (i := i) (r := s) (by rw [hq1, ← hc1, ← hc2]; exact hge)
          have hk3 := remN_step (m := m) (f := q) (i := i) (r := s) (by rw [hq1, ← hc1, ← hc2]; exact hge) hk.2
          rw [hq1, ← hc1, ← hc2] at hk2 hk3
          have hq0 : q ≠ 0 := by intro h; subst h; simp [remN] at hk3
          have hq2 : 0 < q := by omega
          have HK2 : Hid (splitR m (q - 1 + 1) (i + 1) (s - c1 * c2) = splitR m m 0 r ∧ s - c1 * c2 < remN m (q - 1 + 1) (i + 1)) := by rw [show q - 1 + 1 = q by omega]; exact ⟨hk2 ▸ hk.1, hk3⟩
          have HQ1 : Hid ((q : Int) - 1 = ((q - 1 : Nat) : Int)) := by show (q : Int) - 1 = ((q - 1 : Nat) : Int); omega
          have hge' : (c1 : Int) * (c2 : Int) ≤ (s : Int) := by omega
          have HSB : Hid ((s : Int) - (c1 : Int) * (c2 : Int) = ((s - c1 * c2 : Nat) : Int)) := by show (s : Int) - (c1 : Int) * (c2 : Int) = ((s - c1 * c2 : Nat) : Int); omega
          have HPS : Hid (s - c1 * c2 ≤ 132) := by show _ ≤ _; omega
          clear hq0 hk hk2 hk3 hc1 hc2 hq1 hcall1 hcall2 hpn hpc b1 b2 HK hge
          go_wp2_with (first
            | (go_at_call 71; ((with_reducible refine (HC1.out _).mono ?_); rintro e w' ⟨rfl, rfl⟩))
            | (go_at_call 71; ((with_reducible refine (HC2.out _).mono ?_); rintro e w' ⟨rfl, rfl⟩)))
          go_round
          case rel => exact ⟨i + 1, s - c1 * c2, q - 1, by omega, HPS.out, by rw [HSB.out], by go_num, by rw [HQ1.out], HK2.out⟩
          case measure => simp [intOf]; omega
        · have hk2 := splitR_no (m := m) (f := q) (i := i) (r := s) (by rw [hq1, ← hc1, ← hc2]; exact hge)
          have hfill := fillL_succ (f := f) (l := l) (a := a) hm (hk.1.symm.trans hk2)
          rw [hq1, ← hc2] at hfill
          have HF := Lib.hid hfill
          have hlt' : ¬ (c1 : Int) * (c2 : Int) ≤ (s : Int) := by omega
          have hd1 : (s : Int) / (c2 : Int) = ((s / c2 : Nat) : Int) := by simp
          have hd2 : (s : Int) % (c2 : Int) = ((s % c2 : Nat) : Int) := by simp
          have hd5 : 0 ≤ (s : Int) / (c2 : Int) := by rw [hd1]; exact Int.natCast_nonneg _
          have hd6 : (s : Int) / (c2 : Int) ≤ 132 := by rw [hd1]; exact Int.ofNat_le.2 (Nat.le_trans (Nat.div_le_self s c2) hs132)
          have hd7 : 0 ≤ (s : Int) % (c2 : Int) := by rw [hd2]; exact Int.natCast_nonneg _
          have hd8 : (s : Int) % (c2 : Int) ≤ 132 := by rw [hd2]; exact Int.ofNat_le.2 (Nat.le_trans (Nat.mod_le s c2) hs132)
          have hd3 : s / c2 < catN i := by rw [← hc1]; exact Nat.div_lt_of_lt_mul (by rw [Nat.mul_comm]; omega)
          have hd4 : s % c2 < catN q := by rw [← hc2]; exact Nat.mod_lt _ (by omega)
          have HD1 := Lib.hid hd1; have HD2 := Lib.hid hd2; have HD3 := Lib.hid hd3; have HD4 := Lib.hid hd4
          have HE : Hid ((a : Int) + 2 * (i : Int) + 1 = ((a + 2 * i + 1 : Nat) : Int)) := by show (a : Int) + 2 * (i : Int) + 1 = ((a + 2 * i + 1 : Nat) : Int); omega
          have HE2 : Hid ((a : Int) + 1 = ((a + 1 : Nat) : Int)) := by show (a : Int) + 1 = ((a + 1 : Nat) : Int); omega
          have HE3 : Hid ((a : Int) + 2 * (i : Int) + 1 + 1 = ((a + 2 * i + 2 : Nat) : Int)) := by show (a : Int) + 2 * (i : Int) + 1 + 1 = ((a + 2 * i + 2 : Nat) : Int); omega
          clear hfill hk2 hk hd1 hd2 hd3 hd4 hc1 hc2 hq1 hcall1 hcall2 hpn hpc b1 b2 HK hge
          go_wp2_with (first
            | (go_at_call 71; ((with_reducible refine (HC1.out _).mono ?_); rintro e w' ⟨rfl, rfl⟩))
            | (go_at_call 71; ((with_reducible refine (HC2.out _).mono ?_); rintro e w' ⟨rfl, rfl⟩))
            | (go_at_call 92; rw [HE.out]; ((with_reducible refine (join_any b a (a + 2 * i + 1) l _ HS.out HL.out (by omega) (by omega)).mono ?_); rintro e w1 ⟨rfl, hs1, hg1⟩))
            | (go_at_call 100; rw [HD1.out, HE2.out]; ((with_reducible refine (HIH.out b (a + 1) i (s / c2) _ _ hs1 (by rw [List.length_set, List.length_set]; exact HL.out) (by omega) (by omega) (by rw [List.length_set, List.length_set]; omega) HD3.out).mono ?_); rintro e w2 ⟨rfl, hs2, hg2⟩))
            | (go_at_call 100; rw [HD2.out, HE3.out]; ((with_reducible refine (HIH.out b (a + 2 * i + 2) q (s % c2) _ _ hs2 (by rw [fillL_length, List.length_set, List.length_set]; exact HL.out) (by omega) (by omega) (by rw [fillL_length, List.length_set, List.length_set]; omega) HD4.out).mono ?_); rintro e w3 ⟨rfl, hs3, hg3⟩)))
          go_end0
          exact ⟨rfl, by rw [HF.out]; exact hs3, grown_trans hg1 (grown_trans hg2 hg3)⟩

theorem results_ranked (tmps : Array Value) (w : World) (g : Nat) (l : List Int) (hl : l.length ≤ 12) (hg : SysIn w g l) (h4 : tmps.getD 4 undef = .pointer (some ⟨g, 0, none⟩)) :
    (results Try.f72 tmps).run Try.prog w = .ok (.agg (sysC l)) w := by
  have h4' : tmps[4]?.getD undef = .pointer (some ⟨g, 0, none⟩) := by simpa using h4
  have hr : Try.f72.results = #[.cell 4 56] := by kernel_rfl
  simp [results, hr, h4', asAddr, run_loadSys w g l hl hg]

/-- a system by value -/
def SysOut (w : World) (l : List Int) (e : Ending) (w' : World) : Prop := e = .returned (.agg (sysC l)) ∧ Below w.heap.size w w'

theorem below_three {w w1 w2 w3 w4 : World} {k : Nat} (h1 : Below w.heap.size w w1) (hk : w.heap.size ≤ k) (h2 : w1.grownBy w2 (some k)) (h3 : w2.grownBy w3 (some w.heap.size)) : Below w.heap.size w w3 :=
  (h1.grown h2 h1.size (by intro j hj; simp at hj; omega)).grown h3 (by have := h1.size; have := h2.size; omega) (by intro j hj; simp at hj; omega)

set_option maxHeartbeats 1000000 in
theorem systemRanked_any (n r : Nat) (w : World) (hn : n ≤ 6) (hr : r < catN n) : Calls Try.prog 72 #[.int .i64 (n : Int), .int .i64 (r : Int)] w (SysOut w (rankedL n r)) := by
  have h12 : (rankedL n r).length ≤ 12 := by rw [rankedL_length]; omega
  have hbl := SysIn.blank (w.alloc (.cells #[.int .i64 0, .int .i64 0, .int .i64 0, .int .i64 0, .int .i64 0, .int .i64 0, .int .i64 0, .int .i64 0, .int .i64 0, .int .i64 0, .int .i64 0, .int .i64 0, .int .i64 0] 56)) (2 * n) (2 * (n : Int)) (by omega) (by omega)
  have hz : SysIn (w.alloc (.cells #[.int .i64 0, .int .i64 0, .int .i64 0, .int .i64 0, .int .i64 0, .int .i64 0, .int .i64 0, .int .i64 0, .int .i64 0, .int .i64 0, .int .i64 0, .int .i64 0, .int .i64 0] 56)) w.heap.size [] := heap_alloc_new w _
  have hz2 := SysIn.old hz (2 * (n : Int))
  have B := Below.step (Below.alloc1 w (.cells #[.int .i64 0, .int .i64 0, .int .i64 0, .int .i64 0, .int .i64 0, .int .i64 0, .int .i64 0, .int .i64 0, .int .i64 0, .int .i64 0, .int .i64 0, .int .i64 0, .int .i64 0] 56)) (Below.alloc1 _ (.cells #[.int .i64 0, .int .i64 0, .int .i64 0, .int .i64 0, .int .i64 0, .int .i64 0, .int .i64 0, .int .i64 0, .int .i64 0, .int .i64 0, .int .i64 0, .int .i64 0, .int .i64 (2 * (n : Int))] 56))
  rw [World.size_alloc] at hbl
  have HB := Lib.hid hbl; have HZ := Lib.hid hz2; have HR := Lib.hid hr; have HL := Lib.hid h12; have HBB := Lib.hid B
  clear hbl hz hz2 hr h12 B
  go_enter Try.func72, Try.ntmps72
  go_wp2_with (first
    | (go_at_call 100; ((refine (fill_any 7 (w.heap.size + 1) 0 n r (List.replicate (2 * n) 0) _ HB.out (by simp; omega) (by omega) hn (by simp) HR.out).mono ?_); rintro e w1 ⟨rfl, hs1, hg1⟩; have hs1' : SysIn w1 (w.heap.size + 1) (rankedL n r) := hs1; have hz1 := SysIn.grown HZ.out hg1 (by omega)))
    | (with_reducible refine wp_loadSys rfl (.tmp 5) rfl (w.heap.size + 1) (rankedL n r) HL.out rfl hs1' ?_)
    | ((with_reducible refine wp_storeSys rfl (.tmp 4) (.tmp 12) rfl w.heap.size (rankedL n r) [] HL.out (Nat.zero_le _) rfl rfl hz1 ?_); intro w2 hs2 hg2))
  exact bodyPost_ret (results_ranked _ _ w.heap.size (rankedL n r) HL.out hs2 rfl) rfl ⟨rfl, below_three (w4 := w) HBB.out (Nat.le_succ _) hg1 hg2⟩

end Go.Proofs.Ytogjclmmjdhfeac
