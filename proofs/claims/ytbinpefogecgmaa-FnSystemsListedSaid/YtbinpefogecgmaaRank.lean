/- What the program tells as a system's rank. -/
import Derived.Test.YtbinpefogecgmaaFill
import Derived.Test.YtbinpefogecgmaaJoin
namespace Go.Proofs.Ytbinpefogecgmaa
open Go.RowKit
set_option linter.unusedSimpArgs false
set_option linter.unusedVariables false

theorem beforeN_mono (m : Nat) : ∀ i k, k ≤ i → beforeN m k ≤ beforeN m i
  | 0, k, h => by obtain rfl : k = 0 := by omega
                  exact Nat.le_refl _
  | i + 1, k, h => by
    by_cases e : k = i + 1
    · subst e; exact Nat.le_refl _
    · have := beforeN_mono m i k (by omega)
      rw [beforeN]; omega
def RankOut (w : World) (n : Nat) (e : Ending) (w' : World) : Prop := e = .returned (.int .i64 (n : Int)) ∧ Below w.heap.size w w'

theorem sys_cells {w0 w : World} {b : Nat} {l : List Int} (hl : l.length ≤ 12) (h : SysIn w b l) (hb : Below w0.heap.size w0 w) : Hid (SysIn w b l ∧ Below w0.heap.size w0 w) ∧ w.cell? ⟨b, 0, none⟩ = some (sysV l 0) ∧ w.cell? ⟨b, 1, none⟩ = some (sysV l 1) ∧ w.cell? ⟨b, 2, none⟩ = some (sysV l 2) ∧ w.cell? ⟨b, 3, none⟩ = some (sysV l 3) ∧ w.cell? ⟨b, 4, none⟩ = some (sysV l 4) ∧ w.cell? ⟨b, 5, none⟩ = some (sysV l 5) ∧ w.cell? ⟨b, 6, none⟩ = some (sysV l 6) ∧ w.cell? ⟨b, 7, none⟩ = some (sysV l 7) ∧ w.cell? ⟨b, 8, none⟩ = some (sysV l 8) ∧ w.cell? ⟨b, 9, none⟩ = some (sysV l 9) ∧ w.cell? ⟨b, 10, none⟩ = some (sysV l 10) ∧ w.cell? ⟨b, 11, none⟩ = some (sysV l 11) ∧ w.cell? ⟨b, 12, none⟩ = some (sysV l 12) :=
  ⟨⟨h, hb⟩, sys_cell hl h 0 (by omega), sys_cell hl h 1 (by omega), sys_cell hl h 2 (by omega), sys_cell hl h 3 (by omega), sys_cell hl h 4 (by omega), sys_cell hl h 5 (by omega), sys_cell hl h 6 (by omega), sys_cell hl h 7 (by omega), sys_cell hl h 8 (by omega), sys_cell hl h 9 (by omega), sys_cell hl h 10 (by omega), sys_cell hl h 11 (by omega), sys_cell hl h 12 (by omega)⟩
theorem rank_out {w0 w1 : World} {b : Nat} {l : List Int} (h : Hid (SysIn w1 b l ∧ Below w0.heap.size w0 w1) ∧ w1.cell? ⟨b, 0, none⟩ = some (sysV l 0) ∧ w1.cell? ⟨b, 1, none⟩ = some (sysV l 1) ∧ w1.cell? ⟨b, 2, none⟩ = some (sysV l 2) ∧ w1.cell? ⟨b, 3, none⟩ = some (sysV l 3) ∧ w1.cell? ⟨b, 4, none⟩ = some (sysV l 4) ∧ w1.cell? ⟨b, 5, none⟩ = some (sysV l 5) ∧ w1.cell? ⟨b, 6, none⟩ = some (sysV l 6) ∧ w1.cell? ⟨b, 7, none⟩ = some (sysV l 7) ∧ w1.cell? ⟨b, 8, none⟩ = some (sysV l 8) ∧ w1.cell? ⟨b, 9, none⟩ = some (sysV l 9) ∧ w1.cell? ⟨b, 10, none⟩ = some (sysV l 10) ∧ w1.cell? ⟨b, 11, none⟩ = some (sysV l 11) ∧ w1.cell? ⟨b, 12, none⟩ = some (sysV l 12)) : Below w0.heap.size w0 w1 := h.1.out.2
theorem rank_keep {w0 w1 w2 : World} {b : Nat} {l : List Int} (hl : l.length ≤ 12) (h : Hid (SysIn w1 b l ∧ Below w0.heap.size w0 w1) ∧ w1.cell? ⟨b, 0, none⟩ = some (sysV l 0) ∧ w1.cell? ⟨b, 1, none⟩ = some (sysV l 1) ∧ w1.cell? ⟨b, 2, none⟩ = some (sysV l 2) ∧ w1.cell? ⟨b, 3, none⟩ = some (sysV l 3) ∧ w1.cell? ⟨b, 4, none⟩ = some (sysV l 4) ∧ w1.cell? ⟨b, 5, none⟩ = some (sysV l 5) ∧ w1.cell? ⟨b, 6, none⟩ = some (sysV l 6) ∧ w1.cell? ⟨b, 7, none⟩ = some (sysV l 7) ∧ w1.cell? ⟨b, 8, none⟩ = some (sysV l 8) ∧ w1.cell? ⟨b, 9, none⟩ = some (sysV l 9) ∧ w1.cell? ⟨b, 10, none⟩ = some (sysV l 10) ∧ w1.cell? ⟨b, 11, none⟩ = some (sysV l 11) ∧ w1.cell? ⟨b, 12, none⟩ = some (sysV l 12)) (hb : Below w1.heap.size w1 w2) :
    Hid (SysIn w2 b l ∧ Below w0.heap.size w0 w2) ∧ w2.cell? ⟨b, 0, none⟩ = some (sysV l 0) ∧ w2.cell? ⟨b, 1, none⟩ = some (sysV l 1) ∧ w2.cell? ⟨b, 2, none⟩ = some (sysV l 2) ∧ w2.cell? ⟨b, 3, none⟩ = some (sysV l 3) ∧ w2.cell? ⟨b, 4, none⟩ = some (sysV l 4) ∧ w2.cell? ⟨b, 5, none⟩ = some (sysV l 5) ∧ w2.cell? ⟨b, 6, none⟩ = some (sysV l 6) ∧ w2.cell? ⟨b, 7, none⟩ = some (sysV l 7) ∧ w2.cell? ⟨b, 8, none⟩ = some (sysV l 8) ∧ w2.cell? ⟨b, 9, none⟩ = some (sysV l 9) ∧ w2.cell? ⟨b, 10, none⟩ = some (sysV l 10) ∧ w2.cell? ⟨b, 11, none⟩ = some (sysV l 11) ∧ w2.cell? ⟨b, 12, none⟩ = some (sysV l 12) :=
  sys_cells hl (h.1.out.1.below hb) (Below.step h.1.out.2 hb)

set_option maxHeartbeats 4000000 in
theorem rank_any : ∀ (f a m : Nat) (l : List Int) (w : World), l.length ≤ 12 → rankOk f l a m = true → a ≤ 12 → m ≤ 6 →
    Calls Try.prog 91 #[.agg (sysC l), .int .i64 (a : Int), .int .i64 (m : Int)] w (RankOut w (rankN f l a m)) := by
  intro f
  induction f with
  | zero =>
    intro a m l w hl hok ha hm
    obtain rfl : m = 0 := by simpa [rankOk] using hok
    clear hok
    go_enter Try.func91, Try.ntmps91
    go_wp2_with fail
    go_ret
    exact ⟨rfl, Below.alloc1 _ _⟩
  | succ f ih =>
    intro a m l w hl hok ha hm
    by_cases h0 : m = 0
    · subst h0
      clear hok ih
      go_enter Try.func91, Try.ntmps91
      go_wp2_with fail
      go_ret
      exact ⟨by rw [rankN, if_pos rfl]; rfl, Below.alloc1 _ _⟩
    · have hm0 : ((m : Int) == 0) = false := by simp; omega
      simp only [rankOk, Bool.or_eq_true, beq_iff_eq, h0, false_or, Bool.and_eq_true, decide_eq_true_eq] at hok
      obtain ⟨⟨⟨⟨⟨⟨⟨⟨⟨k1, k2⟩, k3⟩, k4⟩, k5⟩, k6⟩, k7⟩, k8⟩, k9⟩, k10⟩ := hok
      have hrk : rankN (f + 1) l a m = beforeN m ((endN l a - a) / 2) + rankN f l (a + 1) ((endN l a - a) / 2) * catN (m - 1 - (endN l a - a) / 2) + rankN f l (endN l a + 1) (m - 1 - (endN l a - a) / 2) := by rw [rankN, if_neg h0]
      have hc := sysC_get hl a (by omega)
      have he : l.getD a 0 = (endN l a : Int) := by unfold endN; omega
      rw [he] at hc
      clear he k5
      generalize endN l a = e at *
      obtain ⟨i, hi⟩ : ∃ i, i = (e - a) / 2 := ⟨_, rfl⟩
      obtain ⟨q, hq⟩ : ∃ q, q = m - 1 - i := ⟨_, rfl⟩
      rw [← hi] at k6 k7 k8 k9 k10 hrk
      rw [← hq] at k7 k10 hrk
      have him : i + q + 1 = m := by omega
      have hin : ((e : Int) - (a : Int)) / 2 = (i : Int) := by omega
      have hbh : (m : Int) - 1 - (i : Int) = (q : Int) := by omega
      have ih1 := fun w => ih (a + 1) i l w hl k6 (by omega) (by omega)
      have ih2 := fun w => ih (e + 1) q l w hl k7 (by omega) (by omega)
      have hcat := fun w => catalan_N q (by omega) w
      have bc := catN_bd q (by omega)
      generalize rankN f l (a + 1) i = x at *
      generalize rankN f l (e + 1) q = y at *
      generalize catN q = c at *
      have hbf : Hid (∀ k, k ≤ i → beforeN m k ≤ 132) := fun k hk => Nat.le_trans (beforeN_mono m i k hk) k8
      have HRK := Lib.hid hrk; have HI1 := Lib.hid ih1; have HI2 := Lib.hid ih2; have HCT := Lib.hid hcat; have HL := Lib.hid hl
      have hxc : x * c ≤ 132 * 132 := Nat.mul_le_mul k9 bc.2
      have b1 := bc.1; have b2 := bc.2
      have hbox : SysIn (w.alloc (.cells (sysC l) 76)) w.heap.size l := heap_alloc_new w _
      have HLIT := Lib.hid (sysC_lit hl)
      have HBX : Hid (SysIn (w.alloc (.cells (sysC l) 76)).drew w.heap.size l) := hbox
      have HIN := Lib.hid hin; have HBH := Lib.hid hbh; have HXC := Lib.hid hxc
      have hae : a < e := k1
      have ha12 : a < 12 := by omega
      have hae2 : e < 24 := by omega
      clear hrk ih ih1 ih2 hcat hl hxc bc hi hq k4 k6 k7 hbox hin hbh
      go_enter Try.func91, Try.ntmps91
      go_wp2_with fail
      rw [HIN.out]
      rw [HBH.out]
      go_loop [10, 27] (fun bfr kk => ∃ k z : Nat, k ≤ i ∧ z ≤ 132 ∧ kk = .int .i64 (k : Int) ∧ bfr = .int .i64 (z : Int) ∧ Hid (z = beforeN m k)) (fun _ kk => i - (intOf kk).toNat)
      case atStart => exact ⟨0, 0, by omega, by omega, rfl, rfl, rfl⟩
      case round =>
        obtain ⟨k, z, hk, hz, rfl, rfl, HZ⟩ := hrel
        by_cases hlt : k < i
        · have hc1 := fun w => catalan_N k (by omega) w
          have hc2 := fun w => catalan_N (m - 1 - k) (by omega) w
          have d1 := catN_bd k (by omega)
          have d2 := catN_bd (m - 1 - k) (by omega)
          have hbs : beforeN m (k + 1) = beforeN m k + catN k * catN (m - 1 - k) := rfl
          have hb2 := hbf.out (k + 1) (by omega)
          rw [hbs, ← HZ.out] at hb2
          rw [← HZ.out] at hbs
          have hE : (m : Int) - 1 - (k : Int) = ((m - 1 - k : Nat) : Int) := by omega
          have HE := Lib.hid hE
          generalize catN k = p1 at *
          generalize catN (m - 1 - k) = p2 at *
          have hpc : ((p1 * p2 : Nat) : Int) = (p1 : Int) * (p2 : Int) := by simp
          have hp0 : (0 : Int) ≤ (p1 : Int) * (p2 : Int) := by omega
          have hp1 : (p1 : Int) * (p2 : Int) ≤ 132 := by omega
          have HS : Hid ((z : Int) + (p1 : Int) * (p2 : Int) = ((z + p1 * p2 : Nat) : Int)) := by show _ = _; omega
          have HB2 := Lib.hid hb2; have HBS := Lib.hid hbs
          have d11 := d1.1; have d12 := d1.2; have d21 := d2.1; have d22 := d2.2
          have HC1 := Lib.hid hc1; have HC2 := Lib.hid hc2
          clear hpc hE hb2 hbs d1 d2 hc1 hc2
          go_wp2_with (first
            | (go_at_call 78; ((with_reducible refine (HC1.out _).mono ?_); rintro e' w' ⟨rfl, rfl⟩))
            | (go_at_call 78; rw [HE.out]; ((with_reducible refine (HC2.out _).mono ?_); rintro e' w' ⟨rfl, rfl⟩)))
          go_round
          case rel => exact ⟨k + 1, z + p1 * p2, by omega, HB2.out, by go_num, by rw [HS.out], HBS.out.symm⟩
          case measure => simp [intOf]; omega
        · obtain rfl : k = i := by omega
          obtain rfl : z = beforeN m k := HZ.out
          have hbk := hbf.out k (Nat.le_refl _)
          generalize beforeN m k = bf at *
          clear hbf HZ
          go_wp2_with fail
          have hxc2 : (x : Int) * (c : Int) ≤ 17424 := by have := HXC.out; have e : ((x * c : Nat) : Int) = (x : Int) * (c : Int) := by simp
                                                          omega
          have hxc3 : 0 ≤ (x : Int) * (c : Int) := Int.mul_nonneg (by omega) (by omega)
          have s1 : IntKind.i64.wrap ((x : Int) * (c : Int)) = (x : Int) * (c : Int) := IntWalk.i64_in _ (by omega)
          have s2 : IntKind.i64.wrap ((bf : Int) + (x : Int) * (c : Int)) = (bf : Int) + (x : Int) * (c : Int) := IntWalk.i64_in _ (by omega)
          have s3 : IntKind.i64.wrap ((bf : Int) + (x : Int) * (c : Int) + (y : Int)) = (bf : Int) + (x : Int) * (c : Int) + (y : Int) := IntWalk.i64_in _ (by omega)
          have s4 : IntKind.i64.wrap ((a : Int) + 1) = (a : Int) + 1 := IntWalk.i64_in _ (by omega)
          have s5 : IntKind.i64.wrap ((e : Int) + 1) = (e : Int) + 1 := IntWalk.i64_in _ (by omega)
          have HA1 : Hid ((a : Int) + 1 = ((a + 1 : Nat) : Int)) := by show (a : Int) + 1 = ((a + 1 : Nat) : Int); omega
          have HE1 : Hid ((e : Int) + 1 = ((e + 1 : Nat) : Int)) := by show (e : Int) + 1 = ((e + 1 : Nat) : Int); omega
          go_region_held3 (fun w' => Hid (SysIn w' w.heap.size l ∧ Below w.heap.size w w') ∧ w'.cell? ⟨w.heap.size, 0, none⟩ = some (sysV l 0) ∧ w'.cell? ⟨w.heap.size, 1, none⟩ = some (sysV l 1) ∧ w'.cell? ⟨w.heap.size, 2, none⟩ = some (sysV l 2) ∧ w'.cell? ⟨w.heap.size, 3, none⟩ = some (sysV l 3) ∧ w'.cell? ⟨w.heap.size, 4, none⟩ = some (sysV l 4) ∧ w'.cell? ⟨w.heap.size, 5, none⟩ = some (sysV l 5) ∧ w'.cell? ⟨w.heap.size, 6, none⟩ = some (sysV l 6) ∧ w'.cell? ⟨w.heap.size, 7, none⟩ = some (sysV l 7) ∧ w'.cell? ⟨w.heap.size, 8, none⟩ = some (sysV l 8) ∧ w'.cell? ⟨w.heap.size, 9, none⟩ = some (sysV l 9) ∧ w'.cell? ⟨w.heap.size, 10, none⟩ = some (sysV l 10) ∧ w'.cell? ⟨w.heap.size, 11, none⟩ = some (sysV l 11) ∧ w'.cell? ⟨w.heap.size, 12, none⟩ = some (sysV l 12))
            (first | assumption | exact sys_cells HL.out HBX.out (Below.drew (Below.alloc1 _ _)) | exact rank_keep HL.out (by assumption) (by assumption))
            (first
              | (go_at_call 91; (try rw [← HLIT.out]); rw [HA1.out]; ((with_reducible refine (HI1.out _).mono ?_); rintro e' w' ⟨rfl, hb'⟩))
              | (go_at_call 91; (try rw [← HLIT.out]); rw [HE1.out]; ((with_reducible refine (HI2.out _).mono ?_); rintro e' w' ⟨rfl, hb'⟩))
              | (go_at_call 78; ((with_reducible refine (HCT.out _).mono ?_); rintro e' w' ⟨rfl, rfl⟩)))
          have hB : Below w.heap.size w w' := rank_out (b := w.heap.size) (l := l) (by assumption)
          have HBB := Lib.hid hB; clear hB
          go_wp2
          go_ret
          exact ⟨by rw [HRK.out]; simp, HBB.out⟩

end Go.Proofs.Ytbinpefogecgmaa
