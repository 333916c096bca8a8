/- SignOf: the program's function and the model's. -/
import Derived.Test.YtogjclmmjdhfeacRead
import Derived.Test.YtogjclmmjdhfeacOwn
import Derived.Test.YtogjclmmjdhfeacGood
namespace Go.Proofs.Ytogjclmmjdhfeac
open Go.RowKit
set_option linter.unusedSimpArgs false
set_option linter.unusedVariables false

def sgI (l : List Int) (j : Nat) (s : Int) : Nat → Int
  | 0 => s
  | m + 1 => if l.getD j 0 < l.getD (2 * m) 0 then -(sgI l j s m) else sgI l j s m
def sgO (l : List Int) : Nat → Int
  | 0 => 1
  | t + 1 => sgI l (2 * t) (sgO l t) t
def ok_SignOf (l : List Int) : Bool := goodB l
def res_SignOf (l : List Int) : Int := if goodB l then sgO l (l.length / 2) else 0

set_option maxHeartbeats 2000000 in
theorem impl_SignOf (l : List Int) (w : World) (u : Value) (h : Rd w u l) (m : l.length ≤ 1048576) : Calls Try.prog 33 #[u] w (GivesN w (res_SignOf l) (ok_SignOf l)) := by
  unfold res_SignOf ok_SignOf
  cases hg : goodB l with
  | false =>
    have HG := Lib.hid hg; clear hg
    go_enter Try.func33, Try.ntmps33
    go_wp2_with fail
    refine (readSystem_no u l _ h HG.out).mono ?_
    rintro e w1 ⟨rfl, hb⟩
    go_wp2_with ((with_reducible refine wp_storeNew rfl (.tmp 4) (.tmp 12) rfl _ [] (Nat.zero_le _) rfl rfl ?_); intro w2 hs2 hb2)
    go_ret2
    exact ⟨rfl, Below.step hb hb2⟩
  | true =>
    have hl := good_len' hg
    have hev := (good_facts hg).1
    have HL := Lib.hid hl; have HG := Lib.hid hg
    obtain ⟨n, hn⟩ : ∃ n, n = l.length := ⟨_, rfl⟩
    have HN := Lib.hid hn
    rw [← hn] at hl hev ⊢
    simp only [if_true]
    clear hg hn
    go_enter Try.func33, Try.ntmps33
    go_wp2_with fail
    refine (readSystem_yes u l _ h HG.out).mono ?_
    rintro e w1 ⟨rfl, hb⟩
    go_wp2_with ((with_reducible refine wp_storeNew rfl (.tmp 4) (.tmp 12) rfl _ l HL.out rfl rfl ?_); intro w2 hs2 hb2; have HB2 := Lib.hid (Below.step hb hb2); have HS2 := Lib.hid hs2; clear hs2 hb2)
    go_loopw [6, 7] (fun sg i wr => ∃ (t : Nat) (s : Int), 2 * t ≤ n ∧ i = .int .i64 (2 * (t : Int)) ∧ sg = .int .i64 s ∧ -1 ≤ s ∧ s ≤ 1 ∧ Hid (s = sgO l t) ∧ SysIn wr w1.heap.size l ∧ Below w.heap.size w wr) (fun _ i _ => n - (intOf i).toNat)
    case atStart => exact ⟨0, 1, by omega, rfl, rfl, by omega, by omega, rfl, HS2.out, HB2.out⟩
    case round =>
      obtain ⟨t, s, ht, rfl, rfl, hs1, hs2, HS, hsy, hbel⟩ := hrel
      clear HS2 HB2
      generalize wr = wa at *
      have hsz := hsy.size HL.out
      rw [← HN.out] at hsz
      have HSY := Lib.hid hsy; have HBE := Lib.hid hbel
      clear hsy hbel
      by_cases hlt : 2 * t < n
      · have HNX : Hid (sgO l (t + 1) = sgI l (2 * t) (sgO l t) t) := rfl
        rw [← HS.out] at HNX
        have hdt : decide (2 * (t : Int) < (n : Int)) = true := decide_eq_true (by omega)
        go_wp2
        clear hsz
        go_loopw [6, 8] (fun sg i wr => ∃ (m : Nat) (s' : Int), m ≤ t ∧ i = .int .i64 (2 * (m : Int)) ∧ sg = .int .i64 s' ∧ -1 ≤ s' ∧ s' ≤ 1 ∧ Hid (s' = sgI l (2 * t) s m) ∧ SysIn wr w1.heap.size l ∧ Below w.heap.size w wr) (fun _ i _ => 2 * t - (intOf i).toNat)
        case atStart => exact ⟨0, s, by omega, rfl, rfl, hs1, hs2, rfl, HSY.out, HBE.out⟩
        case round =>
          obtain ⟨m, s', hm, rfl, rfl, hs1', hs2', HI, hsm, hbm⟩ := hrel
          clear HSY HBE hs1 hs2 HS
          generalize wr = wb at *
          by_cases hmt : m < t
          · have c1 := hsm.cell HL.out (2 * m) (by omega)
            have c2 := hsm.cell HL.out (2 * t) (by omega)
            have hnx : sgI l (2 * t) s (m + 1) = if l.getD (2 * t) 0 < l.getD (2 * m) 0 then -(sgI l (2 * t) s m) else sgI l (2 * t) s m := rfl
            rw [← HI.out] at hnx
            have hmn : 2 * m < 12 := by omega
            have htn : 2 * t < 12 := by omega
            generalize l.getD (2 * t) 0 = x at c2 hnx
            generalize l.getD (2 * m) 0 = y at c1 hnx
            have HB := Lib.hid hbm; have HS := Lib.hid hsm
            clear hbm hsm
            by_cases hxy : x < y
            · rw [if_pos hxy] at hnx
              have HX := Lib.hid hnx; clear hnx
              go_wp2
              go_quiet (fail)
              go_wp2
              go_roundw
              case rel => exact ⟨m + 1, -s', by omega, by go_num, rfl, by omega, by omega, HX.out.symm, HS.out, Below.drewN HB.out _⟩
              case measure => simp [intOf]; omega
            · rw [if_neg hxy] at hnx
              have hd : decide (x < y) = false := decide_eq_false hxy
              have HX := Lib.hid hnx; clear hnx
              go_wp2
              go_quiet (fail)
              go_wp2
              go_roundw
              case rel => exact ⟨m + 1, s', by omega, by go_num, rfl, by omega, by omega, HX.out.symm, HS.out, Below.drewN HB.out _⟩
              case measure => simp [intOf]; omega
          · obtain rfl : m = t := by omega
            have HB := Lib.hid hbm; have HS := Lib.hid hsm
            clear hbm hsm
            go_wp2
            go_roundw
            case rel => exact ⟨m + 1, s', by omega, by go_num, rfl, by omega, by omega, by rw [HNX.out]; exact HI.out, HS.out, HB.out⟩
            case measure => simp [intOf]; omega
      · have htn : t = n / 2 := by omega
        have hnn : ¬ (2 * (t : Int) < (n : Int)) := by omega
        go_wp2
        go_ret2
        exact ⟨by rw [← htn, ← HS.out]; rfl, HBE.out⟩

end Go.Proofs.Ytogjclmmjdhfeac
