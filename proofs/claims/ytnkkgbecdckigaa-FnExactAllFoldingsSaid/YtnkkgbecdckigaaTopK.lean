/- The program's lists of foldings: foldingsOnTop, foldingsOf, and what is told of them. -/
import Derived.Test.YtnkkgbecdckigaaTopMath
import Derived.Test.YtnkkgbecdckigaaSortStk
import Derived.Test.YtnkkgbecdckigaaAddStamp
namespace Go.Proofs.Ytnkkgbecdckigaa
open Go.RowKit
set_option linter.unusedSimpArgs false
set_option linter.unusedVariables false

theorem foldsL_rows {n : Nat} (h1 : 1 ≤ n) (h8 : n ≤ 8) : ∀ r ∈ putAll (topT n), topR n r := fun r hr => topT_rows n h1 h8 r (putAll_mem.1 hr)

def allF (n : Nat) : List (List Int) := allG (fun l k => turnF l k) (putAll (topT n)) n (putAll (topT n)).length
theorem allF_rows {n : Nat} (h1 : 1 ≤ n) (h8 : n ≤ 8) : ∀ r ∈ allF n, r.length = n := by
  intro r hr
  unfold allF allG at hr
  rw [List.take_length, List.mem_flatMap] at hr
  obtain ⟨l, hl, h2⟩ := hr
  unfold rowG at h2
  rw [List.mem_map] at h2
  obtain ⟨k, _, e⟩ := h2
  subst e
  rw [turnF_length]
  exact (foldsL_rows h1 h8 l hl).1
theorem allF_len (n : Nat) : (allF n).length = (topT n).length * n := by
  unfold allF
  rw [allG_full, putAll_length]

theorem one_lit : (Value.agg #[.int .i64 0, .int .i64 0, .int .i64 0, .int .i64 0, .int .i64 0, .int .i64 0, .int .i64 0, .int .i64 0, .int .i64 1]) = .agg (stkC [0]) := by
  rfl
set_option maxHeartbeats 1000000 in
theorem isStampCount_any (n : Int) (w : World) :
    Calls Try.prog 42 #[.int .i64 n] w fun e w' => e = .returned (.bool (inB n 1 8)) ∧ w = w' := by
  go_enter Try.func42, Try.ntmps42
  go_wp2
  all_goals go_ret
  all_goals (simp [inB]; omega)
set_option maxHeartbeats 2000000 in
set_option maxRecDepth 100000 in
theorem foldingsOnTop_any (n : Nat) (h1 : 1 ≤ n) (h8 : n ≤ 8) (w : World) :
    Calls Try.prog 48 #[.int .i64 (n : Int)] w (MadeK w (putAll (topT n))) := by
  have HMW := Lib.hid (fun (m : Nat) (h1 : 1 ≤ m) (h7 : m ≤ 7) B w v ho => madeWith_any (growL m) (topT m) m (by omega) (fun k hk => by rw [(topT_get h1 (by omega) hk).1]; omega) (fun q k hq _ => by unfold growL; rw [insL_length, (topT_get h1 (by omega) hq).1]; omega) (by have := topT_bd (n := m) (by omega); omega)
    (fun q k w hq hk => withNext_any ((topT m).getD q []) (m - k) k w (by rw [(topT_get h1 (by omega) hq).1]; omega) (by omega)) B w v ho)
  have HCF := Lib.hid (fun (m : Nat) (h1 : 1 ≤ m) (h7 : m ≤ 7) B w v ho => chosenFold_any (allG (growL m) (topT m) m (topT m).length) (fun k hk => by
      have hm := mem_get hk
      generalize (allG (growL m) (topT m) m (topT m).length).getD k [] = r at hm ⊢
      unfold allG rowG growL at hm
      rw [List.take_length, List.mem_flatMap] at hm
      obtain ⟨l, hl, h2⟩ := hm
      rw [List.mem_map] at h2
      obtain ⟨i, _, e⟩ := h2
      subst e
      have ht := topT_rows m h1 (by omega) l hl
      exact insL_stack ht.2.1 (by rw [ht.1]; exact h7)) (by have a := allG_len (growL m) (topT m) m (topT m).length; have b := topT_bd (n := m) (by omega); have c : (topT m).length * m ≤ 5040 * 7 := Nat.mul_le_mul b h7; omega) B w v ho)
  have HST := Lib.hid (fun (m : Nat) (h1 : 1 ≤ m) => show (allG (growL m) (topT m) m (topT m).length).filter foldB = topT (m + 1) from (topT_succ h1).symm)
  have HSO := Lib.hid (fun B w v ho hB => sortStk_any B v (topT n) w ho (fun l hl => by rw [(topT_rows n h1 h8 l hl).1]; exact h8) (by have := topT_bd h8; omega) hB)
  have H1 : Hid (topT 1 = [[0]]) := rfl
  have hL0 : ([0] : List Int).length ≤ 8 := by simp
  go_enter Try.func48, Try.ntmps48
  go_wp2_with (with_reducible refine wp_buildK _ rfl (.tmp 5) rfl [0] hL0 one_lit ?_)
  go_loopw [3, 4] (fun o i wr => ∃ m : Nat, 1 ≤ m ∧ m ≤ n ∧ i = .int .i64 m ∧ OwnK w.heap.size wr o (topT m) ∧ Below w.heap.size w wr) (fun _ i _ => n - (intOf i).toNat)
  case atStart => exact ⟨1, by omega, h1, rfl, by rw [H1.out]; exact OwnK.lit1 _ w [0] hL0 (Nat.le_refl _), Below.alloc1 _ _⟩
  case round =>
    obtain ⟨m, hm1, hm, rfl, hown, hbel⟩ := hrel
    generalize wr = wc at *
    have hsz := hbel.size
    by_cases hlt : m < n
    · have HO := Lib.hid hown; have HB := Lib.hid hbel
      have HM2 := Lib.hid (HMW.out m hm1 (by omega)); have HC2 := Lib.hid (HCF.out m hm1 (by omega)); have HS2 := Lib.hid (HST.out m hm1)
      clear hown hbel
      go_wp2_with (first
        | (go_at_call 52; ((refine (HM2.out _ _ _ HO.out).mono ?_); rintro e w3 ⟨v3, rfl, ho3, hb3⟩; have HO3 := Lib.hid ho3; have HB3 := Lib.hid (Below.step HB.out hb3); clear ho3 hb3))
        | (go_at_call 51; ((refine (HC2.out _ _ _ HO3.out).mono ?_); rintro e w4 ⟨v4, rfl, ho4, hb4⟩; rw [HS2.out] at ho4; have HO4 := Lib.hid (ho4.mono HB3.out.size); have HB4 := Lib.hid (Below.step HB3.out hb4); clear ho4 hb4))
        | fail)
      go_roundw
      case rel => exact ⟨m + 1, by omega, by omega, by go_num, HO4.out, HB4.out⟩
      case measure => simp [intOf]; omega
    · obtain rfl : m = n := by omega
      have HO := Lib.hid hown; have HB := Lib.hid hbel
      clear hown hbel
      go_wp2_with (go_at_call 64; ((refine (HSO.out _ _ _ HO.out hsz).mono ?_); rintro e w3 ⟨rfl, ho3, hb3⟩))
      go_ret
      exact ⟨_, rfl, ho3, HB.out.trans hb3⟩
set_option maxHeartbeats 2000000 in
set_option maxRecDepth 100000 in
theorem foldingsOf_any (n : Nat) (h1 : 1 ≤ n) (h8 : n ≤ 8) (w : World) :
    Calls Try.prog 43 #[.int .i64 (n : Int)] w (MadeK w (putAll (allF n))) := by
  have HT := Lib.hid (fun w => foldingsOnTop_any n h1 h8 w)
  have hbd : (putAll (topT n)).length ≤ 5040 := by rw [putAll_length]; exact topT_bd h8
  have HMT := Lib.hid (fun B w v ho => madeTurned_any (fun l k => turnF l k) (putAll (topT n)) n h8 (fun k hk => by rw [(foldsL_rows h1 h8 _ (mem_get hk)).1]; exact h8) (fun q k hq _ => by rw [turnF_length, (foldsL_rows h1 h8 _ (mem_get hq)).1]; exact h8) (by omega)
    (fun q k w hq hk => turned_any ((putAll (topT n)).getD q []) k w (foldsL_rows h1 h8 _ (mem_get hq)).2.1 (by omega) (by omega)) B w v ho)
  have HSO := Lib.hid (fun B w v ho hB => sortStk_any B v (allF n) w ho (fun l hl => by rw [allF_rows h1 h8 l hl]; exact h8) (by rw [allF_len]; have a := topT_bd h8; have : (topT n).length * n ≤ 5040 * 8 := Nat.mul_le_mul a h8; omega) hB)
  have HAF : Hid (allG (fun l k => turnF l k) (putAll (topT n)) n (putAll (topT n)).length = allF n) := rfl
  clear hbd
  go_enter Try.func43, Try.ntmps43
  go_wp2_with (first
    | (go_at_call 48; ((refine (HT.out _).mono ?_); rintro e w2 ⟨v2, rfl, ho2, hb2⟩; have HO2 := Lib.hid ho2; have HB2 := Lib.hid hb2; clear ho2 hb2))
    | (go_at_call 52; ((refine (HMT.out _ _ _ HO2.out).mono ?_); rintro e w3 ⟨v3, rfl, ho3, hb3⟩; rw [HAF.out] at ho3; have HO3 := Lib.hid (ho3.mono HB2.out.size); have HB3 := Lib.hid (Below.step HB2.out hb3); clear ho3 hb3))
    | (go_at_call 64; ((refine (HSO.out _ _ _ HO3.out HB3.out.size).mono ?_); rintro e w4 ⟨rfl, ho4, hb4⟩)))
  go_ret
  exact ⟨_, rfl, ho4, HB3.out.trans hb4⟩

end Go.Proofs.Ytnkkgbecdckigaa
