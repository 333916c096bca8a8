/- The program's AddStamp. -/
import Derived.Test.YtnkkgbecdckigaaAdded
import Derived.Test.YtnkkgbecdckigaaSpAdd2
namespace Go.Proofs.Ytnkkgbecdckigaa
open Go.RowKit
set_option linter.unusedSimpArgs false
set_option linter.unusedVariables false

theorem grewK_one (l : List Int) : (grewK l.length [l] 1) = (List.range (l.length + 1)).map fun i => insL l (l.length - i) := by
  simp [grewK, grewRow]
theorem grewK_filter (l : List Int) : (grewK l.length [l] 1).filter foldB = addedL l := by rw [grewK_one]; rfl
theorem grewK_all {l : List Int} (h : stackB l = true) (h7 : l.length ≤ 7) : ∀ k, k < (grewK l.length [l] 1).length → stackB ((grewK l.length [l] 1).getD k []) = true := by
  intro k hk
  rw [show (grewK l.length [l] 1).getD k [] = (grewK l.length [l] 1)[k] by simp [List.getD, hk]]
  have hm := List.getElem_mem hk
  generalize (grewK l.length [l] 1)[k] = r at hm ⊢
  rw [grewK_one, List.mem_map] at hm
  obtain ⟨i, _, e⟩ := hm
  rw [← e]
  exact insL_stack h h7
theorem one_len (l : List Int) : ∀ k, k < [l].length → (([l] : List (List Int)).getD k []).length = l.length := by
  intro k hk
  have : k = 0 := by simpa using hk
  subst this
  rfl
theorem addedL_rows (l : List Int) : ∀ r ∈ addedL l, r.length = l.length + 1 := by rw [← addRev_all]; exact addRev_rows _
theorem addedL_len (l : List Int) : (addedL l).length ≤ l.length + 1 := by rw [← addRev_all]; exact addRev_len l _
theorem addedL_get (l : List Int) : ∀ k, k < (addedL l).length → ((addedL l).getD k []).length = l.length + 1 := by
  intro k hk
  rw [show (addedL l).getD k [] = (addedL l)[k] by simp [List.getD, hk]]
  exact addedL_rows l _ (List.getElem_mem hk)
theorem len_AddStamp (l : List Int) : tot (res_AddStamp l) ≤ 1000000 ∧ ∀ i, i < (res_AddStamp l).length → ((res_AddStamp l).getD i []).length ≤ 1000000 := by
  unfold res_AddStamp ok_AddStamp
  split
  · next h =>
    simp only [Bool.and_eq_true] at h
    have h8 := stack_len h.1.1
    exact len_rows _ (by have := addedL_len l; omega) (fun r hr => by have := addedL_rows l r hr; omega)
  · exact len_rows _ (by simp) (by simp)

set_option maxHeartbeats 1000000 in
theorem impl_AddStamp (l : List Int) (w : World) (u : Value) (h : Rd w u l) (m : l.length ≤ 1048576) : Calls Try.prog 30 #[u] w (GivesLL w (res_AddStamp l) (ok_AddStamp l)) := by
  unfold res_AddStamp ok_AddStamp
  cases hc : stackB l && foldB l with
  | false =>
    rw [Bool.false_and]
    have HC := Lib.hid (readFolding_not u l w h hc)
    clear hc h
    simp only [Bool.false_eq_true, if_false]
    go_enter Try.func30, Try.ntmps30
    go_wp2_with fail
    refine HC.out.mono ?_
    rintro e w1 ⟨rfl, hb⟩
    go_wp2_with ((with_reducible refine wp_storeNewStk rfl (.tmp 4) (.tmp 10) rfl _ [] (Nat.zero_le _) rfl rfl ?_); intro w2 hs2 hb2)
    go_ret2
    have C := Below.step hb hb2
    exact ⟨_, [], rfl, (OwnLL.nil _ _ (Nat.le_refl _)).mono C.size (Nat.le_refl _) (Nat.le_refl _), C⟩
  | true =>
    rw [Bool.and_eq_true] at hc
    rw [Bool.true_and]
    obtain ⟨hg, hf⟩ := hc
    have HC := Lib.hid (readFolding_yes u l w h hg hf)
    have HL := Lib.hid (stack_len hg)
    by_cases h7 : l.length = 8
    · have e : (!decide (l.length = 8)) = false := by simp [h7]
      rw [e]
      have e2 : ((l.length : Int) == 8) = true := by rw [h7]; rfl
      clear e hg h7 hf h
      simp only [Bool.false_eq_true, if_false]
      go_enter Try.func30, Try.ntmps30
      go_wp2_with fail
      refine HC.out.mono ?_
      rintro e w1 ⟨rfl, hb⟩
      go_wp2_with ((with_reducible refine wp_storeNewStk rfl (.tmp 4) (.tmp 10) rfl _ l HL.out rfl rfl ?_); intro w2 hs2 hb2; have hcs := hs2.size HL.out)
      go_ret2
      have C := Below.step hb hb2
      exact ⟨_, [], rfl, (OwnLL.nil _ _ (Nat.le_refl _)).mono C.size (Nat.le_refl _) (Nat.le_refl _), C⟩
    · have e : (!decide (l.length = 8)) = true := by simp [h7]
      rw [e]
      have e2 : ((l.length : Int) == 8) = false := by
        have : ¬ (l.length : Int) = 8 := by omega
        simpa using this
      have h77 : l.length ≤ 7 := by have := HL.out; omega
      have hw1 : IntKind.i64.wrap ((l.length : Int) + 1) = (l.length : Int) + 1 := IntWalk.i64_in _ (by omega)
      have HM := Lib.hid (fun B w v ho => madeNext_any [l] l.length h77 (one_len l) (by simp) B w v ho)
      rw [show (((l.length + 1 : Nat)) : Int) = (l.length : Int) + 1 by omega] at HM
      have HCH := Lib.hid (fun B w v ho => chosenFold_any (grewK l.length [l] 1) (grewK_all hg h77) (by rw [grewK_one]; simp; omega) B w v ho)
      have HLS := Lib.hid (fun B w v ho => listsStk_any (addedL l) (fun k hk => by rw [addedL_get l k hk]; omega) (by have := addedL_len l; omega) B w v ho)
      have HGF := Lib.hid (grewK_filter l)
      clear e hg h7 hf h
      simp only [if_true]
      go_enter Try.func30, Try.ntmps30
      go_wp2_with fail
      refine HC.out.mono ?_
      rintro e w1 ⟨rfl, hb⟩
      have HB := Lib.hid hb; clear hb
      go_wp2_with (first
        | ((with_reducible refine wp_storeNewStk rfl (.tmp 4) (.tmp 10) rfl _ l HL.out rfl rfl ?_); intro w2 hs2 hb2; have hcs := hs2.size HL.out; have HS2 := Lib.hid hs2; have HB2 := Lib.hid (Below.step HB.out hb2); have hcs3 := (HS2.out.below (Below.alloc1 w2 (.cells (stkC l) 42))).size HL.out; clear hs2 hb2)
        | (with_reducible refine wp_loadStk rfl (.tmp 4) rfl w1.heap.size l HL.out rfl HS2.out ?_)
        | (with_reducible refine wp_buildK _ rfl (.tmp 19) rfl l HL.out rfl ?_)
        | (go_at_call 52; ((refine (HM.out _ _ _ (OwnK.lit1 _ w2 l HL.out (Nat.le_refl _))).mono ?_); rintro e w3 ⟨v3, rfl, ho3, hb3⟩; have HO3 := Lib.hid ho3; have HB3 := Lib.hid (Below.step (Below.step HB2.out (Below.alloc1 w2 (.cells (stkC l) 42))) hb3); clear ho3 hb3 hcs hcs3))
        | (go_at_call 51; ((refine (HCH.out _ _ _ HO3.out).mono ?_); rintro e w4 ⟨v4, rfl, ho4, hb4⟩; rw [HGF.out] at ho4; have HO4 := Lib.hid ho4; have HB4 := Lib.hid (Below.step HB3.out hb4); clear ho4 hb4))
        | (go_at_call 47; ((refine (HLS.out _ _ _ HO4.out).mono ?_); rintro e w5 ⟨v5, vs, rfl, ho5, hb5⟩))
        | fail)
      go_ret2
      exact ⟨_, vs, rfl, ho5.mono HB4.out.size (Nat.le_refl _) (Nat.le_refl _), Below.step HB4.out hb5⟩

end Go.Proofs.Ytnkkgbecdckigaa
