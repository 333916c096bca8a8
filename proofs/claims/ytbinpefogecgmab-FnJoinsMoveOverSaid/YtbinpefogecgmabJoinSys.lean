/- JoinSystems. -/
import Derived.Test.YtbinpefogecgmabShift
import Derived.Test.YtbinpefogecgmabDraw
namespace Go.Proofs.Ytbinpefogecgmab
open Go.RowKit
set_option linter.unusedSimpArgs false
set_option linter.unusedVariables false

def joinL (a b : List Int) : List Int := a ++ shiftL b (a.length : Int)
def ok_JoinSystems (a b : List Int) : Bool := goodB a && goodB b && decide (a.length + b.length ≤ 12)
def res_JoinSystems (a b : List Int) : List Int := if ok_JoinSystems a b then joinL a b else []
theorem len_JoinSystems (a b : List Int) : (res_JoinSystems a b).length ≤ 1000000 := by
  unfold res_JoinSystems
  split
  · next h => simp [ok_JoinSystems] at h; simp [joinL, shiftL_length]; omega
  · simp

theorem shiftTo_up (a n k : Int) (h0 : 0 ≤ k) (h1 : 0 ≤ a) (h2 : k + a < n) : shiftTo a n k = k + a := by
  unfold shiftTo
  have e1 : (k + a).tmod n = k + a := Int.tmod_eq_of_lt (by omega) h2
  rw [e1, Int.tmod_eq_emod_of_nonneg (by omega), Int.add_emod_right, Int.emod_eq_of_lt (by omega) h2]

theorem join_draw (a b : List Int) (hr : ∀ k, k < b.length → 0 ≤ b.getD k 0 ∧ b.getD k 0 < b.length) : ∀ m, m ≤ b.length →
    drawL (shiftTo (a.length : Int) ((a.length : Int) + (b.length : Int))) (a ++ List.replicate b.length 0) b m = a ++ (shiftL (b.take m) (a.length : Int) ++ List.replicate (b.length - m) 0)
  | 0, _ => by simp [drawL, shiftL]
  | m + 1, h => by
    have h2 := hr m (by omega)
    rw [drawL, join_draw a b hr m (by omega), shiftTo_up _ _ _ (by omega) (by omega) (by omega), shiftTo_up _ _ _ h2.1 (by omega) (by omega), shift_snoc b _ m (by omega)]
    have e : ((m : Int) + (a.length : Int)).toNat = a.length + m := by omega
    have e2 : List.replicate (b.length - m) (0 : Int) = 0 :: List.replicate (b.length - (m + 1)) 0 := by
      rw [show b.length - m = (b.length - (m + 1)) + 1 by omega, List.replicate_succ]
    have hlen : (shiftL (b.take m) (a.length : Int)).length = m := by rw [shiftL_length, List.length_take]; omega
    rw [e, List.set_append_right _ _ (by omega), Nat.add_sub_cancel_left, e2, List.set_append_right _ _ (by omega), hlen, Nat.sub_self, List.set_cons_zero]
    simp

theorem join_drawn (a b : List Int) (hg : goodB b = true) : drawL (shiftTo (a.length : Int) ((a.length : Int) + (b.length : Int))) (a ++ List.replicate b.length 0) b b.length = joinL a b := by
  rw [join_draw a b (fun k hk => ⟨((good_facts hg).2.2.1 k hk).1, ((good_facts hg).2.2.1 k hk).2.1⟩) b.length (Nat.le_refl _)]
  simp [joinL]

theorem SysIn.resize {w : World} {b : Nat} {l : List Int} (h : SysIn w b l) (m : Nat) (x : Int) (hx : x = (m : Int)) (hm : m ≤ 12) (hl : l.length ≤ m) : SysIn (w.setCell ⟨b, 12, none⟩ (.int .i64 x)) b (l ++ List.replicate (m - l.length) 0) := by
  subst hx
  have := heap_setCell_same w b 12 _ _ (.int .i64 (m : Int)) h
  unfold SysIn
  rw [this]
  have e : sysL (l ++ List.replicate (m - l.length) 0) = (sysL l).set 12 (.int .i64 (m : Int)) := by
    unfold sysL
    have e1 : (ints (l ++ List.replicate (12 - l.length) 0)).length = 12 := by rw [ints_length]; simp; omega
    rw [List.set_append_right _ _ (by omega), e1, Nat.sub_self, List.set_cons_zero, List.append_assoc]
    have e2 : (l ++ List.replicate (m - l.length) (0 : Int)).length = m := by simp; omega
    rw [e2, List.replicate_append_replicate, show m - l.length + (12 - m) = 12 - l.length by omega]
  unfold sysC
  rw [e]
  simp

set_option maxHeartbeats 2000000 in
theorem implJoin_fail (A B : List Int) (o1 o2 : Bool) (w : World) (u v : Value) (a b : List Int) (hu : Rd w u a) (hv : Rd w v b) (hA : ∀ w, Rd w u a → Calls Try.prog 82 #[u] w (ReadOut w A o1)) (hB : ∀ w, Rd w v b → Calls Try.prog 82 #[v] w (ReadOut w B o2))
    (hlA : A.length ≤ 12) (hlB : B.length ≤ 12) (hc : o1 = false ∨ o2 = false ∨ 12 < A.length + B.length) :
    Calls Try.prog 71 #[u, v] w (Gives w [] false) := by
  have HU := Lib.hid hu; have HV := Lib.hid hv; have HA := Lib.hid hA; have HB := Lib.hid hB; have LA := Lib.hid hlA; have LB := Lib.hid hlB
  obtain ⟨n, hn⟩ : ∃ n, n = A.length := ⟨_, rfl⟩
  obtain ⟨m, hm⟩ : ∃ m, m = B.length := ⟨_, rfl⟩
  rw [← hn] at hc hlA
  rw [← hm] at hc hlB
  have HN := Lib.hid hn; have HM := Lib.hid hm
  clear hu hv hA hB hn hm
  have key : o1 = false ∨ (o1 = true ∧ o2 = false) ∨ (o1 = true ∧ o2 = true ∧ 12 < n + m) := by
    cases o1 <;> cases o2 <;> simp_all
  clear hc
  rcases key with rfl | ⟨rfl, rfl⟩ | ⟨rfl, rfl, h12⟩
  all_goals
    go_enter Try.func71, Try.ntmps71
    go_wp2_with fail
    refine (HA.out _ HU.out).mono ?_
    rintro e w1 ⟨rfl, hb⟩
    go_wp2_with (first
      | ((with_reducible refine wp_storeNew rfl (.tmp 6) (.tmp 15) rfl _ A LA.out rfl rfl ?_); intro w2 hs2 hb2)
      | (go_at_call 82; ((with_reducible refine (HB.out _ (Rd.below HV.out (Below.step hb hb2))).mono ?_); rintro e w3 ⟨rfl, hb3⟩; have hs3 := SysIn.below hs2 hb3))
      | ((with_reducible refine wp_storeNew rfl (.tmp 8) (.tmp 20) rfl _ B LB.out rfl rfl ?_); intro w4 hs4 hb4; have hs5 := SysIn.below hs3 hb4; have c4 := hs4.size LB.out; have c5 := hs5.size LA.out; rw [← HM.out] at c4; rw [← HN.out] at c5))
    go_ret2
    exact ⟨_, rfl, Own.nil _ _, Below.step (Below.step (Below.step hb hb2) hb3) hb4⟩

theorem join_fits (a b : List Int) : ∀ k : Nat, k < b.length → 0 ≤ shiftTo (a.length : Int) ((a.length : Int) + (b.length : Int)) (k : Int) ∧ shiftTo (a.length : Int) ((a.length : Int) + (b.length : Int)) (k : Int) < (a ++ List.replicate b.length (0 : Int)).length := by
  intro k hk
  have := shiftTo_in (a.length : Int) ((a.length : Int) + (b.length : Int)) (k : Int) (by omega)
  simp only [List.length_append, List.length_replicate]
  omega
theorem join_place (n m : Nat) (h12 : n + m ≤ 12) (h0 : 0 < m) : ∀ (i : Int) (w : World), 0 ≤ i → i < 12 → Calls Try.prog 117 #[.agg #[.int .i64 (n : Int), .int .i64 ((n : Int) + (m : Int))], .int .i64 i] w (IntOut w (shiftTo (n : Int) ((n : Int) + (m : Int)) i)) :=
  fun i w h1 h2 => shift_place (n : Int) ((n : Int) + (m : Int)) i w (by omega) (by omega) (by omega) (by omega) h1 (by omega)

set_option maxHeartbeats 4000000 in
theorem implJoin_run (a b : List Int) (w : World) (u v : Value) (hu : Rd w u a) (hv : Rd w v b) (ga : goodB a = true) (gb : goodB b = true) (h12 : a.length + b.length ≤ 12) :
    Calls Try.prog 71 #[u, v] w (Gives w (joinL a b) true) := by
  have hA := fun w h => readSystem_yes u a w h ga
  have hB := fun w h => readSystem_yes v b w h gb
  have hr : ∀ k, k < b.length → 0 ≤ b.getD k 0 ∧ b.getD k 0 < 12 := fun k hk => ⟨((good_facts gb).2.2.1 k hk).1, by have := ((good_facts gb).2.2.1 k hk).2.1; omega⟩
  have hdr := join_drawn a b gb
  have hfit := join_fits a b
  have HU := Lib.hid hu; have HV := Lib.hid hv; have HA := Lib.hid hA; have HB := Lib.hid hB; have LA : Hid (a.length ≤ 12) := (by show _ ≤ _; omega); have LB : Hid (b.length ≤ 12) := (by show _ ≤ _; omega)
  have LJ : Hid ((joinL a b).length ≤ 12) := by show (joinL a b).length ≤ 12; simp [joinL, shiftL_length]; omega
  have LR : Hid ((a ++ List.replicate b.length (0 : Int)).length ≤ 12) := by show (a ++ List.replicate b.length (0 : Int)).length ≤ 12; simp; omega
  obtain ⟨n, hn⟩ : ∃ n, n = a.length := ⟨_, rfl⟩
  obtain ⟨m, hm⟩ : ∃ m, m = b.length := ⟨_, rfl⟩
  rw [← hn, ← hm] at h12 hdr hfit
  rw [← hm] at LR
  have HN := Lib.hid hn; have HM := Lib.hid hm; have HR := Lib.hid hr; have HD := Lib.hid hdr; have HF := Lib.hid hfit
  clear hu hv hA hB hn hm hr hdr hfit
  go_enter Try.func71, Try.ntmps71
  go_wp2_with fail
  refine (HA.out _ HU.out).mono ?_
  rintro e w1 ⟨rfl, hb⟩
  go_wp2_with (first
    | ((with_reducible refine wp_storeNew rfl (.tmp 6) (.tmp 15) rfl _ a LA.out rfl rfl ?_); intro w2 hs2 hb2)
    | (go_at_call 82; ((with_reducible refine (HB.out _ (Rd.below HV.out (Below.step hb hb2))).mono ?_); rintro e w3 ⟨rfl, hb3⟩; have hs3 := SysIn.below hs2 hb3))
    | ((with_reducible refine wp_storeNew rfl (.tmp 8) (.tmp 20) rfl _ b LB.out rfl rfl ?_); intro w4 hs4 hb4; have hs5 := SysIn.below hs3 hb4; have c4 := hs4.size LB.out; have c5 := hs5.size LA.out; rw [← HM.out] at c4; rw [← HN.out] at c5)
    | (with_reducible refine wp_loadSys rfl (.tmp 6) rfl w1.heap.size a LA.out rfl hs5 ?_)
    | ((with_reducible refine wp_storeNew rfl (.tmp 11) (.tmp 37) rfl _ a LA.out rfl rfl ?_); intro w5 hs6 hb5; have c6 := hs6.size LA.out; rw [← HN.out] at c6; have f6 := hs6.free 12; have hs7 := SysIn.below hs4 hb5; have hs8 := SysIn.below hs5 hb5; have hs9 := SysIn.resize hs6 (n + m) ((n : Int) + (m : Int)) (by omega) h12 (by rw [← HN.out]; omega); rw [← HN.out, Nat.add_sub_cancel_left] at hs9; have hg9 : w5.grownBy (w5.setCell ⟨w4.heap.size, 12, none⟩ (.int .i64 ((n : Int) + (m : Int)))) (some w4.heap.size) := grown_setCell; have hs10 := SysIn.grown hs7 hg9 (by have := hs4.lt; omega); have hs11 := SysIn.grown hs8 hg9 (by have := hs5.lt; omega); have c11 := hs11.size LA.out; rw [← HN.out] at c11)
    | (with_reducible refine wp_loadSys rfl (.tmp 8) rfl w3.heap.size b LB.out rfl hs10 ?_)
    | (go_at_call 116; ((with_reducible refine (draw_shift _ (shiftTo (n : Int) ((n : Int) + (m : Int))) _ _ b _ hs9 LR.out LB.out (fun h0 => join_place n m h12 (by rw [HM.out]; exact h0)) HR.out (by rw [← HM.out]; exact HF.out)).mono ?_); rintro e w6 ⟨rfl, hs12, hg12⟩; rw [← HM.out, HD.out] at hs12))
    | (with_reducible refine wp_loadSys rfl (.tmp 11) rfl w4.heap.size (joinL a b) LJ.out rfl hs12 ?_)
    | (go_at_call 84; refine (list_any _ _ LJ.out).mono ?_; rintro e w7 ⟨r, rfl, hown, hb7⟩))
  go_ret2
  have C4 := Below.step (Below.step (Below.step hb hb2) hb3) hb4
  have C5 := Below.step C4 hb5
  have C6 := C5.grown (grown_trans hg9 hg12) C5.size (by intro k hk; simp at hk; have := C4.size; omega)
  exact ⟨_, rfl, hown.mono C6.size, Below.step C6 hb7⟩

theorem impl_JoinSystems (a b : List Int) (w : World) (u v : Value) (hu : Rd w u a) (hv : Rd w v b) (ma : a.length ≤ 1048576) (mb : b.length ≤ 1048576) :
    Calls Try.prog 71 #[u, v] w (Gives w (res_JoinSystems a b) (ok_JoinSystems a b)) := by
  cases h : ok_JoinSystems a b with
  | true =>
    have e : res_JoinSystems a b = joinL a b := by simp [res_JoinSystems, h]
    rw [e]
    simp only [ok_JoinSystems, Bool.and_eq_true, decide_eq_true_eq] at h
    exact implJoin_run a b w u v hu hv h.1.1 h.1.2 h.2
  | false =>
    have e : res_JoinSystems a b = [] := by simp [res_JoinSystems, h]
    rw [e]
    refine implJoin_fail _ _ (goodB a) (goodB b) w u v a b hu hv (fun w hh => readSystem_any u a w hh) (fun w hh => readSystem_any v b w hh) ?_ ?_ ?_
    · split
      · next h2 => exact good_len' h2
      · simp
    · split
      · next h2 => exact good_len' h2
      · simp
    · cases ga : goodB a
      · exact .inl rfl
      · cases gb : goodB b
        · exact .inr (.inl rfl)
        · refine .inr (.inr ?_)
          simp [ok_JoinSystems, ga, gb] at h
          simpa using h

set_option maxHeartbeats 2000000 in
theorem specJoin_fail (o1 o2 : Bool) (n m : Nat) (x y : Option Addr) (c d : Nat) (w : World) (a b : List Int) (hu : Rd w (.slice x n c) a) (hv : Rd w (.slice y m d) b)
    (hA : ∀ w, Rd w (.slice x n c) a → Calls Try.prog 86 #[.slice x n c] w (Tells w o1)) (hB : ∀ w, Rd w (.slice y m d) b → Calls Try.prog 86 #[.slice y m d] w (Tells w o2))
    (hn : n ≤ 1048576) (hm : m ≤ 1048576) (hc : o1 = false ∨ o2 = false ∨ 12 < n + m) :
    Calls Try.prog 72 #[.slice x n c, .slice y m d] w (Gives w [] false) := by
  have HU := Lib.hid hu; have HV := Lib.hid hv; have HA := Lib.hid hA; have HB := Lib.hid hB
  clear hu hv hA hB
  have key : o1 = false ∨ (o1 = true ∧ o2 = false) ∨ (o1 = true ∧ o2 = true ∧ 12 < n + m) := by
    cases o1 <;> cases o2 <;> simp_all
  clear hc
  rcases key with rfl | ⟨rfl, rfl⟩ | ⟨rfl, rfl, h12⟩
  · go_enter Try.func72, Try.ntmps72
    go_wp2_with fail
    refine (HA.out _ HU.out).mono ?_
    rintro e w1 ⟨rfl, hb⟩
    go_wp2_with fail
    go_ret2
    exact ⟨_, rfl, Own.nil _ _, hb⟩
  all_goals
    go_enter Try.func72, Try.ntmps72
    go_wp2_with fail
    refine (HA.out _ HU.out).mono ?_
    rintro e w1 ⟨rfl, hb⟩
    go_wp2_with fail
    refine (HB.out _ (Rd.below HV.out hb)).mono ?_
    rintro e w2 ⟨rfl, hb2⟩
    go_wp2_with fail
    go_ret2
    exact ⟨_, rfl, Own.nil _ _, Below.step hb hb2⟩

set_option maxHeartbeats 2000000 in
theorem specJoin_run (n m : Nat) (x y : Option Addr) (c d : Nat) (w : World) (a b : List Int) (hu : Rd w (.slice x n c) a) (hv : Rd w (.slice y m d) b) (hna : n = a.length) (hmb : m = b.length) (ga : goodB a = true) (gb : goodB b = true) (h12 : n + m ≤ 12) :
    Calls Try.prog 72 #[.slice x n c, .slice y m d] w (Gives w (joinL a b) true) := by
  have hA := fun w h => ahGood_any (.slice x n c) a w h (by omega)
  have hB := fun w h => ahGood_any (.slice y m d) b w h (by omega)
  rw [ga] at hA; rw [gb] at hB
  have hr : ∀ k, k < b.length → 0 ≤ b.getD k 0 ∧ b.getD k 0 ≤ 100 := fun k hk => ⟨((good_facts gb).2.2.1 k hk).1, by have := ((good_facts gb).2.2.1 k hk).2.1; omega⟩
  have HU := Lib.hid hu; have HV := Lib.hid hv; have HA := Lib.hid hA; have HB := Lib.hid hB; have HN := Lib.hid hna; have HM := Lib.hid hmb; have HR := Lib.hid hr
  have HS : Hid ((shiftL b (n : Int)).length = m) := by show (shiftL b (n : Int)).length = m; rw [shiftL_length, hmb]
  have HJ : Hid (joinL a b = a ++ shiftL b (n : Int)) := by show joinL a b = _; rw [hna]; rfl
  clear hu hv hA hB hna hmb hr
  go_enter Try.func72, Try.ntmps72
  go_wp2_with fail
  refine (HA.out _ HU.out).mono ?_
  rintro e w1 ⟨rfl, hb⟩
  go_wp2_with fail
  refine (HB.out _ (Rd.below HV.out hb)).mono ?_
  rintro e w2 ⟨rfl, hb2⟩
  have C2 := Below.step hb hb2
  go_wp2_with (first
    | (go_at_call 66; ((with_reducible refine (l1Own_any _ a _ (Rd.below HU.out C2) (by rw [← HN.out]; omega)).mono ?_); rintro e w3 ⟨v3, rfl, hown3, hb3⟩; have C3 := Below.step C2 hb3))
    | (go_at_call 120; ((with_reducible refine (ahShift_any _ b (n : Int) _ (Rd.below HV.out C3) (by rw [← HM.out]; omega) HR.out (by omega) (by omega)).mono ?_); rintro e w4 ⟨v4, rfl, hown4, hb4⟩; have C4 := Below.step C3 hb4))
    | (at_builtin; refine wp_append _ rfl _ _ rfl w2.heap.size _ _ a (shiftL b (n : Int)) rfl rfl (Own.below hown3 hb4) (Own.rd hown4) (by rw [HS.out, ← HN.out]; omega) (Nat.le_trans hb3.size hb4.size) ?_; intro v5 w5 hown5 hgr5 hbel5))
  go_ret2
  refine ⟨_, rfl, ?_, C4.trans (hbel5.mono C2.size)⟩
  rw [HJ.out]
  exact hown5.mono C2.size

theorem spec_JoinSystems (a b : List Int) (w : World) (u v : Value) (hu : Rd w u a) (hv : Rd w v b) (ma : a.length ≤ 1048576) (mb : b.length ≤ 1048576) :
    Calls Try.prog 72 #[u, v] w (Gives w (res_JoinSystems a b) (ok_JoinSystems a b)) := by
  have hu0 := hu
  have hv0 := hv
  obtain ⟨x, c, rfl, _⟩ := hu0
  obtain ⟨y, d, rfl, _⟩ := hv0
  cases h : ok_JoinSystems a b with
  | true =>
    have e : res_JoinSystems a b = joinL a b := by simp [res_JoinSystems, h]
    rw [e]
    simp only [ok_JoinSystems, Bool.and_eq_true, decide_eq_true_eq] at h
    exact specJoin_run _ _ x y c d w a b hu hv rfl rfl h.1.1 h.1.2 h.2
  | false =>
    have e : res_JoinSystems a b = [] := by simp [res_JoinSystems, h]
    rw [e]
    refine specJoin_fail (goodB a) (goodB b) _ _ x y c d w a b hu hv (fun w hh => ahGood_any _ a w hh ma) (fun w hh => ahGood_any _ b w hh mb) ma mb ?_
    cases ga : goodB a
    · exact .inl rfl
    · cases gb : goodB b
      · exact .inr (.inl rfl)
      · refine .inr (.inr ?_)
        simp [ok_JoinSystems, ga, gb] at h
        exact h

end Go.Proofs.Ytbinpefogecgmab
