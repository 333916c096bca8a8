/- JoinedSystem in the program and in the model. -/
import Derived.Test.YtbinpefogecgmabPoints
import Derived.Test.YtbinpefogecgmabJoin
import Derived.Test.YtbinpefogecgmabShift
import Derived.Test.YtbinpefogecgmabOwn
import Derived.Test.YtbinpefogecgmabEnum
import Derived.IntWalk
import Derived.OwnWalk
import Derived.RegionTactic
import Derived.Deep.RegionWith
import Derived.Deep.QuietTactic
import Derived.BigQuiet
namespace Go.Proofs.Ytbinpefogecgmab
open Go.RowKit
set_option linter.unusedSimpArgs false
set_option linter.unusedVariables false

def GivesJ (w : World) (l : List Int) (k : Int) (ok : Bool) (e : Ending) (w' : World) : Prop := ∃ v, e = .returned (.tuple #[v, .int .i64 k, .bool ok]) ∧ Own w.heap.size w' v l ∧ Below w.heap.size w w'
/-- as the model joins, and as the program does -/
def joinedM (l : List Int) (i : Nat) : List Int := (((l.set i ((i : Int) + 1)).set (i + 1) (i : Int)).set (l.getD i 0).toNat (l.getD (i + 1) 0)).set (l.getD (i + 1) 0).toNat (l.getD i 0)
def joinedP (l : List Int) (i : Nat) : List Int := (((l.set (l.getD i 0).toNat (l.getD (i + 1) 0)).set (l.getD (i + 1) 0).toNat (l.getD i 0)).set i ((i : Int) + 1)).set (i + 1) (i : Int)
def jndCheck (l : List Int) : Bool := allFrom (fun i => decide (i + 1 < l.length → joinedP l i = joinedM l i)) 0 12
theorem jndCheck0 : (sysAll 0).all jndCheck = true := by kernel_rfl
theorem jndCheck1 : (sysAll 1).all jndCheck = true := by kernel_rfl
theorem jndCheck2 : (sysAll 2).all jndCheck = true := by kernel_rfl
theorem jndCheck3 : (sysAll 3).all jndCheck = true := by kernel_rfl
theorem jndCheck4 : (sysAll 4).all jndCheck = true := by kernel_rfl
theorem jndCheck5 : (sysAll 5).all jndCheck = true := by kernel_rfl
theorem jndCheck6 : (sysAll 6).all jndCheck = true := by kernel_rfl
theorem joined_eq {l : List Int} (hg : goodB l = true) {i : Nat} (hi : i + 1 < l.length) : joinedP l i = joinedM l i := by
  have h := good_all6 jndCheck0 jndCheck1 jndCheck2 jndCheck3 jndCheck4 jndCheck5 jndCheck6 hg
  have := (allFrom_iff _ _ _).1 h i (by omega) (by have := (good_facts hg).2.1; omega)
  exact (of_decide_eq_true this) hi

def ok_JoinedSystem (l : List Int) (i : Int) : Bool := goodB l && inB i 0 ((l.length : Int) - 2)
def res_JoinedSystem (l : List Int) (i : Int) : List Int := if ok_JoinedSystem l i then (if isSmallB l i then l else joinedM l i.toNat) else []
def res2_JoinedSystem (l : List Int) (i : Int) : Int := if ok_JoinedSystem l i then (if isSmallB l i then 1 else 0) else 0
theorem joinedM_length (l : List Int) (i : Nat) : (joinedM l i).length = l.length := by simp [joinedM]
theorem len_JoinedSystem (l : List Int) (i : Int) : (res_JoinedSystem l i).length ≤ 1000000 := by
  unfold res_JoinedSystem ok_JoinedSystem
  cases hg : goodB l with
  | false => simp
  | true =>
    have := (good_facts hg).2.1
    split
    · split
      · omega
      · rw [joinedM_length]; omega
    · simp
theorem joined_no {l : List Int} {i : Int} (h : ok_JoinedSystem l i = false) : res_JoinedSystem l i = [] ∧ res2_JoinedSystem l i = 0 := by simp [res_JoinedSystem, res2_JoinedSystem, h]

theorem own_at {B : Nat} {w : World} {v : Value} {l : List Int} (h : Own B w v l) (h0 : 0 < l.length) : ∃ g c, v = .slice (some ⟨g, 0, none⟩) l.length c := by
  rcases h.shape with ⟨_, h2⟩ | ⟨g, c, h1, _⟩
  · rw [h2] at h0; simp at h0
  · exact ⟨g, c, h1⟩

set_option maxHeartbeats 2000000 in
theorem impl_JoinedSystem (l : List Int) (i : Int) (w : World) (u : Value) (h : Rd w u l) (m : l.length ≤ 1048576) : Calls Try.prog 27 #[u, .int .i64 i] w (GivesJ w (res_JoinedSystem l i) (res2_JoinedSystem l i) (ok_JoinedSystem l i)) := by
  cases hg : goodB l with
  | false =>
    have e : ok_JoinedSystem l i = false := by unfold ok_JoinedSystem; rw [hg]; rfl
    rw [(joined_no e).1, (joined_no e).2, e]
    have hrd := readSystem_no u l w h hg
    have HRD := Lib.hid hrd
    clear hrd e hg h m
    go_enter Try.func27, Try.ntmps27
    go_wp2_with (first
      | (go_at_call 82; ((with_reducible refine HRD.out.mono ?_); rintro e w1 ⟨rfl, hb⟩))
      | ((with_reducible refine wp_storeNew rfl (.tmp 7) (.tmp 12) rfl _ [] (Nat.zero_le _) rfl rfl ?_); intro w2 hs2 hb2))
    go_ret3
    exact ⟨_, rfl, Own.nil _ _, Below.step hb hb2⟩
  | true =>
    have hl := (good_facts hg).2.1
    have hrd := readSystem_yes u l w h hg
    by_cases hi : 0 ≤ i ∧ i < (l.length : Int) - 1
    · obtain ⟨q, rfl⟩ := Int.eq_ofNat_of_zero_le hi.1
      have e : ok_JoinedSystem l (q : Int) = true := by unfold ok_JoinedSystem; rw [hg, inB_yes hi.1 (by omega)]; rfl
      have hq : q + 1 < l.length := by omega
      have hsm := fun w => isSmall_any l (q : Int) w hl (by omega) (by omega)
      cases hs : isSmallB l (q : Int) with
      | true =>
        have er : res_JoinedSystem l (q : Int) = l := by unfold res_JoinedSystem; rw [e, hs]; rfl
        have er2 : res2_JoinedSystem l (q : Int) = 1 := by unfold res2_JoinedSystem; rw [e, hs]; rfl
        rw [er, er2, e]
        rw [hs] at hsm
        have HRD := Lib.hid hrd; have HSM := Lib.hid hsm; have HL := Lib.hid hl
        obtain ⟨n, hn⟩ : ∃ n, n = l.length := ⟨_, rfl⟩
        have HN := Lib.hid hn
        rw [← hn] at hq hl hi
        clear hrd e er er2 hg h m hsm hs hn
        go_enter Try.func27, Try.ntmps27
        go_wp2_with (first
          | (go_at_call 82; ((with_reducible refine HRD.out.mono ?_); rintro e w1 ⟨rfl, hb⟩))
          | ((with_reducible refine wp_storeNew rfl (.tmp 7) (.tmp 12) rfl _ l HL.out rfl rfl ?_); intro w2 hs2 hb2; have hcs := hs2.size HL.out; rw [← HN.out] at hcs; have HS2 := Lib.hid hs2; have C2 := Lib.hid (Below.step hb hb2); clear hs2 hb hb2)
          | (with_reducible refine wp_loadSys rfl (.tmp 7) rfl w1.heap.size l HL.out rfl HS2.out ?_)
          | (go_at_call 83; ((with_reducible refine (HSM.out _).mono ?_); rintro e w3 ⟨rfl, hb3⟩; have HS3 := Lib.hid (HS2.out.below hb3); have C3 := Lib.hid (Below.step C2.out hb3); clear hb3))
          | (with_reducible refine wp_loadSys rfl (.tmp 7) rfl w1.heap.size l HL.out rfl HS3.out ?_)
          | (go_at_call 84; ((with_reducible refine (list_any l _ HL.out).mono ?_); rintro e w4 ⟨v4, rfl, ho4, hb4⟩; obtain ⟨f1, f2, f3, rfl⟩ := ho4.form')))
        go_ret3
        exact ⟨_, rfl, ho4.mono C3.out.size, Below.step C3.out hb4⟩
      | false =>
        have er : res_JoinedSystem l (q : Int) = joinedP l q := by unfold res_JoinedSystem; rw [e, hs, joined_eq hg hq]; rfl
        have er2 : res2_JoinedSystem l (q : Int) = 0 := by unfold res2_JoinedSystem; rw [e, hs]; rfl
        rw [er, er2, e]
        rw [hs] at hsm
        have r1 := (good_facts hg).2.2.1 q (by omega)
        have r2 := (good_facts hg).2.2.1 (q + 1) hq
        have hj1 := fun b W (h : SysIn W b l) => join_int b (l.getD q 0) (l.getD (q + 1) 0) l W h hl r1.1 r1.2.1 r2.1 r2.2.1
        have hj2 := fun b W (h : SysIn W b ((l.set (l.getD q 0).toNat (l.getD (q + 1) 0)).set (l.getD (q + 1) 0).toNat (l.getD q 0))) => join_int b (q : Int) ((q : Int) + 1) _ W h (by simpa using hl) (by omega) (by simp; omega) (by omega) (by simp; omega)
        rw [show ((q : Nat) : Int).toNat = q by omega, show ((q : Int) + 1).toNat = q + 1 by omega] at hj2
        have hc := fun b W (h : SysIn W b l) => h.cell hl q (by omega)
        have hc2 := fun b W (h : SysIn W b l) => h.cell hl (q + 1) (by omega)
        have hlP : (joinedP l q).length ≤ 12 := by simp [joinedP]; exact hl
        have hfold : ((((l.set (l.getD q 0).toNat (l.getD (q + 1) 0)).set (l.getD (q + 1) 0).toNat (l.getD q 0)).set q ((q : Int) + 1)).set (q + 1) (q : Int)) = joinedP l q := rfl
        rw [hfold] at hj2
        generalize joinedP l q = R at *
        generalize ((l.set (l.getD q 0).toNat (l.getD (q + 1) 0)).set (l.getD (q + 1) 0).toNat (l.getD q 0)) = R1 at *
        generalize l.getD q 0 = a at *
        generalize l.getD (q + 1) 0 = b at *
        have HRD := Lib.hid hrd; have HSM := Lib.hid hsm; have HL := Lib.hid hl; have HJ1 := Lib.hid hj1; have HJ2 := Lib.hid hj2; have HC := Lib.hid hc; have HC2 := Lib.hid hc2; have HLP := Lib.hid hlP
        obtain ⟨n, hn⟩ : ∃ n, n = l.length := ⟨_, rfl⟩
        have HN := Lib.hid hn
        rw [← hn] at hq hl hi
        have hw : IntKind.i64.wrap ((q : Int) + 1) = (q : Int) + 1 := IntWalk.i64_in _ (by omega)
        have q1 : (0 : Int) ≤ (q : Int) := by omega
        have q2 : (q : Int) < 12 := by omega
        have q3 : (0 : Int) ≤ (q : Int) + 1 := by omega
        have q4 : (q : Int) + 1 < 12 := by omega
        have q5 : ((q : Int) + 1).toNat = q + 1 := by omega
        clear hrd e er er2 hg h m hsm hs hn hj1 hj2 hc hc2 hlP hfold r1 r2
        go_enter Try.func27, Try.ntmps27
        go_wp2_with (first
          | (go_at_call 82; ((with_reducible refine HRD.out.mono ?_); rintro e w1 ⟨rfl, hb⟩))
          | ((with_reducible refine wp_storeNew rfl (.tmp 7) (.tmp 12) rfl _ l HL.out rfl rfl ?_); intro w2 hs2 hb2; have hcs := hs2.size HL.out; rw [← HN.out] at hcs; have HS2 := Lib.hid hs2; have C1 := Lib.hid hb; have C2 := Lib.hid (Below.step hb hb2); clear hs2 hb hb2)
          | (with_reducible refine wp_loadSys rfl (.tmp 7) rfl w1.heap.size l HL.out rfl HS2.out ?_)
          | (go_at_call 83; ((with_reducible refine (HSM.out _).mono ?_); rintro e w3 ⟨rfl, hb3⟩; have HS3 := Lib.hid (HS2.out.below hb3); have HS3d : Hid (SysIn w3.drew w1.heap.size l) := HS3.out; have C3 := Lib.hid (Below.step C2.out hb3); have C3d : Hid (Below w.heap.size w w3.drew) := Below.drew C3.out; have d1 := HC.out _ _ HS3.out; have d2 := HC2.out _ _ HS3.out; clear hb3)))
        go_region_with (go_at_call 85; ((with_reducible refine (HJ1.out _ _ HS3d.out).mono ?_); rintro e w4 ⟨rfl, hs4, hg4⟩; have HS4 := Lib.hid hs4; have C4 := Lib.hid (C3d.out.grown hg4 C3d.out.size (by intro k hk; have := C1.out.size; simp at hk; omega)); clear hs4 hg4))
        all_goals
          go_wp2_with (first
            | (go_at_call 85; ((with_reducible refine (HJ2.out _ _ HS4.out).mono ?_); rintro e w5 ⟨rfl, hs5, hg5⟩; have HS5 := Lib.hid hs5; have C5 := Lib.hid (C4.out.grown hg5 C4.out.size (by intro k hk; have := C1.out.size; simp at hk; omega)); clear hs5 hg5))
            | (with_reducible refine wp_loadSys rfl (.tmp 7) rfl w1.heap.size R HLP.out rfl HS5.out ?_)
            | (go_at_call 84; ((with_reducible refine (list_any R _ HLP.out).mono ?_); rintro e w6 ⟨v6, rfl, ho6, hb6⟩; obtain ⟨f1, f2, f3, rfl⟩ := ho6.form')))
          go_ret3
          exact ⟨_, rfl, ho6.mono C5.out.size, Below.step C5.out hb6⟩
    · have e : ok_JoinedSystem l i = false := by unfold ok_JoinedSystem; rw [inB_no (by omega), Bool.and_false]
      rw [(joined_no e).1, (joined_no e).2, e]
      have HRD := Lib.hid hrd; have HL := Lib.hid hl
      obtain ⟨n, hn⟩ : ∃ n, n = l.length := ⟨_, rfl⟩
      have HN := Lib.hid hn
      rw [← hn] at hl hi
      clear hrd e hg h m hn
      by_cases h0 : i < 0
      · go_enter Try.func27, Try.ntmps27
        go_wp2_with (first
          | (go_at_call 82; ((with_reducible refine HRD.out.mono ?_); rintro e w1 ⟨rfl, hb⟩))
          | ((with_reducible refine wp_storeNew rfl (.tmp 7) (.tmp 12) rfl _ l HL.out rfl rfl ?_); intro w2 hs2 hb2; have hcs := hs2.size HL.out; rw [← HN.out] at hcs))
        go_ret3
        exact ⟨_, rfl, Own.nil _ _, Below.step hb hb2⟩
      · have h1 : (n : Int) - 1 ≤ i := by omega
        go_enter Try.func27, Try.ntmps27
        go_wp2_with (first
          | (go_at_call 82; ((with_reducible refine HRD.out.mono ?_); rintro e w1 ⟨rfl, hb⟩))
          | ((with_reducible refine wp_storeNew rfl (.tmp 7) (.tmp 12) rfl _ l HL.out rfl rfl ?_); intro w2 hs2 hb2; have hcs := hs2.size HL.out; rw [← HN.out] at hcs))
        go_ret3
        exact ⟨_, rfl, Own.nil _ _, Below.step hb hb2⟩

set_option maxHeartbeats 2000000 in
theorem spec_JoinedSystem (l : List Int) (i : Int) (w : World) (u : Value) (h : Rd w u l) (m : l.length ≤ 1048576) : Calls Try.prog 28 #[u, .int .i64 i] w (GivesJ w (res_JoinedSystem l i) (res2_JoinedSystem l i) (ok_JoinedSystem l i)) := by
  have hgd := ahGood_any u l w h m
  cases hg : goodB l with
  | false =>
    have e : ok_JoinedSystem l i = false := by unfold ok_JoinedSystem; rw [hg]; rfl
    rw [(joined_no e).1, (joined_no e).2, e]
    rw [hg] at hgd
    have HG := Lib.hid hgd
    clear hgd e hg m
    obtain ⟨a, c, rfl, _⟩ := h
    go_enter Try.func28, Try.ntmps28
    go_wp2_with (go_at_call 86; ((with_reducible refine HG.out.mono ?_); rintro e w1 ⟨rfl, hb⟩))
    go_ret3
    exact ⟨_, rfl, Own.nil _ _, hb⟩
  | true =>
    have hl := (good_facts hg).2.1
    rw [hg] at hgd
    have hin := fun w => l1In_any i 0 ((l.length : Int) - 2) w
    cases hi : inB i 0 ((l.length : Int) - 2) with
    | false =>
      have e : ok_JoinedSystem l i = false := by unfold ok_JoinedSystem; rw [hi, Bool.and_false]
      rw [(joined_no e).1, (joined_no e).2, e]
      rw [hi] at hin
      have HG := Lib.hid hgd; have HI := Lib.hid hin
      clear hgd e hg m hin hi
      obtain ⟨a, c, rfl, _⟩ := h
      generalize l.length = n at *
      go_enter Try.func28, Try.ntmps28
      go_wp2_with (first
        | (go_at_call 86; ((with_reducible refine HG.out.mono ?_); rintro e w1 ⟨rfl, hb⟩))
        | (go_at_call 87; ((with_reducible refine (HI.out _).mono ?_); rintro e w2 ⟨rfl, rfl⟩)))
      go_ret3
      exact ⟨_, rfl, Own.nil _ _, hb⟩
    | true =>
      have hi2 := inB_iff.1 hi
      obtain ⟨q, rfl⟩ := Int.eq_ofNat_of_zero_le hi2.1
      have hq : q + 1 < l.length := by omega
      have e : ok_JoinedSystem l (q : Int) = true := by unfold ok_JoinedSystem; rw [hg, hi]; rfl
      rw [hi] at hin
      have r1 := (good_facts hg).2.2.1 q (by omega)
      have r2 := (good_facts hg).2.2.1 (q + 1) hq
      have hown := fun W (hr : Rd W u l) => l1Own_any u l W hr (by omega)
      obtain ⟨b0, off, c, rfl, hlc, hcm, hcell⟩ := h.at (by omega)
      have hc1 := hcell q (by omega)
      have hc2 := hcell (q + 1) hq
      have H0 := Lib.hid h
      obtain ⟨n, hn⟩ : ∃ n, n = l.length := ⟨_, rfl⟩
      have q5 : ((q : Int) + 1).toNat = q + 1 := by omega
      by_cases hs : l.getD q 0 = (q : Int) + 1
      · have hsm : isSmallB l (q : Int) = true := by unfold isSmallB; rw [Int.toNat_natCast]; exact decide_eq_true hs
        have er : res_JoinedSystem l (q : Int) = l := by unfold res_JoinedSystem; rw [e, hsm]; rfl
        have er2 : res2_JoinedSystem l (q : Int) = 1 := by unfold res2_JoinedSystem; rw [e, hsm]; rfl
        rw [er, er2, e]
        rw [hs] at hc1
        have HN := Lib.hid hn
        rw [← hn] at hgd hin hown hl hq hi2 hlc H0 ⊢
        have HG := Lib.hid hgd; have HI := Lib.hid hin; have HO := Lib.hid hown; have HC1 := Lib.hid hc1
        clear hgd e er er2 hg m hin hi hown hcell hc1 hc2 hsm hs h hn r1 r2
        go_enter Try.func28, Try.ntmps28
        go_wp2_with (first
          | (go_at_call 86; ((with_reducible refine HG.out.mono ?_); rintro e w1 ⟨rfl, hb⟩; have HB1 := Lib.hid hb; clear hb))
          | (go_at_call 87; ((with_reducible refine (HI.out _).mono ?_); rintro e w2 ⟨rfl, rfl⟩))
          | (go_at_call 66; ((with_reducible refine (HO.out _ (H0.out.below HB1.out)).mono ?_); rintro e w3 ⟨v3, rfl, ho3, hb3⟩; obtain ⟨f1, f2, f3, rfl⟩ := ho3.form'; have C3 := Lib.hid (Below.step HB1.out hb3); have hd := (C3.out.cell (p := ⟨b0, off + q, none⟩) (World.block_lt_of_cell? w _ HC1.out)).trans HC1.out; have HO3 := Lib.hid ho3; clear hb3 ho3)))
        go_ret3
        exact ⟨_, rfl, HO3.out.mono HB1.out.size, C3.out⟩
      · have hsm : isSmallB l (q : Int) = false := by unfold isSmallB; rw [Int.toNat_natCast]; exact decide_eq_false hs
        have er : res_JoinedSystem l (q : Int) = joinedM l q := by unfold res_JoinedSystem; rw [e, hsm]; rfl
        have er2 : res2_JoinedSystem l (q : Int) = 0 := by unfold res2_JoinedSystem; rw [e, hsm]; rfl
        rw [er, er2, e]
        have hs2 : (l.getD q 0 == (q : Int) + 1) = false := by simpa using hs
        obtain ⟨a, ha⟩ := Int.eq_ofNat_of_zero_le r1.1
        obtain ⟨b, hbb⟩ := Int.eq_ofNat_of_zero_le r2.1
        have hfold : joinedM l q = ((((l.set q ((q : Int) + 1)).set (q + 1) (q : Int)).set a (b : Int)).set b (a : Int)) := by unfold joinedM; rw [ha, hbb]; simp
        rw [hfold]
        rw [ha] at hc1 hs2
        rw [hbb] at hc2
        have ha2 : a < l.length := by have := r1.2.1; omega
        have hb2 : b < l.length := by have := r2.2.1; omega
        have HN := Lib.hid hn
        rw [← hn] at hgd hin hown hl hq hi2 hlc H0 ha2 hb2 ⊢
        have HG := Lib.hid hgd; have HI := Lib.hid hin; have HO := Lib.hid hown; have HC1 := Lib.hid hc1; have HC2 := Lib.hid hc2
        clear hgd e er er2 hg m hin hi hown hcell hc1 hc2 hsm hs h hn r1 r2 hfold ha hbb
        go_enter Try.func28, Try.ntmps28
        go_wp2_with (first
          | (go_at_call 86; ((with_reducible refine HG.out.mono ?_); rintro e w1 ⟨rfl, hb⟩; have HB1 := Lib.hid hb; clear hb))
          | (go_at_call 87; ((with_reducible refine (HI.out _).mono ?_); rintro e w2 ⟨rfl, rfl⟩))
          | (go_at_call 66; ((with_reducible refine (HO.out _ (H0.out.below HB1.out)).mono ?_); rintro e w3 ⟨v3, rfl, ho3, hb3⟩; have C3 := Lib.hid (Below.step HB1.out hb3); have hd1 := (C3.out.cell (p := ⟨b0, off + q, none⟩) (World.block_lt_of_cell? w _ HC1.out)).trans HC1.out; have hd2 := (C3.out.cell (p := ⟨b0, off + (q + 1), none⟩) (World.block_lt_of_cell? w _ HC2.out)).trans HC2.out; have HO3 := Lib.hid ho3; clear hb3 ho3; obtain ⟨g, cc, hv3⟩ := own_at HO3.out (by rw [← HN.out]; omega); rw [← HN.out] at hv3; subst hv3)))
        go_quiet (fail)
        have HO4 : Hid (Own w1.heap.size (w3.drewN nq) (.slice (some ⟨g, 0, none⟩) n cc) l) := HO3.out
        have C4 : Hid (Below w.heap.size w (w3.drewN nq)) := Below.drewN C3.out nq
        have hg1 : w1.heap.size ≤ g := (HO3.out.lt g rfl).1
        generalize w3.drewN nq = w4 at HO4 C4 ⊢
        have hn := HN.out
        have hgw : w.heap.size ≤ g := Nat.le_trans HB1.out.size hg1
        have HGW := Lib.hid hgw
        have HI0 : Hid (q < l.length) := by show _ < _; omega
        have HI1 : Hid (q + 1 < (l.set q ((q : Int) + 1)).length) := by show _ < _; simp; omega
        have HI2 : Hid (a < ((l.set q ((q : Int) + 1)).set (q + 1) (q : Int)).length) := by show _ < _; simp; omega
        have HI3 : Hid (b < (((l.set q ((q : Int) + 1)).set (q + 1) (q : Int)).set a (b : Int)).length) := by show _ < _; simp; omega
        clear hn hgw
        go_wp2_with (first
          | ((with_reducible refine wp_storeOwn rfl (.tmp 44) (.tmp 43) rfl w1.heap.size g q n cc l ((q : Int) + 1) rfl rfl HO4.out HI0.out ?_); intro v0 s0 d0; have S0 := Lib.hid s0; have D0 := Lib.hid (C4.out.grown d0 (C4.out.size) (by intro k hk; have := HGW.out; simp at hk; omega)); clear s0 d0)
          | ((with_reducible refine wp_storeOwn rfl (.tmp 49) (.tmp 48) rfl w1.heap.size g (q + 1) n cc (l.set q ((q : Int) + 1)) (q : Int) rfl rfl S0.out HI1.out ?_); intro v1 s1 d1; have S1 := Lib.hid s1; have D1 := Lib.hid (D0.out.grown d1 (D0.out.size) (by intro k hk; have := HGW.out; simp at hk; omega)); clear s1 d1)
          | ((with_reducible refine wp_storeOwn rfl (.tmp 53) (.tmp 52) rfl w1.heap.size g a n cc ((l.set q ((q : Int) + 1)).set (q + 1) (q : Int)) (b : Int) rfl rfl S1.out HI2.out ?_); intro v2 s2 d2; have S2 := Lib.hid s2; have D2 := Lib.hid (D1.out.grown d2 (D1.out.size) (by intro k hk; have := HGW.out; simp at hk; omega)); clear s2 d2)
          | ((with_reducible refine wp_storeOwn rfl (.tmp 57) (.tmp 56) rfl w1.heap.size g b n cc (((l.set q ((q : Int) + 1)).set (q + 1) (q : Int)).set a (b : Int)) (a : Int) rfl rfl S2.out HI3.out ?_); intro v3 s3 d3; have S3 := Lib.hid s3; have D3 := Lib.hid (D2.out.grown d3 (D2.out.size) (by intro k hk; have := HGW.out; simp at hk; omega)); clear s3 d3))
        go_ret3
        exact ⟨_, rfl, S3.out.mono HB1.out.size, D3.out⟩

end Go.Proofs.Ytbinpefogecgmab
