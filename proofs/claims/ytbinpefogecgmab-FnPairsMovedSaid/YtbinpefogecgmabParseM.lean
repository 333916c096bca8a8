/- ParseMeander: the program's function and the model's. -/
import Derived.Test.YtbinpefogecgmabReadPair
import Derived.Test.YtbinpefogecgmabCut
import Derived.Test.YtbinpefogecgmabSplit
namespace Go.Proofs.Ytbinpefogecgmab
open Go.RowKit
set_option linter.unusedSimpArgs false
set_option linter.unusedVariables false

/-- the first bar from k on -/
def fb (s : ByteArray) : Nat → Nat → Option Nat
  | 0, _ => none
  | m + 1, k => if byteN s k = 124 then some k else fb s m (k + 1)
theorem fb_none (s : ByteArray) : ∀ (m k : Nat), (∀ j, k ≤ j → j < k + m → byteN s j ≠ 124) → fb s m k = none
  | 0, _, _ => rfl
  | m + 1, k, h => by
    rw [fb, if_neg (h k (by omega) (by omega))]
    exact fb_none s m (k + 1) (fun j h1 h2 => h j (by omega) (by omega))
theorem fb_some (s : ByteArray) : ∀ (m k i : Nat), k ≤ i → i < k + m → byteN s i = 124 → (∀ j, k ≤ j → j < i → byteN s j ≠ 124) → fb s m k = some i
  | 0, k, i, h1, h2, _, _ => by omega
  | m + 1, k, i, h1, h2, hb, hf => by
    by_cases e : k = i
    · subst e; rw [fb, if_pos hb]
    · rw [fb, if_neg (hf k (by omega) (by omega))]
      exact fb_some s m (k + 1) i (by omega) (by omega) hb (fun j h3 h4 => hf j (by omega) h4)
/-- a pair, if both texts are those of one -/
def pmOf (a b : ByteArray) : Option (List Int × List Int) :=
  if ok_ParseSystem a && ok_ParseSystem b && pairOk (res_ParseSystem a) (res_ParseSystem b) then some (res_ParseSystem a, res_ParseSystem b) else none
def pmS (s : ByteArray) : Option (List Int × List Int) := match fb s s.size 0 with
  | none => none
  | some i => pmOf (s.extract 0 i) (s.extract (i + 1) s.size)
def ok_ParseMeander (s : ByteArray) : Bool := (pmS s).isSome
def res1_ParseMeander (s : ByteArray) : List Int := ((pmS s).getD ([], [])).1
def res2_ParseMeander (s : ByteArray) : List Int := ((pmS s).getD ([], [])).2
theorem pmOf_len {a b : ByteArray} : ((pmOf a b).getD ([], [])).1.length ≤ 12 ∧ ((pmOf a b).getD ([], [])).2.length ≤ 12 := by
  unfold pmOf
  split
  · next h =>
    simp only [Bool.and_eq_true] at h
    obtain ⟨g1, g2, _⟩ := pairOk_facts h.2
    exact ⟨good_len' g1, good_len' g2⟩
  · simp
theorem len_ParseMeander (s : ByteArray) : (res1_ParseMeander s).length ≤ 1000000 ∧ (res2_ParseMeander s).length ≤ 1000000 := by
  unfold res1_ParseMeander res2_ParseMeander pmS
  split
  · simp
  · next i _ =>
    have := pmOf_len (a := s.extract 0 i) (b := s.extract (i + 1) s.size)
    omega
theorem pmS_none {s : ByteArray} (h : ∀ k, k < s.size → byteN s k ≠ 124) : pmS s = none := by rw [pmS, fb_none s s.size 0 (fun j _ h2 => h j (by omega))]
theorem pmS_some {s : ByteArray} {i : Nat} (hi : i < s.size) (hb : byteN s i = 124) (hf : ∀ k, k < i → byteN s k ≠ 124) : pmS s = pmOf (s.extract 0 i) (s.extract (i + 1) s.size) := by
  rw [pmS, fb_some s s.size 0 i (by omega) (by omega) hb (fun j _ h => hf j h)]
theorem parseS_bad (s : ByteArray) : ∀ (f k : Nat) (st p : List Int) (j : Nat), k ≤ j → j < k + f → byteN s j = 124 → parseS s f k st p = none
  | 0, k, st, p, j, h1, h2, _ => by omega
  | f + 1, k, st, p, j, h1, h2, hb => by
    rw [parseS]
    by_cases e : k = j
    · subst e
      rw [if_neg (by omega), if_neg (by omega)]
    · split
      · exact parseS_bad s f (k + 1) _ _ j (by omega) (by omega) hb
      · split
        · exact parseS_bad s f (k + 1) _ _ j (by omega) (by omega) hb
        · rfl
theorem byteN_extract (s : ByteArray) (a b k : Nat) (hb : b ≤ s.size) (hk : a + k < b) : byteN (s.extract a b) k = byteN s (a + k) := by
  unfold byteN
  congr 1
  have h1 : (s.extract a b).data.toList = (s.data.toList.take b).drop a := by
    simp [ByteArray.data_extract, Array.toList_extract, List.extract_eq_take_drop, List.drop_take]
  rw [h1]
  simp only [List.getD, List.getElem?_drop, List.getElem?_take]
  rw [if_pos hk]
theorem parsed_bad {s : ByteArray} {a b j : Nat} (hb : b ≤ s.size) (h1 : a ≤ j) (h2 : j < b) (hj : byteN s j = 124) : ok_ParseSystem (s.extract a b) = false := by
  have hsz : (s.extract a b).size = b - a := by rw [ByteArray.size_extract]; omega
  have : parsed (s.extract a b) = none := by
    unfold parsed
    split
    · refine parseS_bad _ _ _ _ _ (j - a) (by omega) (by rw [hsz]; omega) ?_
      rw [byteN_extract s a b (j - a) hb (by omega), show a + (j - a) = j by omega]
      exact hj
    · rfl
  unfold ok_ParseSystem
  rw [this]; rfl
theorem pmS_more {s : ByteArray} {i j : Nat} (hi : i < s.size) (hb : byteN s i = 124) (hf : ∀ k, k < i → byteN s k ≠ 124) (hij : i < j) (hj : j < s.size) (hb2 : byteN s j = 124) : pmS s = none := by
  rw [pmS_some hi hb hf, pmOf, parsed_bad (Nat.le_refl _) (by omega : i + 1 ≤ j) hj hb2]
  simp
/-- no bar, one, or more -/
theorem bar_three (s : ByteArray) : (∀ k, k < s.size → byteN s k ≠ 124) ∨ ∃ i, i < s.size ∧ byteN s i = 124 ∧ (∀ k, k < i → byteN s k ≠ 124) ∧ ((∀ j, i < j → j < s.size → byteN s j ≠ 124) ∨ ∃ j, i < j ∧ j < s.size ∧ byteN s j = 124) := by
  rcases bar_cases s with h | ⟨i, h1, h2, h3⟩
  · exact .inl h
  · refine .inr ⟨i, h1, h2, h3, ?_⟩
    by_cases e : ∃ j, i < j ∧ j < s.size ∧ byteN s j = 124
    · exact .inr e
    · exact .inl fun j q1 q2 q3 => e ⟨j, q1, q2, q3⟩

theorem results_mp (tmps : Array Value) (w : World) (g : Nat) (v1 v2 : Value) (ok : Bool) (hg : Box2 26 w g v1 v2) (h2 : tmps.getD 2 undef = .pointer (some ⟨g, 0, none⟩)) (h3 : tmps.getD 3 undef = .bool ok) :
    (results Try.f78 tmps).run Try.prog w = .ok (.tuple #[.agg #[v1, v2], .bool ok]) w := by
  have h2' : tmps[2]?.getD undef = .pointer (some ⟨g, 0, none⟩) := by simpa using h2
  have h3' : tmps[3]?.getD undef = .bool ok := by simpa using h3
  have hr : Try.f78.results = #[.cell 2 26, .tmp 3] := by kernel_rfl
  simp [results, hr, h2', h3', asAddr, run_loadMea w g v1 v2 hg]

set_option maxHeartbeats 8000000 in
theorem meParse_any (s : ByteArray) (w : World) (hs : s.size ≤ 1048576) : Calls Try.prog 78 #[.string s] w (GivesM w (res1_ParseMeander s) (res2_ParseMeander s) (ok_ParseMeander s)) := by
  unfold res1_ParseMeander res2_ParseMeander ok_ParseMeander
  have hR := Box2.new 26 w (.slice none 0 0) (.slice none 0 0)
  have HR := Lib.hid hR; have HB := Lib.hid (Below.alloc1 w (.cells #[.slice none 0 0, .slice none 0 0] 26))
  clear hR
  have HSP := Lib.hid (fun w => l1Split_any s w (by omega))
  rcases bar_three s with hno | ⟨i, hi, hb, hf, hone | ⟨j, hij, hj, hb2⟩⟩
  · rw [pmS_none hno]
    rw [splitL_none hno] at HSP
    simp only [Option.getD_none, Option.isSome_none]
    clear hno
    go_enter Try.func78, Try.ntmps78
    go_wp2_with fail
    refine (HSP.out _).mono ?_
    rintro e w1 ⟨v, rfl, ho1, hb1⟩
    obtain ⟨a1, c1, rfl, hlc, hcm, hcell⟩ := ho1.form
    unfold maxLen at hcm
    have HR1 := Lib.hid (HR.out.below hb1); have HB1 := Lib.hid (Below.step HB.out hb1)
    clear hcell ho1 hb1
    have g0 := HR1.out.c0; have g1 := HR1.out.c1; have g2 := HR1.out.free 0; have g3 := HR1.out.free 1
    go_wp2_with fail
    exact bodyPost_ret (results_mp _ _ w.heap.size _ _ false ((HR1.out.set0 _).set1 _) rfl rfl) rfl ⟨_, _, rfl, Own.nil _ _, Own.nil _ _, ApartV.nil _, (HB1.out.setCell (p := ⟨w.heap.size, 0, none⟩) (Nat.le_refl _) _).setCell (p := ⟨w.heap.size, 1, none⟩) (Nat.le_refl _) _⟩
  · rw [pmS_some hi hb hf]
    rw [splitL_one hi hb hf hone] at HSP
    have hsz1 : (s.extract 0 i).size ≤ 9223372036854775807 := by rw [ByteArray.size_extract]; omega
    have hsz2 : (s.extract (i + 1) s.size).size ≤ 9223372036854775807 := by rw [ByteArray.size_extract]; omega
    clear hb hf hone
    generalize s.extract 0 i = A at *
    generalize s.extract (i + 1) s.size = B at *
    have HA := Lib.hid (fun w => ahParse_any A w hsz1); have HBB := Lib.hid (fun w => ahParse_any B w hsz2)
    clear hsz1 hsz2
    have HM := Lib.hid (fun w u1 u2 h1 h2 => mePair_any (res_ParseSystem A) (res_ParseSystem B) w u1 u2 h1 h2 (by have := len_ParseSystem A; omega) (by have := len_ParseSystem B; omega))
    unfold pmOf
    generalize ok_ParseSystem A = oA at *
    generalize ok_ParseSystem B = oB at *
    generalize pairOk (res_ParseSystem A) (res_ParseSystem B) = oP at *
    generalize res_ParseSystem A = rA at *
    generalize res_ParseSystem B = rB at *
    cases oA with
    | false =>
      simp only [Bool.false_and, Bool.false_eq_true, if_false, Option.getD_none, Option.isSome_none]
      go_enter Try.func78, Try.ntmps78
      go_wp2_with fail
      refine (HSP.out _).mono ?_
      rintro e w1 ⟨v, rfl, ho1, hb1⟩
      obtain ⟨a1, c1, rfl, hlc, hcm, hcell⟩ := ho1.form
      unfold maxLen at hcm
      have HR1 := Lib.hid (HR.out.below hb1); have HB1 := Lib.hid (Below.step HB.out hb1)
      obtain ⟨gg, rfl, hcl⟩ := hcell (by simp)
      have d0 := hcl 0 (by simp); have d1 := hcl 1 (by simp)
      have D1 := Lib.hid d1
      clear hcl hcell ho1 hb1 d1
      go_wp2_with fail
      refine (HA.out _).mono ?_
      rintro e w2 ⟨v1, rfl, ho2, hb2⟩
      obtain ⟨x1, y1, z1, rfl⟩ := ho2.form'
      have d1 := (hb2.cell (p := ⟨gg, 1, none⟩) (World.block_lt_of_cell? w1 _ D1.out)).trans D1.out
      have HO2 := Lib.hid ho2; have HR2 := Lib.hid (HR1.out.below hb2); have HB2 := Lib.hid (Below.step HB1.out hb2)
      clear ho2 hb2 d0
      go_wp2_with fail
      refine (HBB.out _).mono ?_
      rintro e w3 ⟨v2, rfl, ho3, hb3⟩
      obtain ⟨x2, y2, z2, rfl⟩ := ho3.form'
      have AP := Lib.hid (show ApartV (.slice x1 y1 z1) (.slice x2 y2 z2) from fun k hk hk' => by have h5 := (HO2.out.lt k hk).2; have h6 := (ho3.lt k hk').1; omega)
      have HO3 := Lib.hid (ho3.below (Below.alloc1 w3 (.cells #[.slice x1 y1 z1, .slice x2 y2 z2] 26))); have HO23 := Lib.hid ((HO2.out.below hb3).below (Below.alloc1 w3 (.cells #[.slice x1 y1 z1, .slice x2 y2 z2] 26)))
      have HR3 := Lib.hid ((HR2.out.below hb3).below (Below.alloc1 w3 (.cells #[.slice x1 y1 z1, .slice x2 y2 z2] 26))); have HB3 := Lib.hid (Below.step (Below.step HB2.out hb3) (Below.alloc1 w3 (.cells #[.slice x1 y1 z1, .slice x2 y2 z2] 26)))
      have HX3 := Lib.hid (Box2.new 26 w3 (.slice x1 y1 z1) (.slice x2 y2 z2))
      have k0 := HX3.out.c0; have k1 := HX3.out.c1
      have g0 := HR3.out.c0; have g1 := HR3.out.c1; have g2 := HR3.out.free 0; have g3 := HR3.out.free 1
      clear ho3 hb3
      go_wp2_with fail
      exact bodyPost_ret (results_mp _ _ w.heap.size _ _ false ((HR3.out.set0 _).set1 _) rfl rfl) rfl ⟨_, _, rfl, Own.nil _ _, Own.nil _ _, ApartV.nil _, (HB3.out.setCell (p := ⟨w.heap.size, 0, none⟩) (Nat.le_refl _) _).setCell (p := ⟨w.heap.size, 1, none⟩) (Nat.le_refl _) _⟩
    | true =>
      cases oB with
      | false =>
        simp only [Bool.true_and, Bool.false_and, Bool.false_eq_true, if_false, Option.getD_none, Option.isSome_none]
        go_enter Try.func78, Try.ntmps78
        go_wp2_with fail
        refine (HSP.out _).mono ?_
        rintro e w1 ⟨v, rfl, ho1, hb1⟩
        obtain ⟨a1, c1, rfl, hlc, hcm, hcell⟩ := ho1.form
        unfold maxLen at hcm
        have HR1 := Lib.hid (HR.out.below hb1); have HB1 := Lib.hid (Below.step HB.out hb1)
        obtain ⟨gg, rfl, hcl⟩ := hcell (by simp)
        have d0 := hcl 0 (by simp); have d1 := hcl 1 (by simp)
        have D1 := Lib.hid d1
        clear hcl hcell ho1 hb1 d1
        go_wp2_with fail
        refine (HA.out _).mono ?_
        rintro e w2 ⟨v1, rfl, ho2, hb2⟩
        obtain ⟨x1, y1, z1, rfl⟩ := ho2.form'
        have d1 := (hb2.cell (p := ⟨gg, 1, none⟩) (World.block_lt_of_cell? w1 _ D1.out)).trans D1.out
        have HO2 := Lib.hid ho2; have HR2 := Lib.hid (HR1.out.below hb2); have HB2 := Lib.hid (Below.step HB1.out hb2)
        clear ho2 hb2 d0
        go_wp2_with fail
        refine (HBB.out _).mono ?_
        rintro e w3 ⟨v2, rfl, ho3, hb3⟩
        obtain ⟨x2, y2, z2, rfl⟩ := ho3.form'
        have AP := Lib.hid (show ApartV (.slice x1 y1 z1) (.slice x2 y2 z2) from fun k hk hk' => by have h5 := (HO2.out.lt k hk).2; have h6 := (ho3.lt k hk').1; omega)
        have HO3 := Lib.hid (ho3.below (Below.alloc1 w3 (.cells #[.slice x1 y1 z1, .slice x2 y2 z2] 26))); have HO23 := Lib.hid ((HO2.out.below hb3).below (Below.alloc1 w3 (.cells #[.slice x1 y1 z1, .slice x2 y2 z2] 26)))
        have HR3 := Lib.hid ((HR2.out.below hb3).below (Below.alloc1 w3 (.cells #[.slice x1 y1 z1, .slice x2 y2 z2] 26))); have HB3 := Lib.hid (Below.step (Below.step HB2.out hb3) (Below.alloc1 w3 (.cells #[.slice x1 y1 z1, .slice x2 y2 z2] 26)))
        have HX3 := Lib.hid (Box2.new 26 w3 (.slice x1 y1 z1) (.slice x2 y2 z2))
        have k0 := HX3.out.c0; have k1 := HX3.out.c1
        have g0 := HR3.out.c0; have g1 := HR3.out.c1; have g2 := HR3.out.free 0; have g3 := HR3.out.free 1
        clear ho3 hb3
        go_wp2_with fail
        exact bodyPost_ret (results_mp _ _ w.heap.size _ _ false ((HR3.out.set0 _).set1 _) rfl rfl) rfl ⟨_, _, rfl, Own.nil _ _, Own.nil _ _, ApartV.nil _, (HB3.out.setCell (p := ⟨w.heap.size, 0, none⟩) (Nat.le_refl _) _).setCell (p := ⟨w.heap.size, 1, none⟩) (Nat.le_refl _) _⟩
      | true =>
        cases oP with
        | false =>
          simp only [Bool.true_and, Bool.false_eq_true, if_false, Option.getD_none, Option.isSome_none]
          go_enter Try.func78, Try.ntmps78
          go_wp2_with fail
          refine (HSP.out _).mono ?_
          rintro e w1 ⟨v, rfl, ho1, hb1⟩
          obtain ⟨a1, c1, rfl, hlc, hcm, hcell⟩ := ho1.form
          unfold maxLen at hcm
          have HR1 := Lib.hid (HR.out.below hb1); have HB1 := Lib.hid (Below.step HB.out hb1)
          obtain ⟨gg, rfl, hcl⟩ := hcell (by simp)
          have d0 := hcl 0 (by simp); have d1 := hcl 1 (by simp)
          have D1 := Lib.hid d1
          clear hcl hcell ho1 hb1 d1
          go_wp2_with fail
          refine (HA.out _).mono ?_
          rintro e w2 ⟨v1, rfl, ho2, hb2⟩
          obtain ⟨x1, y1, z1, rfl⟩ := ho2.form'
          have d1 := (hb2.cell (p := ⟨gg, 1, none⟩) (World.block_lt_of_cell? w1 _ D1.out)).trans D1.out
          have HO2 := Lib.hid ho2; have HR2 := Lib.hid (HR1.out.below hb2); have HB2 := Lib.hid (Below.step HB1.out hb2)
          clear ho2 hb2 d0
          go_wp2_with fail
          refine (HBB.out _).mono ?_
          rintro e w3 ⟨v2, rfl, ho3, hb3⟩
          obtain ⟨x2, y2, z2, rfl⟩ := ho3.form'
          have AP := Lib.hid (show ApartV (.slice x1 y1 z1) (.slice x2 y2 z2) from fun k hk hk' => by have h5 := (HO2.out.lt k hk).2; have h6 := (ho3.lt k hk').1; omega)
          have HO3 := Lib.hid (ho3.below (Below.alloc1 w3 (.cells #[.slice x1 y1 z1, .slice x2 y2 z2] 26))); have HO23 := Lib.hid ((HO2.out.below hb3).below (Below.alloc1 w3 (.cells #[.slice x1 y1 z1, .slice x2 y2 z2] 26)))
          have HR3 := Lib.hid ((HR2.out.below hb3).below (Below.alloc1 w3 (.cells #[.slice x1 y1 z1, .slice x2 y2 z2] 26))); have HB3 := Lib.hid (Below.step (Below.step HB2.out hb3) (Below.alloc1 w3 (.cells #[.slice x1 y1 z1, .slice x2 y2 z2] 26)))
          have HX3 := Lib.hid (Box2.new 26 w3 (.slice x1 y1 z1) (.slice x2 y2 z2))
          have k0 := HX3.out.c0; have k1 := HX3.out.c1
          have g0 := HR3.out.c0; have g1 := HR3.out.c1; have g2 := HR3.out.free 0; have g3 := HR3.out.free 1
          clear ho3 hb3
          go_wp2_with fail
          refine (HM.out _ _ _ HO23.out.rd HO3.out.rd).mono ?_
          rintro e w4 ⟨rfl, hb4⟩
          have HR4 := Lib.hid (HR3.out.below hb4); have HB4 := Lib.hid (Below.step HB3.out hb4); have HX4 := Lib.hid (HX3.out.below hb4)
          have HO4 := Lib.hid (HO23.out.below hb4); have HO5 := Lib.hid (HO3.out.below hb4)
          clear g0 g1 g2 g3 k0 k1 hb4
          have k0 := HX4.out.c0; have k1 := HX4.out.c1
          have g0 := HR4.out.c0; have g1 := HR4.out.c1; have g2 := HR4.out.free 0; have g3 := HR4.out.free 1
          go_wp2_with fail
          exact bodyPost_ret (results_mp _ _ w.heap.size _ _ false ((HR4.out.set0 _).set1 _) rfl rfl) rfl ⟨_, _, rfl, Own.nil _ _, Own.nil _ _, ApartV.nil _, (HB4.out.setCell (p := ⟨w.heap.size, 0, none⟩) (Nat.le_refl _) _).setCell (p := ⟨w.heap.size, 1, none⟩) (Nat.le_refl _) _⟩
        | true =>
          simp only [Bool.true_and, if_true, Option.getD_some, Option.isSome_some]
          go_enter Try.func78, Try.ntmps78
          go_wp2_with fail
          refine (HSP.out _).mono ?_
          rintro e w1 ⟨v, rfl, ho1, hb1⟩
          obtain ⟨a1, c1, rfl, hlc, hcm, hcell⟩ := ho1.form
          unfold maxLen at hcm
          have HR1 := Lib.hid (HR.out.below hb1); have HB1 := Lib.hid (Below.step HB.out hb1)
          obtain ⟨gg, rfl, hcl⟩ := hcell (by simp)
          have d0 := hcl 0 (by simp); have d1 := hcl 1 (by simp)
          have D1 := Lib.hid d1
          clear hcl hcell ho1 hb1 d1
          go_wp2_with fail
          refine (HA.out _).mono ?_
          rintro e w2 ⟨v1, rfl, ho2, hb2⟩
          obtain ⟨x1, y1, z1, rfl⟩ := ho2.form'
          have d1 := (hb2.cell (p := ⟨gg, 1, none⟩) (World.block_lt_of_cell? w1 _ D1.out)).trans D1.out
          have HO2 := Lib.hid ho2; have HR2 := Lib.hid (HR1.out.below hb2); have HB2 := Lib.hid (Below.step HB1.out hb2)
          clear ho2 hb2 d0
          go_wp2_with fail
          refine (HBB.out _).mono ?_
          rintro e w3 ⟨v2, rfl, ho3, hb3⟩
          obtain ⟨x2, y2, z2, rfl⟩ := ho3.form'
          have AP := Lib.hid (show ApartV (.slice x1 y1 z1) (.slice x2 y2 z2) from fun k hk hk' => by have h5 := (HO2.out.lt k hk).2; have h6 := (ho3.lt k hk').1; omega)
          have HO3 := Lib.hid (ho3.below (Below.alloc1 w3 (.cells #[.slice x1 y1 z1, .slice x2 y2 z2] 26))); have HO23 := Lib.hid ((HO2.out.below hb3).below (Below.alloc1 w3 (.cells #[.slice x1 y1 z1, .slice x2 y2 z2] 26)))
          have HR3 := Lib.hid ((HR2.out.below hb3).below (Below.alloc1 w3 (.cells #[.slice x1 y1 z1, .slice x2 y2 z2] 26))); have HB3 := Lib.hid (Below.step (Below.step HB2.out hb3) (Below.alloc1 w3 (.cells #[.slice x1 y1 z1, .slice x2 y2 z2] 26)))
          have HX3 := Lib.hid (Box2.new 26 w3 (.slice x1 y1 z1) (.slice x2 y2 z2))
          have k0 := HX3.out.c0; have k1 := HX3.out.c1
          have g0 := HR3.out.c0; have g1 := HR3.out.c1; have g2 := HR3.out.free 0; have g3 := HR3.out.free 1
          clear ho3 hb3
          go_wp2_with fail
          refine (HM.out _ _ _ HO23.out.rd HO3.out.rd).mono ?_
          rintro e w4 ⟨rfl, hb4⟩
          have HR4 := Lib.hid (HR3.out.below hb4); have HB4 := Lib.hid (Below.step HB3.out hb4); have HX4 := Lib.hid (HX3.out.below hb4)
          have HO4 := Lib.hid (HO23.out.below hb4); have HO5 := Lib.hid (HO3.out.below hb4)
          clear g0 g1 g2 g3 k0 k1 hb4
          have k0 := HX4.out.c0; have k1 := HX4.out.c1
          have g0 := HR4.out.c0; have g1 := HR4.out.c1; have g2 := HR4.out.free 0; have g3 := HR4.out.free 1
          go_wp2_with fail
          have hlt := HR.out.lt; have hs1 := HB1.out.size; have hs2 := HB2.out.size; have hr1 := HR1.out.lt; have hr2 := HR2.out.lt
          have G2 : ∀ k, (Value.slice x1 y1 z1).ownBlock = some k → (some w.heap.size : Option Nat) ≠ some k := fun k hk e => by have h5 := (HO4.out.lt k hk).1; simp at e; omega
          have G3 : ∀ k, (Value.slice x2 y2 z2).ownBlock = some k → (some w.heap.size : Option Nat) ≠ some k := fun k hk e => by have h5 := (HO5.out.lt k hk).1; simp at e; omega
          exact bodyPost_ret (results_mp _ _ w.heap.size _ _ true ((HR4.out.set0 _).set1 _) rfl rfl) rfl ⟨_, _, rfl, (HO4.out.grown (grown_trans grown_setCell grown_setCell) G2).mono hs1, (HO5.out.grown (grown_trans grown_setCell grown_setCell) G3).mono hs2, AP.out, (HB4.out.setCell (p := ⟨w.heap.size, 0, none⟩) (Nat.le_refl _) _).setCell (p := ⟨w.heap.size, 1, none⟩) (Nat.le_refl _) _⟩
  · rw [pmS_more hi hb hf hij hj hb2]
    have hm := splitL_more hb hij hj hb2
    simp only [Option.getD_none, Option.isSome_none]
    clear hb hf hb2
    generalize splitL s = P at *
    obtain ⟨n, hn⟩ : ∃ n, n = P.length := ⟨_, rfl⟩
    have HN := Lib.hid hn
    rw [← hn] at hm; clear hn
    go_enter Try.func78, Try.ntmps78
    go_wp2_with fail
    refine (HSP.out _).mono ?_
    rintro e w1 ⟨v, rfl, ho1, hb1⟩
    obtain ⟨a1, c1, rfl, hlc, hcm, hcell⟩ := ho1.form
    unfold maxLen at hcm
    have HR1 := Lib.hid (HR.out.below hb1); have HB1 := Lib.hid (Below.step HB.out hb1)
    rw [← HN.out] at hlc ⊢
    have hne : ((n : Int) != 2) = true := by simp; omega
    clear hcell ho1 hb1
    have g0 := HR1.out.c0; have g1 := HR1.out.c1; have g2 := HR1.out.free 0; have g3 := HR1.out.free 1
    go_wp2_with fail
    exact bodyPost_ret (results_mp _ _ w.heap.size _ _ false ((HR1.out.set0 _).set1 _) rfl rfl) rfl ⟨_, _, rfl, Own.nil _ _, Own.nil _ _, ApartV.nil _, (HB1.out.setCell (p := ⟨w.heap.size, 0, none⟩) (Nat.le_refl _) _).setCell (p := ⟨w.heap.size, 1, none⟩) (Nat.le_refl _) _⟩

theorem results_spm (tmps : Array Value) (w : World) (g : Nat) (v1 v2 : Value) (ok : Bool) (hg : Box2 26 w g v1 v2) (h2 : tmps.getD 2 undef = .pointer (some ⟨g, 0, none⟩)) (h3 : tmps.getD 3 undef = .bool ok) :
    (results Try.f22 tmps).run Try.prog w = .ok (.tuple #[.agg #[v1, v2], .bool ok]) w := by
  have h2' : tmps[2]?.getD undef = .pointer (some ⟨g, 0, none⟩) := by simpa using h2
  have h3' : tmps[3]?.getD undef = .bool ok := by simpa using h3
  have hr : Try.f22.results = #[.cell 2 26, .tmp 3] := by kernel_rfl
  simp [results, hr, h2', h3', asAddr, run_loadMea w g v1 v2 hg]

theorem spec_ParseMeander (s : ByteArray) (w : World) (hs : s.size ≤ 1048576) : Calls Try.prog 22 #[.string s] w (GivesM w (res1_ParseMeander s) (res2_ParseMeander s) (ok_ParseMeander s)) := by
  have HR := Lib.hid (Box2.new 26 w (.slice none 0 0) (.slice none 0 0)); have HB := Lib.hid (Below.alloc1 w (.cells #[.slice none 0 0, .slice none 0 0] 26))
  have HP := Lib.hid (fun w => meParse_any s w hs)
  generalize res1_ParseMeander s = r1 at *
  generalize res2_ParseMeander s = r2 at *
  generalize ok_ParseMeander s = ok at *
  go_enter Try.func22, Try.ntmps22
  go_wp2_with fail
  refine (HP.out _).mono ?_
  rintro e w1 ⟨v1, v2, rfl, ho1, ho2, hap, hb1⟩
  obtain ⟨x1, y1, z1, rfl⟩ := ho1.form'; obtain ⟨x2, y2, z2, rfl⟩ := ho2.form'
  have HR1 := Lib.hid (HR.out.below hb1); have HB1 := Lib.hid (Below.step HB.out hb1); have HO1 := Lib.hid ho1; have HO2 := Lib.hid ho2; have HAP := Lib.hid hap; have g0 := HR1.out.c0; have g1 := HR1.out.c1; have g2 := HR1.out.free 0; have g3 := HR1.out.free 1
  have hlt := Lib.hid HR.out.lt
  clear ho1 ho2 hap hb1
  go_wp2
  have G2 : ∀ k, (Value.slice x1 y1 z1).ownBlock = some k → (some w.heap.size : Option Nat) ≠ some k := fun k hk e => by have h5 := (HO1.out.lt k hk).1; have h6 := hlt.out; simp at e h5 h6; omega
  have G3 : ∀ k, (Value.slice x2 y2 z2).ownBlock = some k → (some w.heap.size : Option Nat) ≠ some k := fun k hk e => by have h5 := (HO2.out.lt k hk).1; have h6 := hlt.out; simp at e h5 h6; omega
  exact bodyPost_ret (results_spm _ _ w.heap.size _ _ ok ((HR1.out.set0 _).set1 _) rfl rfl) rfl ⟨_, _, rfl, (HO1.out.grown (grown_trans grown_setCell grown_setCell) G2).mono HB.out.size, (HO2.out.grown (grown_trans grown_setCell grown_setCell) G3).mono HB.out.size, HAP.out, (HB1.out.setCell (p := ⟨w.heap.size, 0, none⟩) (Nat.le_refl _) _).setCell (p := ⟨w.heap.size, 1, none⟩) (Nat.le_refl _) _⟩

theorem results_ipm (tmps : Array Value) (w : World) (g : Nat) (v1 v2 : Value) (ok : Bool) (hg : Box2 26 w g v1 v2) (h2 : tmps.getD 2 undef = .pointer (some ⟨g, 0, none⟩)) (h3 : tmps.getD 3 undef = .bool ok) :
    (results Try.f21 tmps).run Try.prog w = .ok (.tuple #[.agg #[v1, v2], .bool ok]) w := by
  have h2' : tmps[2]?.getD undef = .pointer (some ⟨g, 0, none⟩) := by simpa using h2
  have h3' : tmps[3]?.getD undef = .bool ok := by simpa using h3
  have hr : Try.f21.results = #[.cell 2 26, .tmp 3] := by kernel_rfl
  simp [results, hr, h2', h3', asAddr, run_loadMea w g v1 v2 hg]

/-- out of what Cut gives -/
theorem impl_pm (s A B : ByteArray) (fnd : Bool) (w : World) (hA : A.size ≤ 1048576) (hB : B.size ≤ 1048576) (hc : ∀ w, Calls Try.prog 76 #[.string s, .string ⟨#[124]⟩] w fun e w' => e = .returned (.tuple #[.string A, .string B, .bool fnd]) ∧ Below w.heap.size w w') :
    Calls Try.prog 21 #[.string s] w (GivesM w (if fnd then ((pmOf A B).getD ([], [])).1 else []) (if fnd then ((pmOf A B).getD ([], [])).2 else []) (fnd && (pmOf A B).isSome)) := by
  have hR := Box2.new 26 w (.slice none 0 0) (.slice none 0 0)
  have HR := Lib.hid hR; have HB := Lib.hid (Below.alloc1 w (.cells #[.slice none 0 0, .slice none 0 0] 26))
  have HC := Lib.hid hc
  have HA := Lib.hid (fun w => impl_ParseSystem A w hA); have HBB := Lib.hid (fun w => impl_ParseSystem B w hB)
  have HM := Lib.hid (fun w u1 u2 h1 h2 => impl_IsPair (res_ParseSystem A) (res_ParseSystem B) w u1 u2 h1 h2 (by have := len_ParseSystem A; omega) (by have := len_ParseSystem B; omega))
  unfold pmOf
  unfold ok_IsPair at HM
  clear hR hc hA hB
  generalize ok_ParseSystem A = oA at *
  generalize ok_ParseSystem B = oB at *
  generalize pairOk (res_ParseSystem A) (res_ParseSystem B) = oP at *
  generalize res_ParseSystem A = rA at *
  generalize res_ParseSystem B = rB at *
  cases fnd with
  | false =>
    simp only [Bool.false_and, Bool.false_eq_true, if_false]
    go_enter Try.func21, Try.ntmps21
    go_wp2_with fail
    refine (HC.out _).mono ?_
    rintro e w1 ⟨rfl, hb1⟩
    have HR1 := Lib.hid (HR.out.below hb1); have HB1 := Lib.hid (Below.step HB.out hb1)
    clear hb1
    go_wp2_with fail
    refine (HA.out _).mono ?_
    rintro e w2 ⟨v1, rfl, ho2, hb2⟩
    obtain ⟨x1, y1, z1, rfl⟩ := ho2.form'
    have HO2 := Lib.hid ho2; have HR2 := Lib.hid (HR1.out.below hb2); have HB2 := Lib.hid (Below.step HB1.out hb2)
    clear ho2 hb2
    go_wp2_with fail
    refine (HBB.out _).mono ?_
    rintro e w3 ⟨v2, rfl, ho3, hb3⟩
    obtain ⟨x2, y2, z2, rfl⟩ := ho3.form'
    have AP := Lib.hid (show ApartV (.slice x1 y1 z1) (.slice x2 y2 z2) from fun k hk hk' => by have h5 := (HO2.out.lt k hk).2; have h6 := (ho3.lt k hk').1; omega)
    have HO3 := Lib.hid (ho3.below (Below.alloc1 w3 (.cells #[.slice x1 y1 z1, .slice x2 y2 z2] 26))); have HO23 := Lib.hid ((HO2.out.below hb3).below (Below.alloc1 w3 (.cells #[.slice x1 y1 z1, .slice x2 y2 z2] 26)))
    have HR3 := Lib.hid ((HR2.out.below hb3).below (Below.alloc1 w3 (.cells #[.slice x1 y1 z1, .slice x2 y2 z2] 26))); have HB3 := Lib.hid (Below.step (Below.step HB2.out hb3) (Below.alloc1 w3 (.cells #[.slice x1 y1 z1, .slice x2 y2 z2] 26)))
    have HX3 := Lib.hid (Box2.new 26 w3 (.slice x1 y1 z1) (.slice x2 y2 z2))
    have k0 := HX3.out.c0; have k1 := HX3.out.c1
    have g0 := HR3.out.c0; have g1 := HR3.out.c1; have g2 := HR3.out.free 0; have g3 := HR3.out.free 1
    clear ho3 hb3
    go_wp2_with fail
    exact bodyPost_ret (results_ipm _ _ w.heap.size _ _ false ((HR3.out.set0 _).set1 _) rfl rfl) rfl ⟨_, _, rfl, Own.nil _ _, Own.nil _ _, ApartV.nil _, (HB3.out.setCell (p := ⟨w.heap.size, 0, none⟩) (Nat.le_refl _) _).setCell (p := ⟨w.heap.size, 1, none⟩) (Nat.le_refl _) _⟩
  | true =>
    simp only [Bool.true_and, if_true]
    cases oA with
    | false =>
      simp only [Bool.false_and, Bool.false_eq_true, if_false, Option.getD_none, Option.isSome_none]
      go_enter Try.func21, Try.ntmps21
      go_wp2_with fail
      refine (HC.out _).mono ?_
      rintro e w1 ⟨rfl, hb1⟩
      have HR1 := Lib.hid (HR.out.below hb1); have HB1 := Lib.hid (Below.step HB.out hb1)
      clear hb1
      go_wp2_with fail
      refine (HA.out _).mono ?_
      rintro e w2 ⟨v1, rfl, ho2, hb2⟩
      obtain ⟨x1, y1, z1, rfl⟩ := ho2.form'
      have HO2 := Lib.hid ho2; have HR2 := Lib.hid (HR1.out.below hb2); have HB2 := Lib.hid (Below.step HB1.out hb2)
      clear ho2 hb2
      go_wp2_with fail
      refine (HBB.out _).mono ?_
      rintro e w3 ⟨v2, rfl, ho3, hb3⟩
      obtain ⟨x2, y2, z2, rfl⟩ := ho3.form'
      have AP := Lib.hid (show ApartV (.slice x1 y1 z1) (.slice x2 y2 z2) from fun k hk hk' => by have h5 := (HO2.out.lt k hk).2; have h6 := (ho3.lt k hk').1; omega)
      have HO3 := Lib.hid (ho3.below (Below.alloc1 w3 (.cells #[.slice x1 y1 z1, .slice x2 y2 z2] 26))); have HO23 := Lib.hid ((HO2.out.below hb3).below (Below.alloc1 w3 (.cells #[.slice x1 y1 z1, .slice x2 y2 z2] 26)))
      have HR3 := Lib.hid ((HR2.out.below hb3).below (Below.alloc1 w3 (.cells #[.slice x1 y1 z1, .slice x2 y2 z2] 26))); have HB3 := Lib.hid (Below.step (Below.step HB2.out hb3) (Below.alloc1 w3 (.cells #[.slice x1 y1 z1, .slice x2 y2 z2] 26)))
      have HX3 := Lib.hid (Box2.new 26 w3 (.slice x1 y1 z1) (.slice x2 y2 z2))
      have k0 := HX3.out.c0; have k1 := HX3.out.c1
      have g0 := HR3.out.c0; have g1 := HR3.out.c1; have g2 := HR3.out.free 0; have g3 := HR3.out.free 1
      clear ho3 hb3
      go_wp2_with fail
      exact bodyPost_ret (results_ipm _ _ w.heap.size _ _ false ((HR3.out.set0 _).set1 _) rfl rfl) rfl ⟨_, _, rfl, Own.nil _ _, Own.nil _ _, ApartV.nil _, (HB3.out.setCell (p := ⟨w.heap.size, 0, none⟩) (Nat.le_refl _) _).setCell (p := ⟨w.heap.size, 1, none⟩) (Nat.le_refl _) _⟩
    | true =>
      cases oB with
      | false =>
        simp only [Bool.true_and, Bool.false_and, Bool.false_eq_true, if_false, Option.getD_none, Option.isSome_none]
        go_enter Try.func21, Try.ntmps21
        go_wp2_with fail
        refine (HC.out _).mono ?_
        rintro e w1 ⟨rfl, hb1⟩
        have HR1 := Lib.hid (HR.out.below hb1); have HB1 := Lib.hid (Below.step HB.out hb1)
        clear hb1
        go_wp2_with fail
        refine (HA.out _).mono ?_
        rintro e w2 ⟨v1, rfl, ho2, hb2⟩
        obtain ⟨x1, y1, z1, rfl⟩ := ho2.form'
        have HO2 := Lib.hid ho2; have HR2 := Lib.hid (HR1.out.below hb2); have HB2 := Lib.hid (Below.step HB1.out hb2)
        clear ho2 hb2
        go_wp2_with fail
        refine (HBB.out _).mono ?_
        rintro e w3 ⟨v2, rfl, ho3, hb3⟩
        obtain ⟨x2, y2, z2, rfl⟩ := ho3.form'
        have AP := Lib.hid (show ApartV (.slice x1 y1 z1) (.slice x2 y2 z2) from fun k hk hk' => by have h5 := (HO2.out.lt k hk).2; have h6 := (ho3.lt k hk').1; omega)
        have HO3 := Lib.hid (ho3.below (Below.alloc1 w3 (.cells #[.slice x1 y1 z1, .slice x2 y2 z2] 26))); have HO23 := Lib.hid ((HO2.out.below hb3).below (Below.alloc1 w3 (.cells #[.slice x1 y1 z1, .slice x2 y2 z2] 26)))
        have HR3 := Lib.hid ((HR2.out.below hb3).below (Below.alloc1 w3 (.cells #[.slice x1 y1 z1, .slice x2 y2 z2] 26))); have HB3 := Lib.hid (Below.step (Below.step HB2.out hb3) (Below.alloc1 w3 (.cells #[.slice x1 y1 z1, .slice x2 y2 z2] 26)))
        have HX3 := Lib.hid (Box2.new 26 w3 (.slice x1 y1 z1) (.slice x2 y2 z2))
        have k0 := HX3.out.c0; have k1 := HX3.out.c1
        have g0 := HR3.out.c0; have g1 := HR3.out.c1; have g2 := HR3.out.free 0; have g3 := HR3.out.free 1
        clear ho3 hb3
        go_wp2_with fail
        exact bodyPost_ret (results_ipm _ _ w.heap.size _ _ false ((HR3.out.set0 _).set1 _) rfl rfl) rfl ⟨_, _, rfl, Own.nil _ _, Own.nil _ _, ApartV.nil _, (HB3.out.setCell (p := ⟨w.heap.size, 0, none⟩) (Nat.le_refl _) _).setCell (p := ⟨w.heap.size, 1, none⟩) (Nat.le_refl _) _⟩
      | true =>
        cases oP with
        | false =>
          simp only [Bool.true_and, Bool.false_eq_true, if_false, Option.getD_none, Option.isSome_none]
          go_enter Try.func21, Try.ntmps21
          go_wp2_with fail
          refine (HC.out _).mono ?_
          rintro e w1 ⟨rfl, hb1⟩
          have HR1 := Lib.hid (HR.out.below hb1); have HB1 := Lib.hid (Below.step HB.out hb1)
          clear hb1
          go_wp2_with fail
          refine (HA.out _).mono ?_
          rintro e w2 ⟨v1, rfl, ho2, hb2⟩
          obtain ⟨x1, y1, z1, rfl⟩ := ho2.form'
          have HO2 := Lib.hid ho2; have HR2 := Lib.hid (HR1.out.below hb2); have HB2 := Lib.hid (Below.step HB1.out hb2)
          clear ho2 hb2
          go_wp2_with fail
          refine (HBB.out _).mono ?_
          rintro e w3 ⟨v2, rfl, ho3, hb3⟩
          obtain ⟨x2, y2, z2, rfl⟩ := ho3.form'
          have AP := Lib.hid (show ApartV (.slice x1 y1 z1) (.slice x2 y2 z2) from fun k hk hk' => by have h5 := (HO2.out.lt k hk).2; have h6 := (ho3.lt k hk').1; omega)
          have HO3 := Lib.hid (ho3.below (Below.alloc1 w3 (.cells #[.slice x1 y1 z1, .slice x2 y2 z2] 26))); have HO23 := Lib.hid ((HO2.out.below hb3).below (Below.alloc1 w3 (.cells #[.slice x1 y1 z1, .slice x2 y2 z2] 26)))
          have HR3 := Lib.hid ((HR2.out.below hb3).below (Below.alloc1 w3 (.cells #[.slice x1 y1 z1, .slice x2 y2 z2] 26))); have HB3 := Lib.hid (Below.step (Below.step HB2.out hb3) (Below.alloc1 w3 (.cells #[.slice x1 y1 z1, .slice x2 y2 z2] 26)))
          have HX3 := Lib.hid (Box2.new 26 w3 (.slice x1 y1 z1) (.slice x2 y2 z2))
          have k0 := HX3.out.c0; have k1 := HX3.out.c1
          have g0 := HR3.out.c0; have g1 := HR3.out.c1; have g2 := HR3.out.free 0; have g3 := HR3.out.free 1
          clear ho3 hb3
          go_wp2_with fail
          refine (HM.out _ _ _ HO23.out.rd HO3.out.rd).mono ?_
          rintro e w4 ⟨rfl, hb4⟩
          have HR4 := Lib.hid (HR3.out.below hb4); have HB4 := Lib.hid (Below.step HB3.out hb4); have HX4 := Lib.hid (HX3.out.below hb4)
          have HO4 := Lib.hid (HO23.out.below hb4); have HO5 := Lib.hid (HO3.out.below hb4)
          clear g0 g1 g2 g3 k0 k1 hb4
          have k0 := HX4.out.c0; have k1 := HX4.out.c1
          have g0 := HR4.out.c0; have g1 := HR4.out.c1; have g2 := HR4.out.free 0; have g3 := HR4.out.free 1
          go_wp2_with fail
          exact bodyPost_ret (results_ipm _ _ w.heap.size _ _ false ((HR4.out.set0 _).set1 _) rfl rfl) rfl ⟨_, _, rfl, Own.nil _ _, Own.nil _ _, ApartV.nil _, (HB4.out.setCell (p := ⟨w.heap.size, 0, none⟩) (Nat.le_refl _) _).setCell (p := ⟨w.heap.size, 1, none⟩) (Nat.le_refl _) _⟩
        | true =>
          simp only [Bool.true_and, if_true, Option.getD_some, Option.isSome_some]
          go_enter Try.func21, Try.ntmps21
          go_wp2_with fail
          refine (HC.out _).mono ?_
          rintro e w1 ⟨rfl, hb1⟩
          have HR1 := Lib.hid (HR.out.below hb1); have HB1 := Lib.hid (Below.step HB.out hb1)
          clear hb1
          go_wp2_with fail
          refine (HA.out _).mono ?_
          rintro e w2 ⟨v1, rfl, ho2, hb2⟩
          obtain ⟨x1, y1, z1, rfl⟩ := ho2.form'
          have HO2 := Lib.hid ho2; have HR2 := Lib.hid (HR1.out.below hb2); have HB2 := Lib.hid (Below.step HB1.out hb2)
          clear ho2 hb2
          go_wp2_with fail
          refine (HBB.out _).mono ?_
          rintro e w3 ⟨v2, rfl, ho3, hb3⟩
          obtain ⟨x2, y2, z2, rfl⟩ := ho3.form'
          have AP := Lib.hid (show ApartV (.slice x1 y1 z1) (.slice x2 y2 z2) from fun k hk hk' => by have h5 := (HO2.out.lt k hk).2; have h6 := (ho3.lt k hk').1; omega)
          have HO3 := Lib.hid (ho3.below (Below.alloc1 w3 (.cells #[.slice x1 y1 z1, .slice x2 y2 z2] 26))); have HO23 := Lib.hid ((HO2.out.below hb3).below (Below.alloc1 w3 (.cells #[.slice x1 y1 z1, .slice x2 y2 z2] 26)))
          have HR3 := Lib.hid ((HR2.out.below hb3).below (Below.alloc1 w3 (.cells #[.slice x1 y1 z1, .slice x2 y2 z2] 26))); have HB3 := Lib.hid (Below.step (Below.step HB2.out hb3) (Below.alloc1 w3 (.cells #[.slice x1 y1 z1, .slice x2 y2 z2] 26)))
          have HX3 := Lib.hid (Box2.new 26 w3 (.slice x1 y1 z1) (.slice x2 y2 z2))
          have k0 := HX3.out.c0; have k1 := HX3.out.c1
          have g0 := HR3.out.c0; have g1 := HR3.out.c1; have g2 := HR3.out.free 0; have g3 := HR3.out.free 1
          clear ho3 hb3
          go_wp2_with fail
          refine (HM.out _ _ _ HO23.out.rd HO3.out.rd).mono ?_
          rintro e w4 ⟨rfl, hb4⟩
          have HR4 := Lib.hid (HR3.out.below hb4); have HB4 := Lib.hid (Below.step HB3.out hb4); have HX4 := Lib.hid (HX3.out.below hb4)
          have HO4 := Lib.hid (HO23.out.below hb4); have HO5 := Lib.hid (HO3.out.below hb4)
          clear g0 g1 g2 g3 k0 k1 hb4
          have k0 := HX4.out.c0; have k1 := HX4.out.c1
          have g0 := HR4.out.c0; have g1 := HR4.out.c1; have g2 := HR4.out.free 0; have g3 := HR4.out.free 1
          go_wp2_with fail
          have hlt := HR.out.lt; have hs1 := HB1.out.size; have hs2 := HB2.out.size; have hr1 := HR1.out.lt; have hr2 := HR2.out.lt
          have G2 : ∀ k, (Value.slice x1 y1 z1).ownBlock = some k → (some w.heap.size : Option Nat) ≠ some k := fun k hk e => by have h5 := (HO4.out.lt k hk).1; simp at e; omega
          have G3 : ∀ k, (Value.slice x2 y2 z2).ownBlock = some k → (some w.heap.size : Option Nat) ≠ some k := fun k hk e => by have h5 := (HO5.out.lt k hk).1; simp at e; omega
          exact bodyPost_ret (results_ipm _ _ w.heap.size _ _ true ((HR4.out.set0 _).set1 _) rfl rfl) rfl ⟨_, _, rfl, (HO4.out.grown (grown_trans grown_setCell grown_setCell) G2).mono hs1, (HO5.out.grown (grown_trans grown_setCell grown_setCell) G3).mono hs2, AP.out, (HB4.out.setCell (p := ⟨w.heap.size, 0, none⟩) (Nat.le_refl _) _).setCell (p := ⟨w.heap.size, 1, none⟩) (Nat.le_refl _) _⟩

theorem impl_ParseMeander (s : ByteArray) (w : World) (hs : s.size ≤ 1048576) : Calls Try.prog 21 #[.string s] w (GivesM w (res1_ParseMeander s) (res2_ParseMeander s) (ok_ParseMeander s)) := by
  unfold res1_ParseMeander res2_ParseMeander ok_ParseMeander
  rcases bar_cases s with h | ⟨i, h1, h2, h3⟩
  · rw [pmS_none h]
    exact impl_pm s s ByteArray.empty false w hs (by simp) (fun w => cut_no s w h)
  · rw [pmS_some h1 h2 h3]
    have := impl_pm s (s.extract 0 i) (s.extract (i + 1) s.size) true w (by rw [ByteArray.size_extract]; omega) (by rw [ByteArray.size_extract]; omega) (fun w => cut_yes s i w (by omega) h1 h2 h3)
    simpa using this

end Go.Proofs.Ytbinpefogecgmab
