/- OpenToClosed: the program's function and the model's. -/
import Derived.Test.YtkohmdhjjnmfgabWdFrom
import Derived.Test.YtkohmdhjjnmfgabWdLast
namespace Go.Proofs.Ytkohmdhjjnmfgab
open Go.RowKit
set_option linter.unusedSimpArgs false
set_option linter.unusedVariables false

/-! the joins of a word without its last number -/
theorem crsRow_fuel (l : List Int) (j : Nat) : ∀ (f g i : Nat), j + 1 ≤ i + 2 * f → j + 1 ≤ i + 2 * g → crsRow l j f i = crsRow l j g i
  | 0, g, i, hf, hg => by rw [crsRow_no l j 0 i (by omega), crsRow_no l j g i (by omega)]
  | f + 1, 0, i, hf, hg => by rw [crsRow_no l j (f + 1) i (by omega), crsRow_no l j 0 i (by omega)]
  | f + 1, g + 1, i, hf, hg => by
    rw [crsRow, crsRow]
    by_cases h : i < j
    · rw [if_pos h, if_pos h]
      by_cases c : crsAt l i j = true
      · rw [if_pos c, if_pos c]
      · rw [if_neg c, if_neg c]
        exact crsRow_fuel l j f g (i + 2) (by omega) (by omega)
    · rw [if_neg h, if_neg h]
theorem crsRow_pre {l m : List Int} {j : Nat} (h : ∀ i, i ≤ j + 1 → l.getD i 0 = m.getD i 0) : ∀ (f i : Nat), crsRow l j f i = crsRow m j f i
  | 0, _ => rfl
  | f + 1, i => by
    rw [crsRow, crsRow]
    by_cases hij : i < j
    · rw [if_pos hij, if_pos hij]
      have e : crsAt l i j = crsAt m i j := by unfold crsAt; rw [h i (by omega), h (i + 1) (by omega), h j (by omega), h (j + 1) (by omega)]
      rw [e]
      by_cases c : crsAt m i j = true
      · rw [if_pos c, if_pos c]
      · rw [if_neg c, if_neg c]
        exact crsRow_pre h f (i + 2)
    · rw [if_neg hij, if_neg hij]
theorem crsFrom_pre {l m : List Int} {n : Nat} (hl : n ≤ l.length) (hm : n ≤ m.length) (h : ∀ i, i < n → l.getD i 0 = m.getD i 0) : ∀ (f j : Nat), j + f + 1 ≤ n → ∀ g, crsFrom m (f + g) j = none → crsFrom l f j = none
  | 0, _, _, _, _ => rfl
  | f + 1, j, hj, g, hn => by
    rw [show f + 1 + g = (f + g) + 1 by omega, crsFrom] at hn
    rw [crsFrom]
    have e : crsRow l j (l.length + 1) (j % 2) = crsRow m j (m.length + 1) (j % 2) := by
      rw [crsRow_pre (fun i hi => h i (by omega)), crsRow_fuel m j (l.length + 1) (m.length + 1) (j % 2) (by omega) (by omega)]
    rw [e]
    cases hr : crsRow m j (m.length + 1) (j % 2) with
    | some i => rw [hr] at hn; cases hn
    | none =>
      rw [hr] at hn
      exact crsFrom_pre hl hm h f (j + 1) (by omega) g hn
theorem snoc_get (l : List Int) (x : Int) (i : Nat) (hi : i < l.length) : l.getD i 0 = (l ++ [x]).getD i 0 := by simp [List.getD, List.getElem?_append, hi]
theorem open_pre {l : List Int} {x : Int} (hpos : 0 < l.length) (h : firstCrs (l ++ [x]) = none) : firstCrs l = none := by
  unfold firstCrs at *
  have e : (l ++ [x]).length - 1 = (l.length - 1) + 1 := by simp; omega
  rw [e] at h
  exact crsFrom_pre (n := l.length) (Nat.le_refl _) (by simp) (fun i hi => snoc_get l x i hi) (l.length - 1) 0 (by omega) 1 h
theorem word_snoc {l : List Int} (h : wordB l = true) (h11 : l.length ≤ 11) : wordB (l ++ [(l.length : Int)]) = true := by
  obtain ⟨_, h2, h3⟩ := word_facts h
  have hl : (l ++ [(l.length : Int)]).length = l.length + 1 := by simp
  unfold wordB
  have hr : InRange (l ++ [(l.length : Int)]) := by
    intro i hi
    rw [hl] at hi ⊢
    by_cases e : i < l.length
    · rw [← snoc_get l _ i e]; have := h2 i e; omega
    · have : i = l.length := by omega
      subst this
      simp [List.getD]
      omega
  have hn : (l ++ [(l.length : Int)]).Nodup := by
    rw [List.nodup_append]
    refine ⟨h3, by simp, ?_⟩
    intro a ha b hb e
    rw [List.mem_singleton] at hb
    subst e hb
    obtain ⟨i, hi, e2⟩ := List.getElem_of_mem ha
    have := h2 i hi
    simp [List.getD, hi, e2] at this
  rw [decide_eq_true (by rw [hl]; omega), (range_in _).2 hr, (fresh_iff _).2 hn]
  rfl
theorem closed_snoc {l : List Int} (h : closedB (l ++ [(l.length : Int)]) = true) (hw : wordB l = true) (hpos : 0 < l.length) : openB l = true ∧ l.getD 0 0 = 0 ∧ l.length ≠ 12 := by
  have hlen := closed_len h
  have hcl : (l ++ [(l.length : Int)]).length = l.length + 1 := by simp
  unfold closedB openB closesB at h
  simp only [Bool.and_eq_true, decide_eq_true_eq] at h
  have hf : firstCrs (l ++ [(l.length : Int)]) = none := by
    have := h.1.2
    cases hx : firstCrs (l ++ [(l.length : Int)]) with
    | none => rfl
    | some p => rw [hx] at this; cases this
  refine ⟨?_, ?_, by omega⟩
  · unfold openB
    rw [hw, open_pre hpos hf]
    rfl
  · rw [snoc_get l (l.length : Int) 0 hpos]
    exact h.2.2.2.1

/-- the word with its number of numbers behind -/
def otcL (l : List Int) : List Int := l ++ [(l.length : Int)]
def ok_OpenToClosed (l : List Int) : Bool := wordB l && (decide (l.length % 2 = 1) && closedB (otcL l))
def res1_OpenToClosed (l : List Int) : List Int := if ok_OpenToClosed l then mateL (otcL l) 0 else []
def res2_OpenToClosed (l : List Int) : List Int := if ok_OpenToClosed l then mateL (otcL l) 1 else []
theorem ok_otc {l : List Int} (h : ok_OpenToClosed l = true) : closedB (otcL l) = true := by
  unfold ok_OpenToClosed at h
  simp only [Bool.and_eq_true] at h
  exact h.2.2
theorem len_OpenToClosed (l : List Int) : (res1_OpenToClosed l).length ≤ 1000000 ∧ (res2_OpenToClosed l).length ≤ 1000000 := by
  unfold res1_OpenToClosed res2_OpenToClosed
  cases h : ok_OpenToClosed l with
  | false => simp
  | true =>
    have := closed_len (ok_otc h)
    simp [mateL_length]; omega

theorem results_otc (tmps : Array Value) (w : World) (g : Nat) (v1 v2 : Value) (ok : Bool) (hg : Box2 28 w g v1 v2) (h2 : tmps.getD 2 undef = .pointer (some ⟨g, 0, none⟩)) (h3 : tmps.getD 3 undef = .bool ok) :
    (results Try.f28 tmps).run Try.prog w = .ok (.tuple #[.agg #[v1, v2], .bool ok]) w := by
  have h2' : tmps[2]?.getD undef = .pointer (some ⟨g, 0, none⟩) := by simpa using h2
  have h3' : tmps[3]?.getD undef = .bool ok := by simpa using h3
  have hr : Try.f28.results = #[.cell 2 28, .tmp 3] := by kernel_rfl
  simp [results, hr, h2', h3', asAddr, run_loadMea w g v1 v2 hg]

set_option maxHeartbeats 4000000 in
theorem impl_OpenToClosed (l : List Int) (w : World) (u : Value) (h : Rd w u l) (m : l.length ≤ 1048576) : Calls Try.prog 28 #[u] w (GivesM w (res1_OpenToClosed l) (res2_OpenToClosed l) (ok_OpenToClosed l)) := by
  have hR := Box2.new 28 w (.slice none 0 0) (.slice none 0 0)
  have B1 : Below w.heap.size w (w.alloc (.cells #[.slice none 0 0, .slice none 0 0] 28)) := Below.alloc1 w _
  have hrd := readWord_any u l _ (h.below B1)
  have HRR := Lib.hid hR; have HB := Lib.hid B1
  clear hR B1 h
  cases hg : wordB l with
  | false =>
    have hok : ok_OpenToClosed l = false := by unfold ok_OpenToClosed; rw [hg]; rfl
    unfold res1_OpenToClosed res2_OpenToClosed
    rw [hok]
    rw [hg, selL_no, selI_no] at hrd
    simp only [Bool.false_eq_true, if_false]
    have HR := Lib.hid hrd; have HI := Lib.hid zero12_length
    clear hrd hg hok
    go_enter Try.func28, Try.ntmps28
    go_wp2_with fail
    refine HR.out.mono ?_
    rintro e w1 ⟨rfl, hb1⟩
    have HR1 := Lib.hid (HRR.out.below hb1); have HB1 := Lib.hid (Below.step HB.out hb1)
    clear hb1
    go_wp2_with ((with_reducible refine wp_storeNewWd rfl (.tmp 4) (.tmp 10) rfl w1 [] zero12 (Nat.zero_le _) HI.out rfl rfl ?_); intro w2 hs2 hb2; have HR2 := Lib.hid (HR1.out.below hb2); have HB2 := Lib.hid (Below.step HB1.out hb2); have r0 := HR2.out.c0; have r1 := HR2.out.c1; have r2 := HR2.out.free 0; have r3 := HR2.out.free 1; clear hs2)
    exact bodyPost_ret (results_otc _ _ w.heap.size _ _ false ((HR2.out.set0 _).set1 _) rfl rfl) rfl ⟨_, _, rfl, Own.nil _ _, Own.nil _ _, ApartV.nil _, (HB2.out.setCell (p := ⟨w.heap.size, 0, none⟩) (Nat.le_refl _) _).setCell (p := ⟨w.heap.size, 1, none⟩) (Nat.le_refl _) _⟩
  | true =>
    have hl := word_len hg
    rw [hg, selL_yes, selI_yes] at hrd
    have HR := Lib.hid hrd; have HI : Hid ((idxK l l.length).length = 12) := idxK_length _ _; have HL := Lib.hid hl
    clear hrd
    by_cases hodd : l.length % 2 = 1
    · have h11 : l.length ≤ 11 := by omega
      have hwl := fun w => withLast_any l l.length w hg h11 (Nat.le_refl _)
      rw [lastL_end (word_facts hg).2.1] at hwl
      have hw2 := word_snoc hg h11
      have hl2 := word_len hw2
      have hic := fun w => isClosed_any (l ++ [(l.length : Int)]) w hl2
      rw [← closed_word hw2] at hic
      have he : ok_OpenToClosed l = closedB (l ++ [(l.length : Int)]) := by unfold ok_OpenToClosed otcL; rw [hg, decide_eq_true hodd]; rfl
      unfold res1_OpenToClosed res2_OpenToClosed otcL
      rw [he]
      have hI2 : (idxW (l ++ [(l.length : Int)])).length = 12 := idxK_length _ _
      have HWL := Lib.hid hwl; have HIC := Lib.hid hic; have HL2 := Lib.hid hl2; have HI2 := Lib.hid hI2
      have hwm := fun (hc : closedB (l ++ [(l.length : Int)]) = true) w => wordMeander_any (l ++ [(l.length : Int)]) w hw2 (closed_even hc).2
      have HWM := Lib.hid hwm
      have hpar : ((l.length : Int) % 2 == 0) = false := by simp; omega
      clear hwl hic hl2 hI2 hwm he hw2 hg hodd hl
      generalize hLL : l ++ [(l.length : Int)] = L at *
      clear hLL
      generalize hix2 : idxW L = ix2 at *
      have HIX2 := Lib.hid hix2
      clear hix2
      obtain ⟨n, hn⟩ : ∃ n, n = l.length := ⟨_, rfl⟩
      have HN := Lib.hid hn
      rw [← hn] at HR HI HWL hpar h11
      generalize idxK l n = ix at *
      clear hn
      cases hc : closedB L with
      | true =>
        rw [hc] at HIC
        have hm := HWM.out hc
        have ex : idxK L L.length = ix2 := HIX2.out
        rw [ex] at hm
        have HM := Lib.hid hm
        simp only [if_true]
        clear hm HWM hc ex
        go_enter Try.func28, Try.ntmps28
        go_wp2_with fail
        refine HR.out.mono ?_
        rintro e w1 ⟨rfl, hb1⟩
        have HR1 := Lib.hid (HRR.out.below hb1); have HB1 := Lib.hid (Below.step HB.out hb1)
        clear hb1
        go_wp2_with (first
          | ((with_reducible refine wp_storeNewWd rfl (.tmp 4) (.tmp 10) rfl w1 l ix HL.out HI.out rfl rfl ?_); intro w2 hs2 hb2; have hz := hs2.size HL.out; rw [← HN.out] at hz; have HW2 := Lib.hid hs2; have HR2 := Lib.hid (HR1.out.below hb2); have HB2 := Lib.hid (Below.step HB1.out hb2); clear hs2 hb2)
          | (with_reducible refine wp_loadWd rfl (.tmp 4) rfl w1.heap.size l ix HL.out HI.out rfl HW2.out ?_)
          | (go_at_call 50; refine (HWL.out _).mono ?_; rintro e w3 ⟨rfl, hb3⟩; have HR3 := Lib.hid (HR2.out.below hb3); have HB3 := Lib.hid (Below.step HB2.out hb3); clear hb3)
          | ((with_reducible refine wp_storeNewWd rfl (.tmp 6) (.tmp 26) rfl w3 L ix2 HL2.out HI2.out rfl rfl ?_); intro w4 hs4 hb4; have HW4 := Lib.hid hs4; have HR4 := Lib.hid (HR3.out.below hb4); have HB4 := Lib.hid (Below.step HB3.out hb4); clear hs4 hb4)
          | (with_reducible refine wp_loadPtW rfl (.tmp 27) rfl w3.heap.size L ix2 HL2.out rfl HW4.out ?_)
          | (go_at_call 51; refine (HIC.out _).mono ?_; rintro e w5 ⟨rfl, hb5⟩; have HW5 := Lib.hid (HW4.out.below hb5); have HR5 := Lib.hid (HR4.out.below hb5); have HB5 := Lib.hid (Below.step HB4.out hb5); clear hb5)
          | (with_reducible refine wp_loadWd rfl (.tmp 6) rfl w3.heap.size L ix2 HL2.out HI2.out rfl HW5.out ?_)
          | (go_at_call 47; refine (HM.out _).mono ?_; rintro e w6 ⟨v1, v2, rfl, ho1, ho2, hap, hb6⟩; obtain ⟨x1, y1, z1, rfl⟩ := ho1.form'; obtain ⟨x2, y2, z2, rfl⟩ := ho2.form'; have HR6 := Lib.hid (HR5.out.below hb6); have r0 := HR6.out.c0; have r1 := HR6.out.c1; have r2 := HR6.out.free 0; have r3 := HR6.out.free 1; have HO1 := Lib.hid ho1; have HO2 := Lib.hid ho2; have HAP := Lib.hid hap; have HB6 := Lib.hid (Below.step HB5.out hb6); clear ho1 ho2 hap hb6))
        have hlt := HR5.out.lt
        have G2 : ∀ k, (Value.slice x1 y1 z1).ownBlock = some k → (some w.heap.size : Option Nat) ≠ some k := fun k hk e => by have h5 := (HO1.out.lt k hk).1; simp at e; omega
        have G3 : ∀ k, (Value.slice x2 y2 z2).ownBlock = some k → (some w.heap.size : Option Nat) ≠ some k := fun k hk e => by have h5 := (HO2.out.lt k hk).1; simp at e; omega
        exact bodyPost_ret (results_otc _ _ w.heap.size _ _ true ((HR6.out.set0 _).set1 _) rfl rfl) rfl ⟨_, _, rfl, (HO1.out.grown (grownW_trans grownW_setCell grownW_setCell) G2).mono HB5.out.size, (HO2.out.grown (grownW_trans grownW_setCell grownW_setCell) G3).mono HB5.out.size, HAP.out, (HB6.out.setCell (p := ⟨w.heap.size, 0, none⟩) (Nat.le_refl _) _).setCell (p := ⟨w.heap.size, 1, none⟩) (Nat.le_refl _) _⟩
      | false =>
        rw [hc] at HIC
        simp only [Bool.false_eq_true, if_false]
        clear HWM hc
        go_enter Try.func28, Try.ntmps28
        go_wp2_with fail
        refine HR.out.mono ?_
        rintro e w1 ⟨rfl, hb1⟩
        have HR1 := Lib.hid (HRR.out.below hb1); have HB1 := Lib.hid (Below.step HB.out hb1)
        clear hb1
        go_wp2_with (first
          | ((with_reducible refine wp_storeNewWd rfl (.tmp 4) (.tmp 10) rfl w1 l ix HL.out HI.out rfl rfl ?_); intro w2 hs2 hb2; have hz := hs2.size HL.out; rw [← HN.out] at hz; have HW2 := Lib.hid hs2; have HR2 := Lib.hid (HR1.out.below hb2); have HB2 := Lib.hid (Below.step HB1.out hb2); clear hs2 hb2)
          | (with_reducible refine wp_loadWd rfl (.tmp 4) rfl w1.heap.size l ix HL.out HI.out rfl HW2.out ?_)
          | (go_at_call 50; refine (HWL.out _).mono ?_; rintro e w3 ⟨rfl, hb3⟩; have HR3 := Lib.hid (HR2.out.below hb3); have HB3 := Lib.hid (Below.step HB2.out hb3); clear hb3)
          | ((with_reducible refine wp_storeNewWd rfl (.tmp 6) (.tmp 26) rfl w3 L ix2 HL2.out HI2.out rfl rfl ?_); intro w4 hs4 hb4; have HW4 := Lib.hid hs4; have HR4 := Lib.hid (HR3.out.below hb4); have HB4 := Lib.hid (Below.step HB3.out hb4); clear hs4 hb4)
          | (with_reducible refine wp_loadPtW rfl (.tmp 27) rfl w3.heap.size L ix2 HL2.out rfl HW4.out ?_)
          | (go_at_call 51; refine (HIC.out _).mono ?_; rintro e w5 ⟨rfl, hb5⟩; have HR5 := Lib.hid (HR4.out.below hb5); have HB5 := Lib.hid (Below.step HB4.out hb5); have r0 := HR5.out.c0; have r1 := HR5.out.c1; have r2 := HR5.out.free 0; have r3 := HR5.out.free 1; clear hb5))
        exact bodyPost_ret (results_otc _ _ w.heap.size _ _ false ((HR5.out.set0 _).set1 _) rfl rfl) rfl ⟨_, _, rfl, Own.nil _ _, Own.nil _ _, ApartV.nil _, (HB5.out.setCell (p := ⟨w.heap.size, 0, none⟩) (Nat.le_refl _) _).setCell (p := ⟨w.heap.size, 1, none⟩) (Nat.le_refl _) _⟩
    · have hok : ok_OpenToClosed l = false := by unfold ok_OpenToClosed; rw [decide_eq_false hodd]; simp
      unfold res1_OpenToClosed res2_OpenToClosed
      rw [hok]
      simp only [Bool.false_eq_true, if_false]
      have hpar : ((l.length : Int) % 2 == 0) = true := by simp; omega
      obtain ⟨n, hn⟩ : ∃ n, n = l.length := ⟨_, rfl⟩
      have HN := Lib.hid hn
      rw [← hn] at HR HI hpar
      generalize idxK l n = ix at *
      clear hn hodd hok hg hl
      go_enter Try.func28, Try.ntmps28
      go_wp2_with fail
      refine HR.out.mono ?_
      rintro e w1 ⟨rfl, hb1⟩
      have HR1 := Lib.hid (HRR.out.below hb1); have HB1 := Lib.hid (Below.step HB.out hb1)
      clear hb1
      go_wp2_with ((with_reducible refine wp_storeNewWd rfl (.tmp 4) (.tmp 10) rfl w1 l ix HL.out HI.out rfl rfl ?_); intro w2 hs2 hb2; have hz := hs2.size HL.out; rw [← HN.out] at hz; have HR2 := Lib.hid (HR1.out.below hb2); have HB2 := Lib.hid (Below.step HB1.out hb2); have r0 := HR2.out.c0; have r1 := HR2.out.c1; have r2 := HR2.out.free 0; have r3 := HR2.out.free 1; clear hs2)
      exact bodyPost_ret (results_otc _ _ w.heap.size _ _ false ((HR2.out.set0 _).set1 _) rfl rfl) rfl ⟨_, _, rfl, Own.nil _ _, Own.nil _ _, ApartV.nil _, (HB2.out.setCell (p := ⟨w.heap.size, 0, none⟩) (Nat.le_refl _) _).setCell (p := ⟨w.heap.size, 1, none⟩) (Nat.le_refl _) _⟩

end Go.Proofs.Ytkohmdhjjnmfgab
