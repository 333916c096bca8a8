/- MeanderWith: the program's function and the model's. -/
import Derived.Test.YtpanajnlkacmdabMeAll2
namespace Go.Proofs.Ytpanajnlkacmdab
open Go.RowKit
set_option linter.unusedSimpArgs false
set_option linter.unusedVariables false

theorem cellsML_get : ∀ (es : List (Value × Value)) (k : Nat), k < es.length → (cellsML es)[k * 2]? = some (es.getD k noV).1 ∧ (cellsML es)[k * 2 + 1]? = some (es.getD k noV).2
  | [], k, h => by simp at h
  | e :: r, 0, _ => ⟨rfl, rfl⟩
  | e :: r, k + 1, h => by
    have := cellsML_get r k (by simpa using h)
    have h1 : (cellsML (e :: r)) = [e.1, e.2] ++ cellsML r := rfl
    rw [h1, List.getElem?_append_right (by simp; omega), List.getElem?_append_right (by simp; omega)]
    have e1 : (k + 1) * 2 - [e.1, e.2].length = k * 2 := by simp; omega
    have e2 : (k + 1) * 2 + 1 - [e.1, e.2].length = k * 2 + 1 := by simp; omega
    rw [e1, e2]
    exact this
theorem OwnML.at {lo n c : Nat} {a : Option Addr} {w : World} {es : List (Value × Value)} {ps : List (List Int × List Int)} (h : OwnML lo w (.slice a n c) es ps) (k : Nat) (hk : k < ps.length) :
    ∃ g, a = some ⟨g, 0, none⟩ ∧ w.cell? ⟨g, k * 2, none⟩ = some (es.getD k noV).1 ∧ w.cell? ⟨g, k * 2 + 1, none⟩ = some (es.getD k noV).2 := by
  have h1 := h.1
  rcases h.1.2 with ⟨_, hn⟩ | ⟨g, cap, cur, hv, hB, hg, hnc, hcm, _⟩
  · omega
  · have hn : n = ps.length := by simp at hv; exact hv.2.1
    have ha : a = some ⟨g, 0, none⟩ := by simp at hv; exact hv.1
    subst ha; subst hn
    have hg2 := cellsML_get es k (by rw [h.2.1]; exact hk)
    refine ⟨g, rfl, ?_, ?_⟩
    · rw [World.ownsRow.cellAt h1 _ (by omega)]; exact hg2.1
    · rw [World.ownsRow.cellAt h1 _ (by omega)]; exact hg2.2

def ok_MeanderWith (x y : Int) : Bool := inB x 0 4 && inB y 0 (((mcJ x.toNat (allL x.toNat)).length : Int) - 1)
def res1_MeanderWith (x y : Int) : List Int := if ok_MeanderWith x y then ((mcJ x.toNat (allL x.toNat)).getD y.toNat ([], [])).1 else []
def res2_MeanderWith (x y : Int) : List Int := if ok_MeanderWith x y then ((mcJ x.toNat (allL x.toNat)).getD y.toNat ([], [])).2 else []
theorem mcJ_at {n k : Nat} (hn : n ≤ 4) (hk : k < (mcJ n (allL n)).length) : goodB ((mcJ n (allL n)).getD k ([], [])).1 = true ∧ goodB ((mcJ n (allL n)).getD k ([], [])).2 = true := by
  have hm : (mcJ n (allL n)).getD k ([], []) ∈ mcJ n (allL n) := by simp [List.getD, hk]
  rw [← among_pairsN] at hm ⊢
  have hp := pairsN_mem (List.mem_filter.1 hm).1
  exact ⟨(mem_good (by omega) hp.1).1, (mem_good (by omega) hp.2).1⟩
theorem ok_MW {x y : Int} (h : ok_MeanderWith x y = true) : ∃ n k : Nat, x = n ∧ y = k ∧ n ≤ 4 ∧ k < (mcJ n (allL n)).length := by
  simp only [ok_MeanderWith, Bool.and_eq_true] at h
  have h1 := inB_iff.1 h.1
  have h2 := inB_iff.1 h.2
  obtain ⟨n, rfl⟩ := Int.eq_ofNat_of_zero_le h1.1
  obtain ⟨k, rfl⟩ := Int.eq_ofNat_of_zero_le h2.1
  rw [Int.toNat_natCast] at h2
  exact ⟨n, k, rfl, rfl, by omega, by omega⟩
theorem len_MeanderWith (x y : Int) : (res1_MeanderWith x y).length ≤ 1000000 ∧ (res2_MeanderWith x y).length ≤ 1000000 := by
  unfold res1_MeanderWith res2_MeanderWith
  cases h : ok_MeanderWith x y with
  | false => simp
  | true =>
    obtain ⟨n, k, rfl, rfl, hn, hk⟩ := ok_MW h
    have := mcJ_at hn hk
    have l1 := good_len' this.1
    have l2 := good_len' this.2
    simp only [if_true, Int.toNat_natCast]
    omega

theorem results_mwimpl (tmps : Array Value) (w : World) (g : Nat) (v1 v2 : Value) (ok : Bool) (hg : Box2 45 w g v1 v2) (h2 : tmps.getD 4 undef = .pointer (some ⟨g, 0, none⟩)) (h3 : tmps.getD 5 undef = .bool ok) :
    (results Try.f33 tmps).run Try.prog w = .ok (.tuple #[.agg #[v1, v2], .bool ok]) w := by
  have h2' : tmps[4]?.getD undef = .pointer (some ⟨g, 0, none⟩) := by simpa using h2
  have h3' : tmps[5]?.getD undef = .bool ok := by simpa using h3
  have hr : Try.f33.results = #[.cell 4 45, .tmp 5] := by kernel_rfl
  simp [results, hr, h2', h3', asAddr, run_loadMea w g v1 v2 hg]

set_option maxHeartbeats 4000000 in
theorem impl_MeanderWith (x y : Int) (w : World) : Calls Try.prog 33 #[.int .i64 x, .int .i64 y] w (GivesM w (res1_MeanderWith x y) (res2_MeanderWith x y) (ok_MeanderWith x y)) := by
  have hR := Box2.new 45 w (.slice none 0 0) (.slice none 0 0)
  have B1 : Below w.heap.size w (w.alloc (.cells #[.slice none 0 0, .slice none 0 0] 45)) := Below.alloc1 _ _
  have HR := Lib.hid hR; have HB1 := Lib.hid B1
  clear hR B1
  by_cases h : 0 ≤ x ∧ x ≤ 4
  · obtain ⟨n, rfl⟩ := Int.eq_ofNat_of_zero_le h.1
    have hn : n ≤ 4 := by omega
    have hb := inB_yes h.1 h.2
    have HPO := Lib.hid (fun w => pairsOf_any n hn w)
    have HAM := Lib.hid (fun B w v ho => amongN_any n hn B w v ho)
    have hlen : (mcJ n (allL n)).length ≤ 1000 := Nat.le_trans (mcJ_le n hn _) (by have := allL_14 hn; omega)
    have hat := fun k (hk : k < (mcJ n (allL n)).length) => mcJ_at hn hk
    unfold res1_MeanderWith res2_MeanderWith ok_MeanderWith
    rw [hb, Int.toNat_natCast, Bool.true_and]
    generalize mcJ n (allL n) = M at *
    have HB := Lib.hid hb
    by_cases hy : 0 ≤ y ∧ y ≤ (M.length : Int) - 1
    · rw [inB_yes hy.1 hy.2]
      simp only [if_true]
      obtain ⟨k, rfl⟩ := Int.eq_ofNat_of_zero_le hy.1
      have hk : k < M.length := by omega
      rw [Int.toNat_natCast]
      have hg := hat k hk
      have hpm := fun w => pairMeander_any (M.getD k ([], [])).1 (M.getD k ([], [])).2 w (good_len' hg.1) (good_len' hg.2)
      have hgk : ∀ (w : World) (g : Nat), (∀ k, k < M.length → w.rangeAt g (k * 26) (pairC (M.getD k ([], [])).1 (M.getD k ([], [])).2).toList) → w.rangeAt g (k * 26) (pairC (M.getD k ([], [])).1 (M.getD k ([], [])).2).toList := fun w g h => h k hk
      generalize M.getD k ([], []) = p at hpm hgk ⊢
      obtain ⟨t, b⟩ := p
      simp only at hpm hgk ⊢
      have HPM := Lib.hid hpm; have HGK := Lib.hid hgk
      clear hb h hy hat hg hpm hgk
      go_enter Try.func33, Try.ntmps33
      go_wp2_with (first
        | (go_at_call 55; refine (isListedCount_any _ _).mono ?_; rintro e w' ⟨rfl, rfl⟩; rw [HB.out])
        | (go_at_call 56; ((with_reducible refine (HPO.out _).mono ?_); rintro e w2 ⟨pv, rfl, hop, hb2⟩; have HOP := Lib.hid hop; have HR2 := Lib.hid (HR.out.below hb2); have HB2 := Lib.hid (Below.step HB1.out hb2); obtain ⟨pa, pc, rfl, _⟩ := hop.form; clear hop hb2))
        | (go_at_call 48; ((with_reducible refine (HAM.out _ _ _ HOP.out).mono ?_); rintro e w3 ⟨mv, rfl, hom, hb3⟩; have HR3 := Lib.hid (HR2.out.below hb3); have HB3 := Lib.hid (Below.step HB2.out hb3); obtain ⟨ma, mc, rfl, hm1, hm2⟩ := hom.form; unfold maxLen at hm2; obtain ⟨g, rfl, _, _, _, hrg, _⟩ := hom.at (by omega); have HRG := Lib.hid (HGK.out _ _ hrg); clear hom hb3 hrg))
        | (with_reducible refine boxP_load rfl (.tmp 25) rfl g (k * 26) t b rfl HRG.out ?_)
        | (go_at_call 57; ((with_reducible refine (HPM.out _).mono ?_); rintro e w4 ⟨v1, v2, rfl, o1, o2, ap, hb4⟩; have hr4 := HR3.out.below hb4; have c0 := hr4.c0; have c1 := hr4.c1; have f0 := hr4.free 0; have f1 := hr4.free 1; have HLT := Lib.hid HR3.out.lt; have HR4 := Lib.hid hr4; have HB4 := Lib.hid (Below.step HB3.out hb4); obtain ⟨x1, y1, z1, rfl⟩ := o1.form'; obtain ⟨x2, y2, z2, rfl⟩ := o2.form'; have HO1 := Lib.hid o1; have HO2 := Lib.hid o2; have HAP := Lib.hid ap; clear hr4 hb4 o1 o2 ap)))
      have hz := HLT.out
      exact bodyPost_ret (results_mwimpl _ _ w.heap.size _ _ true ((HR4.out.set0 _).set1 _) rfl rfl) rfl ⟨_, _, rfl, (HO1.out.set2 hz _ _).mono (by have := HB3.out.size; omega), (HO2.out.set2 hz _ _).mono (by have := HB3.out.size; omega), HAP.out, (HB4.out.setCell (p := ⟨w.heap.size, 0, none⟩) (Nat.le_refl _) _).setCell (p := ⟨w.heap.size, 1, none⟩) (Nat.le_refl _) _⟩
    · rw [inB_no hy]
      simp only [Bool.false_eq_true, if_false]
      by_cases hy0 : y < 0
      · clear hb h hy hat
        go_enter Try.func33, Try.ntmps33
        go_wp2_with (first
          | (go_at_call 55; refine (isListedCount_any _ _).mono ?_; rintro e w' ⟨rfl, rfl⟩; rw [HB.out])
          | (go_at_call 56; ((with_reducible refine (HPO.out _).mono ?_); rintro e w2 ⟨pv, rfl, hop, hb2⟩; have HOP := Lib.hid hop; have HR2 := Lib.hid (HR.out.below hb2); have HB2 := Lib.hid (Below.step HB1.out hb2); obtain ⟨pa, pc, rfl, _⟩ := hop.form; clear hop hb2))
          | (go_at_call 48; ((with_reducible refine (HAM.out _ _ _ HOP.out).mono ?_); rintro e w3 ⟨mv, rfl, hom, hb3⟩; have hr3 := HR2.out.below hb3; have c0 := hr3.c0; have c1 := hr3.c1; have f0 := hr3.free 0; have f1 := hr3.free 1; have HR3 := Lib.hid hr3; have HB3 := Lib.hid (Below.step HB2.out hb3); obtain ⟨ma, mc, rfl, hm1, hm2⟩ := hom.form; unfold maxLen at hm2; clear hr3 hom hb3)))
        exact bodyPost_ret (results_mwimpl _ _ w.heap.size _ _ false ((HR3.out.set0 _).set1 _) rfl rfl) rfl ⟨_, _, rfl, Own.nil _ _, Own.nil _ _, ApartV.nil _, (HB3.out.setCell (p := ⟨w.heap.size, 0, none⟩) (Nat.le_refl _) _).setCell (p := ⟨w.heap.size, 1, none⟩) (Nat.le_refl _) _⟩
      · have hy1 : (M.length : Int) ≤ y := by omega
        have hy2 : 0 ≤ y := by omega
        clear hb h hy hat hy0
        go_enter Try.func33, Try.ntmps33
        go_wp2_with (first
          | (go_at_call 55; refine (isListedCount_any _ _).mono ?_; rintro e w' ⟨rfl, rfl⟩; rw [HB.out])
          | (go_at_call 56; ((with_reducible refine (HPO.out _).mono ?_); rintro e w2 ⟨pv, rfl, hop, hb2⟩; have HOP := Lib.hid hop; have HR2 := Lib.hid (HR.out.below hb2); have HB2 := Lib.hid (Below.step HB1.out hb2); obtain ⟨pa, pc, rfl, _⟩ := hop.form; clear hop hb2))
          | (go_at_call 48; ((with_reducible refine (HAM.out _ _ _ HOP.out).mono ?_); rintro e w3 ⟨mv, rfl, hom, hb3⟩; have hr3 := HR2.out.below hb3; have c0 := hr3.c0; have c1 := hr3.c1; have f0 := hr3.free 0; have f1 := hr3.free 1; have HR3 := Lib.hid hr3; have HB3 := Lib.hid (Below.step HB2.out hb3); obtain ⟨ma, mc, rfl, hm1, hm2⟩ := hom.form; unfold maxLen at hm2; clear hr3 hom hb3)))
        exact bodyPost_ret (results_mwimpl _ _ w.heap.size _ _ false ((HR3.out.set0 _).set1 _) rfl rfl) rfl ⟨_, _, rfl, Own.nil _ _, Own.nil _ _, ApartV.nil _, (HB3.out.setCell (p := ⟨w.heap.size, 0, none⟩) (Nat.le_refl _) _).setCell (p := ⟨w.heap.size, 1, none⟩) (Nat.le_refl _) _⟩
  · have hb := inB_no (lo := 0) (hi := 4) (n := x) h
    have e1 : ok_MeanderWith x y = false := by unfold ok_MeanderWith; rw [hb]; rfl
    unfold res1_MeanderWith res2_MeanderWith
    rw [e1]
    simp only [Bool.false_eq_true, if_false]
    have HB := Lib.hid hb
    clear hb h e1
    go_enter Try.func33, Try.ntmps33
    go_wp2_with (go_at_call 55; refine (isListedCount_any _ _).mono ?_; rintro e w' ⟨rfl, rfl⟩; rw [HB.out])
    first
      | exact bodyPost_ret (results_mwimpl _ _ w.heap.size _ _ false HR.out rfl rfl) rfl ⟨_, _, rfl, Own.nil _ _, Own.nil _ _, ApartV.nil _, HB1.out⟩
      | exact bodyPost_ret (results_mwimpl _ _ w.heap.size _ _ false ((HR.out.set0 _).set1 _) rfl rfl) rfl ⟨_, _, rfl, Own.nil _ _, Own.nil _ _, ApartV.nil _, (HB1.out.setCell (p := ⟨w.heap.size, 0, none⟩) (Nat.le_refl _) _).setCell (p := ⟨w.heap.size, 1, none⟩) (Nat.le_refl _) _⟩

theorem results_mwspec (tmps : Array Value) (w : World) (g : Nat) (v1 v2 : Value) (ok : Bool) (hg : Box2 45 w g v1 v2) (h2 : tmps.getD 4 undef = .pointer (some ⟨g, 0, none⟩)) (h3 : tmps.getD 5 undef = .bool ok) :
    (results Try.f32 tmps).run Try.prog w = .ok (.tuple #[.agg #[v1, v2], .bool ok]) w := by
  have h2' : tmps[4]?.getD undef = .pointer (some ⟨g, 0, none⟩) := by simpa using h2
  have h3' : tmps[5]?.getD undef = .bool ok := by simpa using h3
  have hr : Try.f32.results = #[.cell 4 45, .tmp 5] := by kernel_rfl
  simp [results, hr, h2', h3', asAddr, run_loadMea w g v1 v2 hg]

set_option maxHeartbeats 4000000 in
theorem spec_MeanderWith (x y : Int) (w : World) : Calls Try.prog 32 #[.int .i64 x, .int .i64 y] w (GivesM w (res1_MeanderWith x y) (res2_MeanderWith x y) (ok_MeanderWith x y)) := by
  have hR := Box2.new 45 w (.slice none 0 0) (.slice none 0 0)
  have B1 : Below w.heap.size w (w.alloc (.cells #[.slice none 0 0, .slice none 0 0] 45)) := Below.alloc1 _ _
  have HR := Lib.hid hR; have HB1 := Lib.hid B1
  clear hR B1
  by_cases h : 0 ≤ x ∧ x ≤ 4
  · obtain ⟨n, rfl⟩ := Int.eq_ofNat_of_zero_le h.1
    have hn : n ≤ 4 := by omega
    have hb := inB_yes h.1 h.2
    have HM := Lib.hid (fun w => meAll_any n hn w)
    have hlen : (mcJ n (allL n)).length ≤ 1000 := Nat.le_trans (mcJ_le n hn _) (by have := allL_14 hn; omega)
    unfold res1_MeanderWith res2_MeanderWith ok_MeanderWith
    rw [hb, Int.toNat_natCast, Bool.true_and]
    generalize mcJ n (allL n) = M at *
    have HB := Lib.hid hb
    have HIN := Lib.hid (fun w => l1In_any y 0 ((M.length : Int) - 1) w)
    by_cases hy : 0 ≤ y ∧ y ≤ (M.length : Int) - 1
    · have hi := inB_yes hy.1 hy.2
      rw [hi] at HIN ⊢
      simp only [if_true]
      obtain ⟨k, rfl⟩ := Int.eq_ofNat_of_zero_le hy.1
      have hk : k < M.length := by omega
      rw [Int.toNat_natCast]
      clear hb h hy hi
      go_enter Try.func32, Try.ntmps32
      go_wp2_with (first
        | (go_at_call 53; refine (meListed_any _ _).mono ?_; rintro e w' ⟨rfl, rfl⟩; rw [HB.out])
        | (go_at_call 51; ((with_reducible refine (HIN.out _).mono ?_); rintro e w' ⟨rfl, rfl⟩))
        | (go_at_call 54; ((with_reducible refine (HM.out _).mono ?_); rintro e w2 ⟨v, es, rfl, ho, hb2⟩; obtain ⟨ma, mc, rfl, hm1, hm2⟩ := ho.form; unfold maxLen at hm2; obtain ⟨g, rfl, d0, d1⟩ := ho.at k hk; obtain ⟨o1, o2, ap⟩ := ho.2.2 k hk; have hr2 := HR.out.below hb2; have c0 := hr2.c0; have c1 := hr2.c1; have f0 := hr2.free 0; have f1 := hr2.free 1; have HR2 := Lib.hid hr2; have HB2 := Lib.hid (Below.step HB1.out hb2); generalize (es.getD k noV).1 = v1 at *; generalize (es.getD k noV).2 = v2 at *; obtain ⟨x1, y1, z1, rfl⟩ := o1.form'; obtain ⟨x2, y2, z2, rfl⟩ := o2.form'; have HO1 := Lib.hid o1; have HO2 := Lib.hid o2; have HAP := Lib.hid ap; clear hr2 hb2 o1 o2 ap ho)))
      exact bodyPost_ret (results_mwspec _ _ w.heap.size _ _ true ((HR2.out.set0 _).set1 _) rfl rfl) rfl ⟨_, _, rfl, (HO1.out.set2 (alloc_lt _ _) _ _).mono (by simp), (HO2.out.set2 (alloc_lt _ _) _ _).mono (by simp), HAP.out, (HB2.out.setCell (p := ⟨w.heap.size, 0, none⟩) (Nat.le_refl _) _).setCell (p := ⟨w.heap.size, 1, none⟩) (Nat.le_refl _) _⟩
    · have hi := inB_no hy
      rw [hi] at HIN ⊢
      simp only [Bool.false_eq_true, if_false]
      clear hb h hy hi
      go_enter Try.func32, Try.ntmps32
      go_wp2_with (first
        | (go_at_call 53; refine (meListed_any _ _).mono ?_; rintro e w' ⟨rfl, rfl⟩; rw [HB.out])
        | (go_at_call 51; ((with_reducible refine (HIN.out _).mono ?_); rintro e w' ⟨rfl, rfl⟩))
        | (go_at_call 54; ((with_reducible refine (HM.out _).mono ?_); rintro e w2 ⟨v, es, rfl, ho, hb2⟩; obtain ⟨ma, mc, rfl, hm1, hm2⟩ := ho.form; unfold maxLen at hm2; have hr2 := HR.out.below hb2; have c0 := hr2.c0; have c1 := hr2.c1; have f0 := hr2.free 0; have f1 := hr2.free 1; have HR2 := Lib.hid hr2; have HB2 := Lib.hid (Below.step HB1.out hb2); clear hr2 hb2 ho)))
      exact bodyPost_ret (results_mwspec _ _ w.heap.size _ _ false ((HR2.out.set0 _).set1 _) rfl rfl) rfl ⟨_, _, rfl, Own.nil _ _, Own.nil _ _, ApartV.nil _, (HB2.out.setCell (p := ⟨w.heap.size, 0, none⟩) (Nat.le_refl _) _).setCell (p := ⟨w.heap.size, 1, none⟩) (Nat.le_refl _) _⟩
  · have hb := inB_no (lo := 0) (hi := 4) (n := x) h
    have e1 : ok_MeanderWith x y = false := by unfold ok_MeanderWith; rw [hb]; rfl
    unfold res1_MeanderWith res2_MeanderWith
    rw [e1]
    simp only [Bool.false_eq_true, if_false]
    have HB := Lib.hid hb
    clear hb h e1
    go_enter Try.func32, Try.ntmps32
    go_wp2_with (go_at_call 53; refine (meListed_any _ _).mono ?_; rintro e w' ⟨rfl, rfl⟩; rw [HB.out])
    first
      | exact bodyPost_ret (results_mwspec _ _ w.heap.size _ _ false HR.out rfl rfl) rfl ⟨_, _, rfl, Own.nil _ _, Own.nil _ _, ApartV.nil _, HB1.out⟩
      | exact bodyPost_ret (results_mwspec _ _ w.heap.size _ _ false ((HR.out.set0 _).set1 _) rfl rfl) rfl ⟨_, _, rfl, Own.nil _ _, Own.nil _ _, ApartV.nil _, (HB1.out.setCell (p := ⟨w.heap.size, 0, none⟩) (Nat.le_refl _) _).setCell (p := ⟨w.heap.size, 1, none⟩) (Nat.le_refl _) _⟩

end Go.Proofs.Ytpanajnlkacmdab
