/- The model's faces. FacesOf on both sides. -/
import Derived.Test.YteeoepbbocdchaaExMath
import Derived.Test.YteeoepbbocdchaaGood
import Derived.Test.YteeoepbbocdchaaListsLaw
namespace Go.Proofs.Yteeoepbbocdchaa
open Go.RowKit
set_option linter.unusedSimpArgs false
set_option linter.unusedVariables false

theorem face_facts {l : List Int} (h : goodB l = true) : chainL l (l.length + 1) 0 l.length [] = outerL l ∧ chainOk l (l.length + 1) 0 l.length = true ∧
    ∀ i, i < l.length → i < par l i → chainL l (l.length + 1) (i + 1) (par l i) [(i : Int)] = underL' l i ∧ chainOk l (l.length + 1) (i + 1) (par l i) = true := by
  have := face_check h
  unfold faceCheck at this
  simp only [Bool.and_eq_true, beq_iff_eq, List.all_eq_true, List.mem_range, Bool.or_eq_true, Bool.not_eq_true', decide_eq_false_iff_not] at this
  refine ⟨this.1.1, this.1.2, fun i hi hp => ?_⟩
  rcases this.2 i hi with h | h
  · exact absurd hp h
  · exact h
theorem chain_end {l : List Int} {f k e : Nat} {out R : List Int} (h : chainL l f k e out = R) (hk : ¬ k < e) : out = R := by
  cases f with
  | zero => exact h
  | succ f => rw [chainL, if_neg hk] at h; exact h
theorem chain_step {l : List Int} {f k e : Nat} {out R : List Int} (h : chainL l (f + 1) k e out = R) (hk : k < e) : chainL l f (par l k + 1) e (out ++ [(k : Int)]) = R := by
  rw [chainL, if_pos hk] at h; exact h
theorem chainOk_step {l : List Int} {f k e : Nat} (h : chainOk l (f + 1) k e = true) (hk : k < e) : k < par l k ∧ par l k < e ∧ chainOk l f (par l k + 1) e = true := by
  rw [chainOk, decide_eq_true hk] at h
  simpa [and_assoc] using h
/-- the faces among the first k points -/
def faceK (l : List Int) (k : Nat) : List (List Int) := outerL l :: (whereL (beginsB l) k).map (underL' l)
theorem faceK_all (l : List Int) : faceK l l.length = faceW l := rfl
theorem faceK_yes {l : List Int} {k : Nat} (h : beginsB l (k : Int) = true) : faceK l (k + 1) = faceK l k ++ [underL' l (k : Int)] := by
  unfold faceK
  rw [whereL, h, if_pos rfl, List.map_append]; rfl
theorem faceK_no {l : List Int} {k : Nat} (h : beginsB l (k : Int) = false) : faceK l (k + 1) = faceK l k := by
  unfold faceK
  rw [whereL, h]; simp
theorem faceK_len (l : List Int) (k : Nat) : (faceK l k).length ≤ k + 1 := by
  have := whereL_len (beginsB l) k
  simp [faceK]; omega

set_option maxHeartbeats 8000000 in
set_option maxRecDepth 100000 in
theorem exFaces_any (l : List Int) (w : World) (u : Value) (h : Rd w u l) (hg : goodB l = true) : Calls Try.prog 77 #[u] w (MadeLL w (faceW l)) := by
  have hl12 := good_len' hg
  have hr : ∀ k, k < l.length → 0 ≤ l.getD k 0 ∧ l.getD k 0 < l.length ∧ l.getD k 0 ≠ k := fun k hk => ⟨((good_facts hg).2.2.1 k hk).1, ((good_facts hg).2.2.1 k hk).2.1, ((good_facts hg).2.2.1 k hk).2.2.1⟩
  obtain ⟨hrun, hok, hin⟩ := face_facts hg
  have hfl : ∀ k, k ≤ l.length → (faceK l k).length ≤ 13 := fun k hk => by have := faceK_len l k; omega
  rw [← faceK_all]
  obtain ⟨a, c, rfl, hlc, hcm, hnc, hrd⟩ := h
  have hsrc : ∀ k, k < l.length → ∃ bb off, a = some ⟨bb, off, none⟩ ∧ ∀ wq, Below w.heap.size w wq → wq.cell? ⟨bb, off + k, none⟩ = some (.int .i64 ((par l k : Nat) : Int)) := by
    intro k hk
    rcases hrd with h0 | ⟨bb, off, rfl, hcell⟩
    · rw [h0] at hk; simp at hk
    refine ⟨bb, off, rfl, fun wq hq => ?_⟩
    have := hcell k hk
    rw [← par_int (hr k hk).1] at this
    exact (hq.cell (p := ⟨bb, off + k, none⟩) (World.block_lt_of_cell? w _ this)).trans this
  have hpb : ∀ k, k < l.length → par l k < l.length ∧ par l k ≠ k ∧ (beginsB l (k : Int) = decide (k < par l k)) := by
    intro k hk
    have h1 := hr k hk
    have e := par_int h1.1
    refine ⟨by omega, by omega, ?_⟩
    unfold beginsB
    rw [Int.toNat_natCast, ← e, Bool.eq_iff_iff]
    simp
  obtain ⟨n, hn⟩ : ∃ n, n = l.length := ⟨_, rfl⟩
  rw [← hn] at hlc hl12 hrun hok hin hsrc hpb hfl ⊢
  unfold maxLen at hcm
  have HN := Lib.hid hn; have HS := Lib.hid hsrc; have HX := Lib.hid hrun; have HO := Lib.hid hok; have HI := Lib.hid hin; have HP := Lib.hid hpb; have HFL := Lib.hid hfl
  clear hn hr hrd hg hnc hrun hok hin hsrc hpb hfl
  go_enter Try.func77, Try.ntmps77
  go_wp2
  go_loopw [3, 4] (fun o i wr => ∃ (k f : Nat) (out : List Int), k ≤ n ∧ n - k < f ∧ out.length ≤ k ∧ i = .int .i64 k ∧ Own w.heap.size wr o out ∧ Below w.heap.size w wr ∧ Hid (chainL l f k n out = outerL l) ∧ Hid (chainOk l f k n = true)) (fun _ i _ => n - (intOf i).toNat)
  case atStart => exact ⟨0, n + 1, [], by omega, by omega, by simp, rfl, Own.nil _ _, Below.refl _ _, HX.out, HO.out⟩
  case round =>
    obtain ⟨k, f, out, hk, hf, hlen, rfl, hown, hbel, HK, HOK⟩ := hrel
    have hsz := hbel.size
    clear HX HO
    by_cases hlt : k < n
    · obtain ⟨bb, off, rfl, hsr⟩ := HS.out k hlt
      obtain ⟨f, rfl⟩ : ∃ g, f = g + 1 := ⟨f - 1, by omega⟩
      have hst := chainOk_step HOK.out hlt
      have hru := chain_step HK.out hlt
      have hpk := HP.out k hlt
      obtain ⟨j, hj⟩ : ∃ j, j = par l k := ⟨_, rfl⟩
      rw [← hj] at hst hru hpk hsr
      have hkj := hst.1
      have hjn : j < n := hpk.1
      have HRU := Lib.hid hru; have HST := Lib.hid hst.2.2; have HSRC := Lib.hid hsr
      clear hst hru hsr hj hpk HK HOK
      go_wp2_with (at_builtin; refine wp_append _ rfl _ _ rfl w.heap.size _ _ out [(k : Int)] rfl rfl (Own.below hown (Below.alloc1 _ _)) (Own.rd (Own.lit1 _ _ _ (Nat.le_refl _))) (by simp; omega) (by simp; omega) ?_; intro v' w2 hown2 hgr hbel2; have hbel3 := (hbel.alloc hsz _).trans hbel2; have hsrc2 := HSRC.out _ hbel3; clear hgr hbel2)
      go_roundw
      case rel => exact ⟨j + 1, f, _, by omega, by omega, by simp; omega, by go_num, hown2, hbel3, HRU.out, HST.out⟩
      case measure => simp [intOf]; omega
    · obtain rfl : k = n := by omega
      have hfin := chain_end HK.out (by omega)
      rw [hfin] at hown
      clear hfin HK HOK hf hlen
      obtain ⟨p1, p2, p3, rfl⟩ := hown.form'
      generalize wr = w1 at *
      have HL0 := Lib.hid (OwnLL.lit1 w.heap.size w1 (.slice p1 p2 p3) (outerL l) hown hsz)
      have HB0 := Lib.hid (hbel.alloc hsz (.cells #[.slice p1 p2 p3] 22))
      clear hown hbel
      go_wp2
      go_loopw [5, 27] (fun o i wq => ∃ (q : Nat) (vs : List Value), q ≤ k ∧ i = .int .i64 (q : Int) ∧ OwnLL w.heap.size wq.heap.size wq o vs (faceK l q) ∧ Below w.heap.size w wq) (fun _ i _ => k - (intOf i).toNat)
      case atStart => exact ⟨0, _, by omega, rfl, HL0.out.mono (Nat.le_refl _) (by simp) (by simp), HB0.out⟩
      case round =>
        obtain ⟨q, vs, hq, rfl, hown, hbel⟩ := hrel
        generalize wr = wq at *
        clear HL0 HB0
        by_cases hlq : q < k
        · obtain ⟨bb, off, rfl, hsr⟩ := HS.out q hlq
          have hsr0 := hsr _ hbel
          have hpq := HP.out q hlq
          have hinq := HI.out q hlq
          have hfl := HFL.out q hq
          obtain ⟨j, hj⟩ : ∃ j, j = par l q := ⟨_, rfl⟩
          rw [← hj] at hsr0 hpq hinq
          have hjn : j < k := hpq.1
          have hjq : j ≠ q := hpq.2.1
          by_cases hb : q < j
          · have hb1 : beginsB l (q : Int) = true := by rw [hpq.2.2]; exact decide_eq_true hb
            have hfk := faceK_yes hb1
            obtain ⟨hc1, hc2⟩ := hinq hb
            generalize faceK l q = S at *
            generalize underL' l (q : Int) = U at *
            have HFK := Lib.hid hfk; have HC1 := Lib.hid hc1; have HC2 := Lib.hid hc2; have HOW := Lib.hid hown; have HBE := Lib.hid hbel; have HFL2 := Lib.hid hfl
            have hsz := hbel.size
            clear hfk hc1 hc2 hown hbel hpq hinq hsr hj hb1 hfl
            have hqj : ¬ ((j : Int) < (q : Int)) := by omega
            have hqd : decide ((j : Int) < (q : Int)) = false := decide_eq_false hqj
            go_wp2
            go_loopw [8, 9] (fun o i wz => ∃ (x f : Nat) (out : List Int), x ≤ j ∧ j - x < f ∧ out.length ≤ x ∧ i = .int .i64 (x : Int) ∧ Own wq.heap.size wz o out ∧ Below wq.heap.size wq wz ∧ Hid (chainL l f x j out = U) ∧ Hid (chainOk l f x j = true)) (fun _ i _ => j - (intOf i).toNat)
            case atStart => exact ⟨q + 1, k + 1, [(q : Int)], by omega, by omega, by simp, by go_num, Own.lit1 _ _ _ (Nat.le_refl _), Below.alloc1 _ _, HC1.out, HC2.out⟩
            case round =>
              obtain ⟨x, f, out, hx, hf, hlen, rfl, ho, hbz, HK, HOK⟩ := hrel
              generalize wr = wz at *
              clear HC1 HC2 hsr0
              have hsz2 := hbz.size
              by_cases hxj : x < j
              · obtain ⟨bb2, off2, he2, hsr2⟩ := HS.out x (by omega)
                simp only [Option.some.injEq, Addr.mk.injEq, and_true] at he2
                obtain ⟨rfl, rfl⟩ := he2
                obtain ⟨f, rfl⟩ : ∃ g, f = g + 1 := ⟨f - 1, by omega⟩
                have hst := chainOk_step HOK.out hxj
                have hru := chain_step HK.out hxj
                have hpk := HP.out x (by omega)
                obtain ⟨y, hy⟩ : ∃ y, y = par l x := ⟨_, rfl⟩
                rw [← hy] at hst hru hpk hsr2
                have hxy := hst.1
                have hyn : y < k := hpk.1
                have HRU := Lib.hid hru; have HST := Lib.hid hst.2.2; have HSRC := Lib.hid hsr2
                clear hru hsr2 hy hpk HK HOK
                have hyj : y < j := hst.2.1
                clear hst
                go_wp2_with (at_builtin; refine wp_append _ rfl _ _ rfl wq.heap.size _ _ out [(x : Int)] rfl rfl (Own.below ho (Below.alloc1 _ _)) (Own.rd (Own.lit1 _ _ _ (Nat.le_refl _))) (by simp; omega) (by simp; omega) ?_; intro v' w2 hown2 hgr hbel2; have hbel3 := (hbz.alloc hsz2 _).trans hbel2; have hsrc2 := HSRC.out _ (HBE.out.trans (hbel3.mono hsz)); clear hgr hbel2)
                go_roundw
                case rel => exact ⟨y + 1, f, _, by omega, by omega, by simp; omega, by go_num, hown2, hbel3, HRU.out, HST.out⟩
                case measure => simp [intOf]; omega
              · have hfin := chain_end HK.out (by omega)
                rw [hfin] at ho
                clear hfin HK HOK hf hlen
                obtain ⟨p1, p2, p3, rfl⟩ := ho.form'
                have HP2 := Lib.hid ho; have HBZ := Lib.hid hbz
                clear ho hbz
                go_wp2_with (at_builtin; refine wp_appendLL _ rfl (.tmp 51) (.tmp 53) rfl w.heap.size wq.heap.size wq.heap.size wz.heap.size _ (.slice p1 p2 p3) vs S U rfl rfl (cell_lit1 _ _ _) (OwnLL.below HOW.out (HBZ.out.alloc HBZ.out.size _)) (Own.below HP2.out (Below.alloc1 _ _)) (Nat.le_refl _) hsz (by have := HFL2.out; omega) (by have := HBZ.out.size; simp; omega) ?_; intro v' w7 hown7 hgr7 hbel7 _; have HO7 := Lib.hid hown7; have HB7 := Lib.hid ((HBE.out.trans ((HBZ.out.alloc HBZ.out.size _).mono hsz)).trans hbel7); clear hown7 hgr7 hbel7)
                go_roundw
                case rel => exact ⟨q + 1, _, by omega, by go_num, by rw [HFK.out]; exact HO7.out, HB7.out⟩
                case measure => simp [intOf]; omega
          · have hb1 : beginsB l (q : Int) = false := by rw [hpq.2.2]; exact decide_eq_false hb
            have hfk := faceK_no hb1
            have hjq2 : (j : Int) < (q : Int) := by omega
            have HFK := Lib.hid hfk; have HOW := Lib.hid hown; have HBE := Lib.hid hbel
            clear hfk hown hbel hpq hinq hsr hj hb1 hfl
            go_wp2
            go_roundw
            case rel => exact ⟨q + 1, vs, by omega, by go_num, by rw [HFK.out]; exact HOW.out, HBE.out⟩
            case measure => simp [intOf]; omega
        · obtain rfl : q = k := by omega
          obtain ⟨a5, c5, rfl, _⟩ := hown.form
          have HOW := Lib.hid hown; have HBE := Lib.hid hbel
          clear hown hbel
          go_wp2_with fail
          go_ret
          exact ⟨_, vs, rfl, HOW.out, HBE.out⟩

def res_FacesOf (l : List Int) : List (List Int) := if goodB l then faceW l else []
def ok_FacesOf (l : List Int) : Bool := goodB l
theorem faceW_small {l : List Int} (h : goodB l = true) : (faceW l).length ≤ 13 ∧ ∀ k, ((faceW l).getD k []).length ≤ 12 := by
  have hl := good_len' h
  refine ⟨by have := faceK_len l l.length; rw [faceK_all] at this; omega, fun k => ?_⟩
  rcases Nat.lt_or_ge k (faceW l).length with hk | hk
  · have hm : (faceW l).getD k [] ∈ faceW l := by simp [List.getD, hk]
    generalize (faceW l).getD k [] = f at hm
    unfold faceW at hm
    rcases List.mem_cons.1 hm with rfl | hm
    · have := whereL_len (isOuterB l) l.length; unfold outerL; omega
    · obtain ⟨o, _, rfl⟩ := List.mem_map.1 hm
      have := whereL_len (archB l o) l.length; unfold underL'; omega
  · simp [List.getD, List.getElem?_eq_none hk]
theorem len_FacesOf (l : List Int) : tot (res_FacesOf l) ≤ 1000000 ∧ ∀ i, i < (res_FacesOf l).length → ((res_FacesOf l).getD i []).length ≤ 1000000 := by
  unfold res_FacesOf
  split
  · next h =>
    have hf := faceW_small h
    have := tot_le (K := 12) (fun i (_ : i < (faceW l).length) => hf.2 i)
    exact ⟨by omega, fun i _ => Nat.le_trans (hf.2 i) (by omega)⟩
  · exact ⟨by simp [tot], fun i hi => by simp at hi⟩



end Go.Proofs.Yteeoepbbocdchaa
