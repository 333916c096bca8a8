/- What the laws on exchanges say (pure): each exchange changes the number of components by one; one that merges, one that splits. -/
import Derived.Test.YtogjclmmjdhfeacCompG
import Derived.Test.YtogjclmmjdhfeacExMath
namespace Go.Proofs.Ytogjclmmjdhfeac
set_option linter.unusedSimpArgs false
set_option linter.unusedVariables false

theorem together_cnt {t b t' : Nat → Nat} {n a a' c c' N : Nat} {k : Nat → Nat} (ht : PairedN t n) (hb : PairedN b n) (ft : Flips t n) (fb : Flips b n) (h : Swap t t' n a a' c c') (hk : Colour t b n N k) (he : k a = k c) : cntW t' b n = cntW t b n + 1 := by
  obtain ⟨m, f | f⟩ := first_cases ht hb h
  · obtain ⟨S, s1, s2, s3⟩ := f.apart ht hb ft fb h
    exact absurd (hk.sep a c h.la h.lc he S s1 s2) s3
  · obtain ⟨S, s1, s2, s3⟩ := f.apart ht hb ft fb h
    exact apart_cnt (h.paired ht ft) hb (h.flips ft) fb h.back.swap ⟨S, s1, s2, s3⟩
theorem differ_cnt {t b t' : Nat → Nat} {n a a' c c' N : Nat} {k : Nat → Nat} (ht : PairedN t n) (hb : PairedN b n) (ft : Flips t n) (fb : Flips b n) (h : Swap t t' n a a' c c') (hk : Colour t b n N k) (hne : k a ≠ k c) : cntW t b n = cntW t' b n + 1 := by
  have h1 := colour_cnt (h.paired ht ft) hb (merged ht hb ft fb h hk hne)
  have h2 := colour_cnt ht hb hk
  have hpos := hk.lt a h.la
  omega
def cOf (t : List Int) (i j : Nat) : Nat := if (i + j) % 2 = 0 then j else par t j
def swB (t : List Int) (p : List Int) : Bool :=
  decide ((p.getD 0 0).toNat < t.length) && decide ((p.getD 1 0).toNat < t.length) && decide ((p.getD 0 0).toNat ≠ cOf t (p.getD 0 0).toNat (p.getD 1 0).toNat) && decide (((p.getD 0 0).toNat + cOf t (p.getD 0 0).toNat (p.getD 1 0).toNat) % 2 = 0) &&
  par (exP t p) (p.getD 0 0).toNat == par t (cOf t (p.getD 0 0).toNat (p.getD 1 0).toNat) && par (exP t p) (cOf t (p.getD 0 0).toNat (p.getD 1 0).toNat) == par t (p.getD 0 0).toNat && par (exP t p) (par t (p.getD 0 0).toNat) == cOf t (p.getD 0 0).toNat (p.getD 1 0).toNat &&
  par (exP t p) (par t (cOf t (p.getD 0 0).toNat (p.getD 1 0).toNat)) == (p.getD 0 0).toNat &&
  allFrom (fun z => z == (p.getD 0 0).toNat || z == par t (p.getD 0 0).toNat || z == cOf t (p.getD 0 0).toNat (p.getD 1 0).toNat || z == par t (cOf t (p.getD 0 0).toNat (p.getD 1 0).toNat) || par (exP t p) z == par t z) 0 t.length
def swCheck (t : List Int) : Bool := (pairsL t).all (swB t)
theorem swC0 : (sysAll 0).all swCheck = true := by kernel_rfl
theorem swC1 : (sysAll 1).all swCheck = true := by kernel_rfl
theorem swC2 : (sysAll 2).all swCheck = true := by kernel_rfl
theorem swC3 : (sysAll 3).all swCheck = true := by kernel_rfl
theorem swC4 : (sysAll 4).all swCheck = true := by kernel_rfl
theorem swC5 : (sysAll 5).all swCheck = true := by kernel_rfl
theorem swC6a : ((sysAll 6).take 33).all swCheck = true := by kernel_rfl
theorem swC6b : (((sysAll 6).drop 33).take 33).all swCheck = true := by kernel_rfl
theorem swC6c : ((((sysAll 6).drop 33).drop 33).take 33).all swCheck = true := by kernel_rfl
theorem swC6d : ((((sysAll 6).drop 33).drop 33).drop 33).all swCheck = true := by kernel_rfl
theorem swC6 : (sysAll 6).all swCheck = true := all_split swC6a (all_split swC6b (all_split swC6c swC6d))
theorem ex_swap {t p : List Int} (h : goodB t = true) (hp : p ∈ pairsL t) : ∃ i j : Nat, p = [(i : Int), (j : Int)] ∧ i < j ∧ j < t.length ∧ Swap (par t) (par (exP t p)) t.length i (par t i) (cOf t i j) (par t (cOf t i j)) := by
  have hc : swCheck t = true := good_all6 swC0 swC1 swC2 swC3 swC4 swC5 swC6 h
  have h1 := List.all_eq_true.1 hc p hp
  obtain ⟨i, j, hij, hj, _, rfl⟩ := pairs_mem.1 hp
  have hg := good_paired h
  unfold swB at h1
  simp only [List.getD_cons_zero, List.getD_cons_succ, Int.toNat_natCast, Bool.and_eq_true, decide_eq_true_eq, beq_iff_eq] at h1
  obtain ⟨⟨⟨⟨⟨⟨⟨⟨a1, a2⟩, a3⟩, a4⟩, a5⟩, a6⟩, a7⟩, a8⟩, a9⟩ := h1
  have lc : cOf t i j < t.length := by
    unfold cOf; split
    · exact hj
    · exact (hg j hj).1
  refine ⟨i, j, rfl, hij, hj, a1, (hg i a1).1, lc, (hg _ lc).1, a3, a4, rfl, rfl, (hg i a1).2.2, (hg _ lc).2.2, a5, a6, a7, a8, fun z hz e1 e2 e3 e4 => ?_⟩
  have := (allFrom_iff _ _ _).1 a9 z (Nat.zero_le _) (by omega)
  simp only [Bool.or_eq_true, beq_iff_eq] at this
  rcases this with (((h | h) | h) | h) | h
  · exact absurd h e1
  · exact absurd h e2
  · exact absurd h e3
  · exact absurd h e4
  · exact h
/-- the colour of a point -/
def colF (t b : List Int) (x : Nat) : Nat := ((colN (par t) (par b) t.length).getD x 0).toNat
theorem col_of {t b : List Int} (gt : goodB t = true) (gb : goodB b = true) (hl : t.length = b.length) : Colour (par t) (par b) t.length (compsL t b) (colF t b) := by
  have h2 := good_paired gb
  rw [← hl] at h2
  exact colour_of (good_paired gt) h2
theorem ex_change {t b : List Int} (gt : goodB t = true) (gb : goodB b = true) (hl : t.length = b.length) {p : List Int} (hp : p ∈ pairsL t) : ∃ i j : Nat, p = [(i : Int), (j : Int)] ∧ i < j ∧ j < t.length ∧
    (colF t b i = colF t b j → compsL (exP t p) b = compsL t b + 1) ∧ (colF t b i ≠ colF t b j → compsL t b = compsL (exP t p) b + 1) := by
  obtain ⟨i, j, e, hij, hj, hs⟩ := ex_swap gt hp
  have hk := col_of gt gb hl
  have g2 := good_paired gb
  have f2 := good_flips gb
  rw [← hl] at g2 f2
  have hcj : colF t b (cOf t i j) = colF t b j := by
    unfold cOf; split
    · rfl
    · exact (hk.same j hj).1
  have hq : (exP t p).length = t.length := exL_length _ _ _
  refine ⟨i, j, e, hij, hj, fun he => ?_, fun hne => ?_⟩
  · have := together_cnt (good_paired gt) g2 (good_flips gt) f2 hs hk (by rw [hcj]; exact he)
    unfold compsL; rw [hq]; exact this
  · have := differ_cnt (good_paired gt) g2 (good_flips gt) f2 hs hk (by rw [hcj]; exact hne)
    unfold compsL; rw [hq]; exact this
theorem ex_by_one {t b : List Int} (gt : goodB t = true) (gb : goodB b = true) (hl : t.length = b.length) {p : List Int} (hp : p ∈ pairsL t) : compsL (exP t p) b = compsL t b + 1 ∨ compsL t b = compsL (exP t p) b + 1 := by
  obtain ⟨i, j, _, _, _, h1, h2⟩ := ex_change gt gb hl hp
  by_cases h : colF t b i = colF t b j
  · exact .inl (h1 h)
  · exact .inr (h2 h)

/-! ### one that merges -/
theorem whereL_yes (c : Int → Bool) : ∀ (n : Nat) (x : Int), x ∈ whereL c n → c x = true
  | 0, x, h => by simp [whereL] at h
  | n + 1, x, h => by
    rw [whereL] at h
    rcases List.mem_append.1 h with h | h
    · exact whereL_yes c n x h
    · split at h
      · next hc => rw [List.mem_singleton] at h; rw [h]; exact hc
      · simp at h
def linkCheck (t : List Int) : Bool := allFrom (fun j => !(decide ((j : Int) < t.getD j 0)) || j == 0 || (pairsL t).any (fun p => p.getD 1 0 == (j : Int))) 0 t.length
theorem linkC0 : (sysAll 0).all linkCheck = true := by kernel_rfl
theorem linkC1 : (sysAll 1).all linkCheck = true := by kernel_rfl
theorem linkC2 : (sysAll 2).all linkCheck = true := by kernel_rfl
theorem linkC3 : (sysAll 3).all linkCheck = true := by kernel_rfl
theorem linkC4 : (sysAll 4).all linkCheck = true := by kernel_rfl
theorem linkC5 : (sysAll 5).all linkCheck = true := by kernel_rfl
theorem linkC6 : (sysAll 6).all linkCheck = true := by kernel_rfl
theorem merge_one {t b : List Int} (gt : goodB t = true) (gb : goodB b = true) (hl : t.length = b.length) (h : 1 < compsL t b) : ∃ p ∈ pairsL t, compsL t b = compsL (exP t p) b + 1 := by
  apply Classical.byContradiction
  intro hno
  have hk := col_of gt gb hl
  have hall : ∀ p ∈ pairsL t, ∀ i j : Nat, p = [(i : Int), (j : Int)] → colF t b i = colF t b j := by
    intro p hp i j e
    obtain ⟨i', j', e', _, _, _, h2⟩ := ex_change gt gb hl hp
    rw [e] at e'
    simp only [List.cons.injEq, and_true] at e'
    obtain ⟨e1, e2⟩ := e'
    have e1' : i = i' := by omega
    have e2' : j = j' := by omega
    subst e1' e2'
    apply Classical.byContradiction
    intro hne
    exact hno ⟨p, hp, h2 hne⟩
  have hc : linkCheck t = true := good_all6 linkC0 linkC1 linkC2 linkC3 linkC4 linkC5 linkC6 gt
  have hbeg : ∀ j, j < t.length → (j : Int) < t.getD j 0 → colF t b j = colF t b 0 := by
    intro j
    induction j using Nat.strongRecOn with
    | _ j ih =>
      intro hj hb
      have h1 := (allFrom_iff _ _ _).1 hc j (Nat.zero_le _) (by omega)
      rw [decide_eq_true hb] at h1
      simp only [Bool.not_true, Bool.false_or, Bool.or_eq_true, beq_iff_eq, List.any_eq_true] at h1
      rcases h1 with rfl | ⟨p, hp, hp1⟩
      · rfl
      · obtain ⟨i', j', hij, hj', hsh, e⟩ := pairs_mem.1 hp
        rw [e] at hp1
        simp only [List.getD_cons_zero, List.getD_cons_succ] at hp1
        have hjj : j' = j := by omega
        subst hjj
        have hbi : (i' : Int) < t.getD i' 0 := by
          have h0 : beginsB t (i' : Int) = true := by
            unfold shareB at hsh
            rw [Bool.or_eq_true] at hsh
            rcases hsh with hsh | hsh
            · rw [Bool.and_eq_true] at hsh
              have := hsh.1
              unfold isOuterB at this
              rw [Bool.and_eq_true] at this
              exact this.1
            · obtain ⟨o, ho, ho2⟩ := List.any_eq_true.1 hsh
              rw [Bool.and_eq_true] at ho2
              have h5 := ho2.1
              unfold archB justB at h5
              rw [Bool.or_eq_true] at h5
              rcases h5 with h5 | h5
              · have h6 := of_decide_eq_true h5
                rw [h6]
                unfold beginsL at ho
                exact whereL_yes _ _ _ ho
              · simp only [Bool.and_eq_true] at h5
                exact h5.1.1.1
          unfold beginsB at h0
          rw [Int.toNat_natCast] at h0
          exact of_decide_eq_true h0
        rw [← hall p hp i' j' e]
        exact ih i' hij (by omega) hbi
  have hpts : ∀ x, x < t.length → colF t b x = colF t b 0 := by
    intro x hx
    have hg := good_paired gt x hx
    have hcell := good_cell gt x hx
    by_cases hb : (x : Int) < t.getD x 0
    · exact hbeg x hx hb
    · have hc2 := good_cell gt _ hg.1
      rw [hg.2.2] at hc2
      rw [← (hk.same x hx).1]
      exact hbeg _ hg.1 (by rw [hc2]; have := hg.2.1; omega)
  obtain ⟨x, hx, ex⟩ := hk.onto 0 (by omega)
  obtain ⟨y, hy, ey⟩ := hk.onto 1 h
  rw [hpts x hx] at ex
  rw [hpts y hy] at ey
  omega

/-! ### a system with itself -/
def selfCheck (t : List Int) : Bool := cntW (par t) (par t) t.length == t.length / 2
theorem selfC0 : (sysAll 0).all selfCheck = true := by kernel_rfl
theorem selfC1 : (sysAll 1).all selfCheck = true := by kernel_rfl
theorem selfC2 : (sysAll 2).all selfCheck = true := by kernel_rfl
theorem selfC3 : (sysAll 3).all selfCheck = true := by kernel_rfl
theorem selfC4 : (sysAll 4).all selfCheck = true := by kernel_rfl
theorem selfC5 : (sysAll 5).all selfCheck = true := by kernel_rfl
theorem selfC6 : (sysAll 6).all selfCheck = true := by kernel_rfl
theorem comps_own {t : List Int} (h : goodB t = true) : compsL t t = t.length / 2 := by
  have hc : selfCheck t = true := good_all6 selfC0 selfC1 selfC2 selfC3 selfC4 selfC5 selfC6 h
  exact eq_of_beq hc

end Go.Proofs.Ytogjclmmjdhfeac
