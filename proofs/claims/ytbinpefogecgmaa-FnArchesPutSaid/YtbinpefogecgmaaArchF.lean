/- Arches dropped and put back; outer, small and deep ones (pure). -/
import Derived.Test.YtbinpefogecgmaaPutArch
import Derived.Test.YtbinpefogecgmaaDrop2
import Derived.Test.YtbinpefogecgmaaOuter
import Derived.Test.YtbinpefogecgmaaDepths
import Derived.Test.YtbinpefogecgmaaSmall
namespace Go.Proofs.Ytbinpefogecgmaa
set_option linter.unusedSimpArgs false
set_option linter.unusedVariables false

theorem ext_getA {a b : List Int} (hl : a.length = b.length) (h : ∀ i, i < a.length → a.getD i 0 = b.getD i 0) : a = b := by
  refine List.ext_getElem hl fun i h1 h2 => ?_
  have := h i h1
  simpa [List.getD, h1, h2] using this
theorem narrow_widen (i j x : Int) (hij : i < j) : narrowTo i j (widenTo i j x) = x := by
  unfold narrowTo widenTo
  repeat' split
  all_goals omega
theorem widen_narrow (i j y : Int) (hij : i < j) (h1 : y ≠ i) (h2 : y ≠ j) : widenTo i j (narrowTo i j y) = y := by
  unfold narrowTo widenTo
  repeat' split
  all_goals omega
theorem dropM_get (l : List Int) (i j : Nat) : ∀ m, m ≤ l.length - 2 → ∀ k, k < m → (dropM l i j m).getD k 0 = dropF l i j k
  | 0, _, k, hk => by omega
  | m + 1, hm, k, hk => by
    rw [dropM]
    have hl := dropM_length l i j m
    by_cases e : k = m
    · subst e
      simp [List.getD, hl, show k < l.length - 2 by omega]
    · have ih := dropM_get l i j m (by omega) k (by omega)
      simp only [List.getD, List.getElem?_set, if_neg (show m ≠ k by omega)] at ih ⊢
      exact ih
def dgCheck (l : List Int) : Bool := (List.range l.length).all fun i => !decide (i < par l i) || goodB (dropM l i (par l i) (l.length - 2))
theorem dgCheck0 : (sysAll 0).all dgCheck = true := by kernel_rfl
theorem dgCheck1 : (sysAll 1).all dgCheck = true := by kernel_rfl
theorem dgCheck2 : (sysAll 2).all dgCheck = true := by kernel_rfl
theorem dgCheck3 : (sysAll 3).all dgCheck = true := by kernel_rfl
theorem dgCheck4 : (sysAll 4).all dgCheck = true := by kernel_rfl
theorem dgCheck5 : (sysAll 5).all dgCheck = true := by kernel_rfl
theorem dgCheck6 : (sysAll 6).all dgCheck = true := by kernel_rfl
theorem drop_good {l : List Int} (hg : goodB l = true) {i : Nat} (hi : i < l.length) (hb : i < par l i) : goodB (dropM l i (par l i) (l.length - 2)) = true := by
  have hc : dgCheck l = true := good_all6 dgCheck0 dgCheck1 dgCheck2 dgCheck3 dgCheck4 dgCheck5 dgCheck6 hg
  unfold dgCheck at hc
  rw [List.all_eq_true] at hc
  have := hc i (List.mem_range.2 hi)
  rw [decide_eq_true hb] at this
  simpa using this
/-- dropped and put back -/
theorem drop_put {l : List Int} (hg : goodB l = true) {i : Nat} (hi : i < l.length) (hb : i < par l i) : putL (dropM l i (par l i) (l.length - 2)) i (par l i) = l := by
  have f := (good_facts hg).2.2.1
  have fi := f i hi
  have hp := par_int fi.1
  have hpl : par l i < l.length := by omega
  have hpn : (l.getD i 0).toNat = par l i := rfl
  have fj : l.getD (par l i) 0 = (i : Int) := by have := fi.2.2.2; rwa [hpn] at this
  have hml : (dropM l i (par l i) (l.length - 2)).length = l.length - 2 := dropM_length l i _ _
  refine ext_getA (by rw [putL_length, hml]; omega) fun x hx => ?_
  rw [putL_length, hml] at hx
  by_cases h1 : x = i
  · subst h1; rw [putL_i hb (by omega), hp]
  · by_cases h2 : x = par l i
    · subst h2; rw [putL_j hb (by omega), fj]
    · obtain ⟨k, hk, hkx⟩ := widen_onto (i := i) (j := par l i) (n := l.length - 2) hb (by omega) x (by omega) h1 h2
      have h3 := putL_k (l := dropM l i (par l i) (l.length - 2)) hb (by omega) k (by omega)
      rw [hkx, Int.toNat_natCast] at h3
      rw [h3, dropM_get l i _ _ (Nat.le_refl _) k hk]
      unfold dropF
      rw [hkx, Int.toNat_natCast]
      have fx := f x (by omega)
      refine widen_narrow _ _ _ (by omega) (fun e => ?_) (fun e => ?_)
      · have h4 := fx.2.2.2
        rw [e, Int.toNat_natCast] at h4
        omega
      · have h4 := fx.2.2.2
        rw [e, Int.toNat_natCast, fj] at h4
        omega
/-- put and dropped again -/
theorem put_drop {l : List Int} {i j : Nat} (hij : i < j) (hj : j < l.length + 2) : dropM (putL l i j) i j (l.length + 2 - 2) = l := by
  refine ext_getA (by rw [dropM_length, putL_length]; omega) fun k hk => ?_
  rw [dropM_length, putL_length] at hk
  rw [dropM_get _ i j _ (by rw [putL_length]; exact Nat.le_refl _) k (by omega)]
  unfold dropF
  rw [putL_k hij hj k (by omega)]
  exact narrow_widen _ _ _ (by omega)
theorem law_drop {l : List Int} {i : Int} (h : ok_DropArch l i = true) : ∃ t : Nat, i = (t : Int) ∧ t < l.length ∧ ok_PutArch (res_DropArch l i) i (l.getD t 0) = true ∧ res_PutArch (res_DropArch l i) i (l.getD t 0) = l := by
  have h0 := h
  unfold ok_DropArch at h
  simp only [Bool.and_eq_true, decide_eq_true_eq] at h
  obtain ⟨⟨hg, h1, h2⟩, hb⟩ := h
  obtain ⟨t, rfl⟩ := Int.eq_ofNat_of_zero_le h1
  have ht : t < l.length := by omega
  have fi := (good_facts hg).2.2.1 t ht
  have hp := par_int fi.1
  unfold beginsB at hb
  rw [decide_eq_true_eq, Int.toNat_natCast] at hb
  have hbp : t < par l t := by omega
  have e := (ok_Drop_yes hg ht hbp).2
  have hl := good_len' hg
  have hgm := drop_good hg ht hbp
  have hpt := drop_put hg ht hbp
  have hml : (dropM l t (par l t) (l.length - 2)).length = l.length - 2 := dropM_length l t _ _
  have hnc : noCrossB l = true := by rw [goodB_eq, Bool.and_eq_true] at hg; exact hg.2
  have ok : ok_PutArch (res_DropArch l (t : Int)) (t : Int) (l.getD t 0) = true := by
    rw [e, ← hp]
    unfold ok_PutArch
    simp only [Bool.and_eq_true, decide_eq_true_eq, Int.toNat_natCast]
    rw [hpt, hml]
    exact ⟨⟨⟨hgm, by omega⟩, by omega, by omega, by omega⟩, hnc⟩
  refine ⟨t, rfl, ht, ok, ?_⟩
  unfold res_PutArch
  rw [ok, if_pos rfl, e, ← hp]
  simp only [Int.toNat_natCast]
  exact hpt
theorem law_put {l : List Int} {i j : Int} (h : ok_PutArch l i j = true) : ∃ t : Nat, i = (t : Int) ∧ t < (res_PutArch l i j).length ∧ ok_DropArch (res_PutArch l i j) i = true ∧ res_DropArch (res_PutArch l i j) i = l ∧ (res_PutArch l i j).getD t 0 = j := by
  have e : res_PutArch l i j = putL l i.toNat j.toNat := by unfold res_PutArch; rw [h]; rfl
  unfold ok_PutArch at h
  simp only [Bool.and_eq_true, decide_eq_true_eq] at h
  obtain ⟨⟨⟨hg, hl⟩, h1, h2, h3⟩, hn⟩ := h
  obtain ⟨t, rfl⟩ := Int.eq_ofNat_of_zero_le h1
  obtain ⟨u, rfl⟩ := Int.eq_ofNat_of_zero_le (show 0 ≤ j by omega)
  simp only [Int.toNat_natCast] at e hn
  have htu : t < u := by omega
  have hul : u < l.length + 2 := by omega
  have hgp : goodB (putL l t u) = true := by rw [putL_good hg hl htu hul]; exact hn
  have hi := putL_i (l := l) htu hul
  have hpar : par (putL l t u) t = u := by unfold par; rw [hi]; rfl
  have hln := putL_length l t u
  have f := ok_Drop_yes hgp (i := t) (by omega) (by omega)
  rw [e]
  refine ⟨t, rfl, by omega, f.1, ?_, hi⟩
  rw [f.2, hpar, hln]
  exact put_drop htu hul
/-- what the law counts over the arch x, y -/
def cntY (l : List Int) (x y : Int) : Nat → Nat
  | 0 => 0
  | u + 1 => cntY l x y u + if (u : Int) < x ∧ y < l.getD u 0 then 1 else 0
def arcCheck (l : List Int) : Bool := (List.range l.length).all fun (t : Nat) => decide (l.getD t 0 < (t : Int)) || Nat.beq (cntY l (t : Int) (l.getD t 0) l.length) (overN l (t : Int) t)
theorem arcCheck0 : (sysAll 0).all arcCheck = true := by kernel_rfl
theorem arcCheck1 : (sysAll 1).all arcCheck = true := by kernel_rfl
theorem arcCheck2 : (sysAll 2).all arcCheck = true := by kernel_rfl
theorem arcCheck3 : (sysAll 3).all arcCheck = true := by kernel_rfl
theorem arcCheck4 : (sysAll 4).all arcCheck = true := by kernel_rfl
theorem arcCheck5 : (sysAll 5).all arcCheck = true := by kernel_rfl
theorem arcCheck6 : (sysAll 6).all arcCheck = true := by kernel_rfl
theorem arc_over {l : List Int} (hg : goodB l = true) {t : Nat} (ht : t < l.length) (hb : (t : Int) < l.getD t 0) : cntY l (t : Int) (l.getD t 0) l.length = overN l (t : Int) t := by
  have hc : arcCheck l = true := good_all6 arcCheck0 arcCheck1 arcCheck2 arcCheck3 arcCheck4 arcCheck5 arcCheck6 hg
  unfold arcCheck at hc
  rw [List.all_eq_true] at hc
  have := hc t (List.mem_range.2 ht)
  rw [decide_eq_false (by omega), Bool.false_or] at this
  exact Nat.eq_of_beq_eq_true this
def smallCheck (l : List Int) : Bool := Nat.beq l.length 0 || Nat.blt 0 (whereL (isSmallB l) l.length).length
theorem smallCheck0 : (sysAll 0).all smallCheck = true := by kernel_rfl
theorem smallCheck1 : (sysAll 1).all smallCheck = true := by kernel_rfl
theorem smallCheck2 : (sysAll 2).all smallCheck = true := by kernel_rfl
theorem smallCheck3 : (sysAll 3).all smallCheck = true := by kernel_rfl
theorem smallCheck4 : (sysAll 4).all smallCheck = true := by kernel_rfl
theorem smallCheck5 : (sysAll 5).all smallCheck = true := by kernel_rfl
theorem smallCheck6 : (sysAll 6).all smallCheck = true := by kernel_rfl
theorem small_some {l : List Int} (hg : goodB l = true) : l.length = 0 ∨ 0 < (whereL (isSmallB l) l.length).length := by
  have hc : smallCheck l = true := good_all6 smallCheck0 smallCheck1 smallCheck2 smallCheck3 smallCheck4 smallCheck5 smallCheck6 hg
  unfold smallCheck at hc
  rw [Bool.or_eq_true] at hc
  rcases hc with hc | hc
  · exact .inl (Nat.eq_of_beq_eq_true hc)
  · exact .inr (by have h1 : 1 ≤ (whereL (isSmallB l) l.length).length := by simpa [Nat.blt] using hc
                   omega)
/-- a chosen point stands where as many are chosen before it -/
theorem whereL_at (c : Int → Bool) : ∀ (n t : Nat), t < n → c (t : Int) = true → (whereL c t).length < (whereL c n).length ∧ (whereL c n).getD (whereL c t).length 0 = (t : Int)
  | 0, t, ht, _ => by omega
  | n + 1, t, ht, hc => by
    rw [whereL]
    by_cases e : t = n
    · subst e
      rw [if_pos hc]
      simp [List.getD]
    · have ih := whereL_at c n t (by omega) hc
      refine ⟨by rw [List.length_append]; omega, ?_⟩
      rw [← ih.2]
      simp only [List.getD, List.getElem?_append_left ih.1]
theorem whereL_is {c : Int → Bool} : ∀ {n : Nat} {x : Int}, x ∈ whereL c n → ∃ t : Nat, t < n ∧ x = (t : Int) ∧ c x = true
  | 0, x, h => by simp [whereL] at h
  | n + 1, x, h => by
    rw [whereL, List.mem_append] at h
    rcases h with h | h
    · obtain ⟨t, h1, h2, h3⟩ := whereL_is h
      exact ⟨t, by omega, h2, h3⟩
    · split at h
      · next hc =>
        simp only [List.mem_singleton] at h
        exact ⟨n, by omega, h, by rw [h]; exact hc⟩
      · simp at h

end Go.Proofs.Ytbinpefogecgmaa
