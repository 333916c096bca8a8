/- Plain mathematics of components: colourings, that their number is one, and what keeps it. -/
/- Plain mathematics of components: an exchange of two arches changes their number by one; a join of neighbours moves over. -/
/- Components of systems: arches flip the parity, and flipped pairs have as many components (pure). -/
import Derived.Test.YtogjclmmjdhfeacWay
import Derived.Test.YtogjclmmjdhfeacComps
import Derived.Test.YtogjclmmjdhfeacEnum
namespace Go.Proofs.Ytogjclmmjdhfeac
set_option linter.unusedSimpArgs false
set_option linter.unusedVariables false

/-- closed under both sides -/
def Shut (t b : Nat → Nat) (n : Nat) (P : Nat → Prop) : Prop := ∀ z, z < n → P z → P (t z) ∧ P (b z)
structure Colour (t b : Nat → Nat) (n N : Nat) (c : Nat → Nat) : Prop where
  lt : ∀ x, x < n → c x < N
  onto : ∀ q, q < N → ∃ x, x < n ∧ c x = q
  same : ∀ x, x < n → c (t x) = c x ∧ c (b x) = c x
  sep : ∀ x y, x < n → y < n → c x = c y → ∀ P, Shut t b n P → P x → P y

theorem wayN_back {t b : Nat → Nat} {n i : Nat} (ht : PairedN t n) (hb : PairedN b n) (hi : i < n) {y : Nat} (hy : y ∈ wayN t b n i) {P : Nat → Prop} (hP : Shut t b n P) (h : P y) : P i := by
  apply Classical.byContradiction
  intro hn
  have hS : ∀ x, x < n → ¬ P x → ¬ P (t x) ∧ ¬ P (b x) := fun x hx hp =>
    ⟨fun h => hp (by have := (hP _ (ht x hx).1 h).1; rwa [(ht x hx).2.2] at this), fun h => hp (by have := (hP _ (hb x hx).1 h).2; rwa [(hb x hx).2.2] at this)⟩
  exact wayF_all ht hb (fun z => ¬ P z) hS i n i hi hn y hy h
theorem colS_sep {t b : Nat → Nat} {n : Nat} (ht : PairedN t n) (hb : PairedN b n) : ∀ k, k ≤ n → ∀ x y, x < n → y < n → 0 ≤ (colS t b n k).1.getD x 0 → (colS t b n k).1.getD x 0 = (colS t b n k).1.getD y 0 → ∃ i, i < n ∧ x ∈ wayN t b n i ∧ y ∈ wayN t b n i
  | 0, _ => fun x y hx hy h0 => by
    have e : (colS t b n 0).1.getD x 0 = -1 := by simp [colS, List.getD, hx]
    rw [e] at h0; omega
  | k + 1, hk => fun x y hx hy h0 he => by
    have ih := colS_sep ht hb k (by omega) x y hx hy
    have ok := colS_ok ht hb k (by omega)
    rw [colS] at h0 he
    by_cases hc : 0 ≤ (colS t b n k).1.getD k 0
    · rw [if_pos hc] at h0 he; exact ih h0 he
    · rw [if_neg hc] at h0 he
      generalize (colS t b n k).1 = c at *
      generalize (colS t b n k).2 = m at *
      simp only at h0 he
      rw [paint_get _ _ _ _ _ (by rw [ok.len]; exact hx)] at h0 he
      rw [paint_get _ _ _ _ _ (by rw [ok.len]; exact hy)] at he
      have r1 := ok.rng x hx
      have r2 := ok.rng y hy
      by_cases m1 : x ∈ wayN t b n k
      · by_cases m2 : y ∈ wayN t b n k
        · exact ⟨k, by omega, m1, m2⟩
        · rw [if_pos m1, if_neg m2] at he; omega
      · by_cases m2 : y ∈ wayN t b n k
        · rw [if_neg m1, if_pos m2] at he; omega
        · rw [if_neg m1] at h0
          rw [if_neg m1, if_neg m2] at he
          exact ih h0 he
theorem colour_of {t b : Nat → Nat} {n : Nat} (ht : PairedN t n) (hb : PairedN b n) : Colour t b n (cntW t b n) (fun x => ((colN t b n).getD x 0).toNat) := by
  have ok := col_ok ht hb
  have hpos : ∀ x, x < n → 0 ≤ (colN t b n).getD x 0 := fun x hx => ok.done x hx hx
  refine ⟨fun x hx => ?_, fun q hq => ?_, fun x hx => ?_, fun x y hx hy he P hP h => ?_⟩
  · have h1 := ok.rng x hx
    have h2 := hpos x hx
    show ((colN t b n).getD x 0).toNat < _
    omega
  · obtain ⟨y, h1, h2, h3⟩ := ok.full (q : Int) (by omega) (by omega)
    exact ⟨y, h2, by show ((colN t b n).getD y 0).toNat = q; rw [h3]; rfl⟩
  · have h1 := ok.closed x hx
    exact ⟨by show ((colN t b n).getD _ 0).toNat = ((colN t b n).getD _ 0).toNat; rw [h1.1], by show ((colN t b n).getD _ 0).toNat = ((colN t b n).getD _ 0).toNat; rw [h1.2]⟩
  · have he' : ((colN t b n).getD x 0).toNat = ((colN t b n).getD y 0).toNat := he
    have h1 := hpos x hx
    have h2 := hpos y hy
    obtain ⟨i, hi, m1, m2⟩ := colS_sep ht hb n (Nat.le_refl _) x y hx hy h1 (by show (colN t b n).getD x 0 = (colN t b n).getD y 0; omega)
    exact wayF_all ht hb P hP i n i hi (wayN_back ht hb hi m1 hP h) y m2

theorem colour_le {t b t' b' : Nat → Nat} {n n' N N' : Nat} {c c' : Nat → Nat} (h : Colour t b n N c) (h' : Colour t' b' n' N' c') (σ : Nat → Nat) (hσ : ∀ x, x < n → σ x < n')
    (hinj : ∀ x y, x < n → y < n → c' (σ x) = c' (σ y) → c x = c y) : N ≤ N' := by
  apply Classical.byContradiction
  intro hn
  have hch : ∀ q, ∃ x, q < N → x < n ∧ c x = q := fun q => by
    by_cases hq : q < N
    · obtain ⟨x, h1, h2⟩ := h.onto q hq; exact ⟨x, fun _ => ⟨h1, h2⟩⟩
    · exact ⟨0, fun h => absurd h hq⟩
  let r : Nat → Nat := fun q => Classical.choose (hch q)
  have hr : ∀ q, q < N → r q < n ∧ c (r q) = q := fun q hq => Classical.choose_spec (hch q) hq
  obtain ⟨p, q, h1, h2, h3⟩ := pigeon N' (fun q => c' (σ (r q))) (fun k hk => h'.lt _ (hσ _ (hr k (by omega)).1))
  have h4 := hinj _ _ (hr p (by omega)).1 (hr q (by omega)).1 h3
  rw [(hr p (by omega)).2, (hr q (by omega)).2] at h4
  omega
theorem Colour.imp {t b : Nat → Nat} {n N : Nat} {c : Nat → Nat} (ht : PairedN t n) (hb : PairedN b n) (h : Colour t b n N c) {x : Nat} (q : Nat) : Shut t b n (fun z => z < n ∧ c z = q) := fun z hz hp =>
  ⟨⟨(ht z hz).1, (h.same z hz).1.trans hp.2⟩, ⟨(hb z hz).1, (h.same z hz).2.trans hp.2⟩⟩
/-- what is closed under both sides at one place: an embedding that commutes with both -/
theorem colour_map {t b t' b' : Nat → Nat} {n n' N N' : Nat} {c c' : Nat → Nat} (h : Colour t b n N c) (h' : Colour t' b' n' N' c') (ht : PairedN t n) (hb : PairedN b n) (σ : Nat → Nat) (hσ : ∀ x, x < n → σ x < n')
    (hi : ∀ x y, x < n → y < n → σ x = σ y → x = y) (h1 : ∀ x, x < n → t' (σ x) = σ (t x)) (h2 : ∀ x, x < n → b' (σ x) = σ (b x)) : N ≤ N' := by
  refine colour_le h h' σ hσ fun x y hx hy he => ?_
  have := h'.sep (σ x) (σ y) (hσ x hx) (hσ y hy) he (fun z => ∃ u, u < n ∧ σ u = z ∧ c u = c x) (fun z hz ⟨u, hu, e, k⟩ => by
    subst e
    exact ⟨⟨t u, (ht u hu).1, (h1 u hu).symm, (h.same u hu).1.trans k⟩, ⟨b u, (hb u hu).1, (h2 u hu).symm, (h.same u hu).2.trans k⟩⟩) ⟨x, hx, rfl, rfl⟩
  obtain ⟨u, hu, e, k⟩ := this
  rw [← hi u y hu hy e]; exact k.symm
theorem colour_uniq {t b : Nat → Nat} {n N N' : Nat} {c c' : Nat → Nat} (ht : PairedN t n) (hb : PairedN b n) (h : Colour t b n N c) (h' : Colour t b n N' c') : N = N' :=
  Nat.le_antisymm (colour_map h h' ht hb id (fun _ h => h) (fun _ _ _ _ h => h) (fun _ _ => rfl) (fun _ _ => rfl)) (colour_map h' h ht hb id (fun _ h => h) (fun _ _ _ _ h => h) (fun _ _ => rfl) (fun _ _ => rfl))
theorem Colour.flip {t b : Nat → Nat} {n N : Nat} {c : Nat → Nat} (h : Colour t b n N c) : Colour b t n N c :=
  ⟨h.lt, h.onto, fun x hx => ⟨(h.same x hx).2, (h.same x hx).1⟩, fun x y hx hy e P hP => h.sep x y hx hy e P (fun z hz k => ⟨(hP z hz k).2, (hP z hz k).1⟩)⟩
theorem colour_cnt {t b : Nat → Nat} {n N : Nat} {c : Nat → Nat} (ht : PairedN t n) (hb : PairedN b n) (h : Colour t b n N c) : cntW t b n = N := colour_uniq ht hb (colour_of ht hb) h
theorem cnt_flip {t b : Nat → Nat} {n : Nat} (ht : PairedN t n) (hb : PairedN b n) : cntW b t n = cntW t b n := colour_cnt hb ht (colour_of ht hb).flip
theorem cnt_move {t b t' b' : Nat → Nat} {n : Nat} (ht : PairedN t n) (hb : PairedN b n) (ht' : PairedN t' n) (hb' : PairedN b' n) (σ : Nat → Nat) (hσ : ∀ x, x < n → σ x < n)
    (hi : ∀ x y, x < n → y < n → σ x = σ y → x = y) (h1 : ∀ x, x < n → t' (σ x) = σ (t x)) (h2 : ∀ x, x < n → b' (σ x) = σ (b x)) : cntW t b n ≤ cntW t' b' n :=
  colour_map (colour_of ht hb) (colour_of ht' hb') ht hb σ hσ hi h1 h2
theorem cnt_join {t b t1 b1 t2 b2 : Nat → Nat} {n1 n2 : Nat} (ht1 : PairedN t1 n1) (hb1 : PairedN b1 n1) (ht2 : PairedN t2 n2) (hb2 : PairedN b2 n2) (ht : PairedN t (n1 + n2)) (hb : PairedN b (n1 + n2))
    (e1 : ∀ x, x < n1 → t x = t1 x ∧ b x = b1 x) (e2 : ∀ x, x < n2 → t (n1 + x) = n1 + t2 x ∧ b (n1 + x) = n1 + b2 x) : cntW t b (n1 + n2) = cntW t1 b1 n1 + cntW t2 b2 n2 := by
  have k1 := colour_of ht1 hb1
  have k2 := colour_of ht2 hb2
  generalize (fun x => ((colN t1 b1 n1).getD x 0).toNat) = c1 at *
  generalize (fun x => ((colN t2 b2 n2).getD x 0).toNat) = c2 at *
  generalize cntW t1 b1 n1 = N1 at *
  generalize cntW t2 b2 n2 = N2 at *
  have cl : ∀ x, x < n1 → (fun x => if x < n1 then c1 x else N1 + c2 (x - n1)) x = c1 x := fun x hx => if_pos hx
  have cr : ∀ x, (fun x => if x < n1 then c1 x else N1 + c2 (x - n1)) (n1 + x) = N1 + c2 x := fun x => by
    show (if n1 + x < n1 then _ else N1 + c2 (n1 + x - n1)) = _
    rw [if_neg (by omega), show n1 + x - n1 = x by omega]
  refine colour_cnt (c := fun x => if x < n1 then c1 x else N1 + c2 (x - n1)) ht hb ?_
  generalize (fun x => if x < n1 then c1 x else N1 + c2 (x - n1)) = c at *
  have sp : ∀ x, x < n1 + n2 → x < n1 ∨ ∃ y, y < n2 ∧ x = n1 + y := fun x hx => by
    by_cases h : x < n1
    · exact .inl h
    · exact .inr ⟨x - n1, by omega, by omega⟩
  refine ⟨fun x hx => ?_, fun q hq => ?_, fun x hx => ?_, fun x y hx hy he P hP hx1 => ?_⟩
  · rcases sp x hx with h | ⟨y, h, rfl⟩
    · rw [cl x h]; have := k1.lt x h; omega
    · rw [cr]; have := k2.lt y h; omega
  · by_cases h : q < N1
    · obtain ⟨x, h1, h2⟩ := k1.onto q h
      exact ⟨x, by omega, by rw [cl x h1]; exact h2⟩
    · obtain ⟨x, h1, h2⟩ := k2.onto (q - N1) (by omega)
      exact ⟨n1 + x, by omega, by rw [cr, h2]; omega⟩
  · rcases sp x hx with h | ⟨y, h, rfl⟩
    · rw [(e1 x h).1, (e1 x h).2, cl x h, cl _ (ht1 x h).1, cl _ (hb1 x h).1]; exact k1.same x h
    · rw [(e2 y h).1, (e2 y h).2, cr, cr, cr, (k2.same y h).1, (k2.same y h).2]; exact ⟨rfl, rfl⟩
  · rcases sp x hx with h | ⟨u, h, rfl⟩ <;> rcases sp y hy with h' | ⟨v, h', rfl⟩
    · rw [cl x h, cl y h'] at he
      refine k1.sep x y h h' he P (fun z hz k => ?_) hx1
      have := hP z (by omega) k
      rwa [(e1 z hz).1, (e1 z hz).2] at this
    · rw [cl x h, cr] at he; have := k1.lt x h; omega
    · rw [cl y h', cr] at he; have := k1.lt y h'; omega
    · rw [cr, cr] at he
      refine k2.sep u v h h' (by omega) (fun z => P (n1 + z)) (fun z hz k => ?_) hx1
      have := hP (n1 + z) (by omega) k
      rwa [(e2 z hz).1, (e2 z hz).2] at this

end Go.Proofs.Ytogjclmmjdhfeac

namespace Go.Proofs.Ytogjclmmjdhfeac
set_option linter.unusedSimpArgs false
set_option linter.unusedVariables false

theorem it_succ' (t b : Nat → Nat) (k x : Nat) : it t b (k + 1) x = b (t (it t b k x)) := by rw [it_add t b k 1 x]; rfl
theorem least_of {p : Nat → Prop} : ∀ (k : Nat), p k → ∃ j, p j ∧ ∀ i, i < j → ¬ p i := by
  intro k
  induction k using Nat.strongRecOn with
  | _ k ih =>
    intro hk
    by_cases h : ∃ i, i < k ∧ p i
    · obtain ⟨i, h1, h2⟩ := h; exact ih i h1 h2
    · exact ⟨k, hk, fun i hi hp => h ⟨i, hi, hp⟩⟩
/-- each arch leads from an even point to an odd one, or back -/
def Flips (t : Nat → Nat) (n : Nat) : Prop := ∀ x, x < n → (x + t x) % 2 = 1
structure Swap (t t' : Nat → Nat) (n a a' c c' : Nat) : Prop where
  la : a < n
  la' : a' < n
  lc : c < n
  lc' : c' < n
  ne : a ≠ c
  ev : (a + c) % 2 = 0
  ta : t a = a'
  tc : t c = c'
  ta' : t a' = a
  tc' : t c' = c
  ua : t' a = c'
  uc : t' c = a'
  ua' : t' a' = c
  uc' : t' c' = a
  rest : ∀ x, x < n → x ≠ a → x ≠ a' → x ≠ c → x ≠ c' → t' x = t x
theorem Swap.swap {t t' : Nat → Nat} {n a a' c c' : Nat} (h : Swap t t' n a a' c c') : Swap t t' n c c' a a' :=
  ⟨h.lc, h.lc', h.la, h.la', fun e => h.ne e.symm, by have := h.ev; omega, h.tc, h.ta, h.tc', h.ta', h.uc, h.ua, h.uc', h.ua', fun x hx h1 h2 h3 h4 => h.rest x hx h3 h4 h1 h2⟩
theorem Swap.back {t t' : Nat → Nat} {n a a' c c' : Nat} (h : Swap t t' n a a' c c') : Swap t' t n a c' c a' :=
  ⟨h.la, h.lc', h.lc, h.la', h.ne, h.ev, h.ua, h.uc, h.uc', h.ua', h.ta, h.tc, h.tc', h.ta', fun x hx h1 h2 h3 h4 => (h.rest x hx h1 h4 h3 h2).symm⟩
theorem Swap.ne' {t t' : Nat → Nat} {n a a' c c' : Nat} (h : Swap t t' n a a' c c') : a' ≠ c' := fun e => h.ne (by rw [← h.ta', e, h.tc'])
theorem Swap.par {t t' : Nat → Nat} {n a a' c c' : Nat} (h : Swap t t' n a a' c c') (hf : Flips t n) : (a + a') % 2 = 1 ∧ (c + c') % 2 = 1 ∧ (a + c') % 2 = 1 ∧ (c + a') % 2 = 1 := by
  have h1 := hf a h.la; have h2 := hf c h.lc; have h3 := h.ev
  rw [h.ta] at h1; rw [h.tc] at h2
  omega
theorem Swap.paired {t t' : Nat → Nat} {n a a' c c' : Nat} (h : Swap t t' n a a' c c') (ht : PairedN t n) (hf : Flips t n) : PairedN t' n := by
  obtain ⟨p1, p2, p3, p4⟩ := h.par hf
  intro x hx
  by_cases e1 : x = a
  · subst e1; rw [h.ua, h.uc']; exact ⟨h.lc', by omega, rfl⟩
  by_cases e2 : x = a'
  · subst e2; rw [h.ua', h.uc]; exact ⟨h.lc, by omega, rfl⟩
  by_cases e3 : x = c
  · subst e3; rw [h.uc, h.ua']; exact ⟨h.la', by omega, rfl⟩
  by_cases e4 : x = c'
  · subst e4; rw [h.uc', h.ua]; exact ⟨h.la, by omega, rfl⟩
  rw [h.rest x hx e1 e2 e3 e4]
  have k := ht x hx
  refine ⟨k.1, k.2.1, ?_⟩
  rw [h.rest (t x) k.1 (fun e => e2 (by rw [← k.2.2, e, h.ta])) (fun e => e1 (by rw [← k.2.2, e, h.ta'])) (fun e => e4 (by rw [← k.2.2, e, h.tc])) (fun e => e3 (by rw [← k.2.2, e, h.tc']))]
  exact k.2.2
theorem Swap.flips {t t' : Nat → Nat} {n a a' c c' : Nat} (h : Swap t t' n a a' c c') (hf : Flips t n) : Flips t' n := by
  obtain ⟨p1, p2, p3, p4⟩ := h.par hf
  intro x hx
  by_cases e1 : x = a
  · subst e1; rw [h.ua]; omega
  by_cases e2 : x = a'
  · subst e2; rw [h.ua']; omega
  by_cases e3 : x = c
  · subst e3; rw [h.uc]; omega
  by_cases e4 : x = c'
  · subst e4; rw [h.uc']; omega
  rw [h.rest x hx e1 e2 e3 e4]; exact hf x hx

/-- the way from a' begun below -/
theorem it_par {t b : Nat → Nat} {n : Nat} (ht : PairedN t n) (hb : PairedN b n) (ft : Flips t n) (fb : Flips b n) (x : Nat) (hx : x < n) : ∀ k, it b t k x < n ∧ (it b t k x + x) % 2 = 0
  | 0 => ⟨hx, by show (x + x) % 2 = 0; omega⟩
  | k + 1 => by
    obtain ⟨h1, h2⟩ := it_par ht hb ft fb x hx k
    rw [it_succ']
    have h3 := fb _ h1
    have h4 := ft _ (hb _ h1).1
    exact ⟨(ht _ (hb _ h1).1).1, by omega⟩
def Near (t b : Nat → Nat) (n a a' c c' : Nat) (P : Nat → Prop) : Prop := ∀ z, z < n → P z → P (b z) ∧ (z ≠ a → z ≠ a' → z ≠ c → z ≠ c' → P (t z))
structure FirstA (t b : Nat → Nat) (n a a' c c' m : Nat) : Prop where
  last : b (it b t m a') = a
  away : ∀ i, i < m → it b t (i + 1) a' ≠ a' ∧ it b t (i + 1) a' ≠ c'
structure FirstB (t b : Nat → Nat) (n a a' c c' m : Nat) : Prop where
  last : b (it b t m a') = c
  away : ∀ i, i < m → it b t (i + 1) a' ≠ a' ∧ it b t (i + 1) a' ≠ c'
theorem first_cases {t b t' : Nat → Nat} {n a a' c c' : Nat} (ht : PairedN t n) (hb : PairedN b n) (h : Swap t t' n a a' c c') : ∃ m, FirstA t b n a a' c c' m ∨ FirstB t b n a a' c c' m := by
  obtain ⟨j, _, hj⟩ := hits_start hb ht h.la'
  obtain ⟨m, h1, h2⟩ := least_of (p := fun m => it b t (m + 1) a' = a' ∨ it b t (m + 1) a' = c') j (.inl hj)
  have haw : ∀ i, i < m → it b t (i + 1) a' ≠ a' ∧ it b t (i + 1) a' ≠ c' := fun i hi => ⟨fun e => h2 i hi (.inl e), fun e => h2 i hi (.inr e)⟩
  have hl := it_lt hb ht m a' h.la'
  have hbl := (hb _ hl).1
  refine ⟨m, ?_⟩
  rw [it_succ'] at h1
  rcases h1 with e | e
  · exact .inl ⟨by rw [← (ht _ hbl).2.2, e, h.ta'], haw⟩
  · exact .inr ⟨by rw [← (ht _ hbl).2.2, e, h.tc'], haw⟩
theorem FirstA.path1 {t b t' : Nat → Nat} {n a a' c c' m : Nat} (f : FirstA t b n a a' c c' m) (ht : PairedN t n) (hb : PairedN b n) (ft : Flips t n) (fb : Flips b n) (h : Swap t t' n a a' c c') {P : Nat → Prop} (hP : Near t b n a a' c c' P) (h0 : P a') : P a := by
  obtain ⟨p1, p2, p3, p4⟩ := h.par ft
  have key : ∀ i, i ≤ m → P (it b t i a') := by
    intro i
    induction i with
    | zero => intro _; exact h0
    | succ i ih =>
      intro hi
      have k1 := ih (by omega)
      obtain ⟨l1, l2⟩ := it_par ht hb ft fb a' h.la' i
      have l3 := fb _ l1
      have l4 := (hb _ l1).1
      have k2 := (hP _ l1 k1).1
      have aw := f.away i (by omega)
      rw [it_succ'] at aw ⊢
      exact (hP _ l4 k2).2 (fun e => aw.1 (by rw [e, h.ta])) (by omega) (fun e => aw.2 (by rw [e, h.tc])) (by omega)
  have l1 := (it_par ht hb ft fb a' h.la' m).1
  have := (hP _ l1 (key m (Nat.le_refl _))).1
  rwa [f.last] at this
theorem Near.not {t b t' : Nat → Nat} {n a a' c c' : Nat} {P : Nat → Prop} (ht : PairedN t n) (hb : PairedN b n) (h : Swap t t' n a a' c c') (hP : Near t b n a a' c c' P) : Near t b n a a' c c' (fun z => ¬ P z) := by
  intro z hz hp
  refine ⟨fun k => hp (by have := (hP _ (hb z hz).1 k).1; rwa [(hb z hz).2.2] at this), fun e1 e2 e3 e4 k => hp ?_⟩
  have kt := ht z hz
  have := (hP _ kt.1 k).2 (fun e => e2 (by rw [← kt.2.2, e, h.ta])) (fun e => e1 (by rw [← kt.2.2, e, h.ta'])) (fun e => e4 (by rw [← kt.2.2, e, h.tc])) (fun e => e3 (by rw [← kt.2.2, e, h.tc']))
  rwa [kt.2.2] at this
theorem FirstA.path {t b t' : Nat → Nat} {n a a' c c' m : Nat} (f : FirstA t b n a a' c c' m) (ht : PairedN t n) (hb : PairedN b n) (ft : Flips t n) (fb : Flips b n) (h : Swap t t' n a a' c c') {P : Nat → Prop} (hP : Near t b n a a' c c' P) : P a' ↔ P a :=
  ⟨f.path1 ht hb ft fb h hP, fun k => Classical.byContradiction fun hn => f.path1 ht hb ft fb h (hP.not ht hb h) hn k⟩
/-- the points of the way up to its first return -/
def WaySet (t b : Nat → Nat) (a' m : Nat) (z : Nat) : Prop := ∃ i, i ≤ m ∧ (z = it b t i a' ∨ z = b (it b t i a'))
theorem FirstA.apart {t b t' : Nat → Nat} {n a a' c c' m : Nat} (f : FirstA t b n a a' c c' m) (ht : PairedN t n) (hb : PairedN b n) (ft : Flips t n) (fb : Flips b n) (h : Swap t t' n a a' c c') : ∃ S, Shut t b n S ∧ S a ∧ ¬ S c := by
  obtain ⟨p1, p2, p3, p4⟩ := h.par ft
  refine ⟨WaySet t b a' m, fun z hz hS => ?_, ⟨m, Nat.le_refl _, .inr f.last.symm⟩, fun ⟨i, hi, e⟩ => ?_⟩
  · obtain ⟨i, hi, e⟩ := hS
    obtain ⟨l1, l2⟩ := it_par ht hb ft fb a' h.la' i
    have l4 := hb _ l1
    rcases e with rfl | rfl
    · refine ⟨?_, i, hi, .inr rfl⟩
      cases i with
      | zero => exact ⟨m, Nat.le_refl _, .inr (by rw [f.last]; exact h.ta')⟩
      | succ i =>
        obtain ⟨l5, _⟩ := it_par ht hb ft fb a' h.la' i
        exact ⟨i, by omega, .inr (by rw [it_succ']; exact (ht _ (hb _ l5).1).2.2)⟩
    · refine ⟨?_, i, hi, .inl l4.2.2⟩
      by_cases him : i = m
      · subst him
        exact ⟨0, by omega, .inl (by rw [f.last, h.ta]; rfl)⟩
      · exact ⟨i + 1, by omega, .inl (it_succ' b t i a').symm⟩
  · obtain ⟨l1, l2⟩ := it_par ht hb ft fb a' h.la' i
    rcases e with e | e
    · omega
    · by_cases him : i = m
      · subst him; exact h.ne (by rw [← f.last, e])
      · exact (f.away i (by omega)).2 (by rw [it_succ', ← e, h.tc])
theorem FirstB.apart {t b t' : Nat → Nat} {n a a' c c' m : Nat} (f : FirstB t b n a a' c c' m) (ht : PairedN t n) (hb : PairedN b n) (ft : Flips t n) (fb : Flips b n) (h : Swap t t' n a a' c c') : ∃ S, Shut t' b n S ∧ S c ∧ ¬ S a := by
  obtain ⟨p1, p2, p3, p4⟩ := h.par ft
  have hna : ∀ i, i ≤ m → b (it b t i a') ≠ a := fun i hi e => by
    by_cases him : i = m
    · subst him; exact h.ne (by rw [← f.last, e])
    · exact (f.away i (by omega)).1 (by rw [it_succ', e, h.ta])
  refine ⟨WaySet t b a' m, fun z hz hS => ?_, ⟨m, Nat.le_refl _, .inr f.last.symm⟩, fun ⟨i, hi, e⟩ => ?_⟩
  · obtain ⟨i, hi, e⟩ := hS
    obtain ⟨l1, l2⟩ := it_par ht hb ft fb a' h.la' i
    have l4 := hb _ l1
    have l5 := fb _ l1
    rcases e with rfl | rfl
    · refine ⟨?_, i, hi, .inr rfl⟩
      cases i with
      | zero => exact ⟨m, Nat.le_refl _, .inr (by rw [f.last]; exact h.ua')⟩
      | succ i =>
        obtain ⟨l6, _⟩ := it_par ht hb ft fb a' h.la' i
        have aw := f.away i (by omega)
        refine ⟨i, by omega, .inr ?_⟩
        rw [h.rest _ l1 (by omega) aw.1 (by omega) aw.2, it_succ']
        exact (ht _ (hb _ l6).1).2.2
    · refine ⟨?_, i, hi, .inl l4.2.2⟩
      by_cases him : i = m
      · subst him
        exact ⟨0, by omega, .inl (by rw [f.last, h.uc]; rfl)⟩
      · have aw := f.away i (by omega)
        refine ⟨i + 1, by omega, .inl ?_⟩
        rw [it_succ'] at aw ⊢
        exact h.rest _ l4.1 (hna i hi) (by omega) (fun e => aw.2 (by rw [e, h.tc])) (by omega)
  · obtain ⟨l1, l2⟩ := it_par ht hb ft fb a' h.la' i
    rcases e with e | e
    · omega
    · exact hna i hi e.symm
theorem FirstB.same {t b t' : Nat → Nat} {n a a' c c' m N : Nat} {k : Nat → Nat} (f : FirstB t b n a a' c c' m) (ht : PairedN t n) (hb : PairedN b n) (h : Swap t t' n a a' c c') (hk : Colour t b n N k) : k a = k c := by
  have key : ∀ i, k (it b t i a') = k a' := by
    intro i
    induction i with
    | zero => rfl
    | succ i ih =>
      have l1 := it_lt hb ht i a' h.la'
      rw [it_succ', (hk.same _ (hb _ l1).1).1, (hk.same _ l1).2]; exact ih
  have l1 := it_lt hb ht m a' h.la'
  have e := (hk.same _ l1).2
  rw [f.last, key m] at e
  rw [e, ← (hk.same a h.la).1, h.ta]
theorem pathA {t b t' : Nat → Nat} {n a a' c c' N : Nat} {k : Nat → Nat} (ht : PairedN t n) (hb : PairedN b n) (ft : Flips t n) (fb : Flips b n) (h : Swap t t' n a a' c c') (hk : Colour t b n N k) (hne : k a ≠ k c) {P : Nat → Prop} (hP : Near t b n a a' c c' P) : P a' ↔ P a := by
  obtain ⟨m, f | f⟩ := first_cases ht hb h
  · exact f.path ht hb ft fb h hP
  · exact absurd (f.same ht hb h hk) hne
/-- colours that are made one -/
def glue (u v q : Nat) : Nat := if q = v then (if v < u then u - 1 else u) else if v < q then q - 1 else q
theorem merged {t b t' : Nat → Nat} {n a a' c c' N : Nat} {k : Nat → Nat} (ht : PairedN t n) (hb : PairedN b n) (ft : Flips t n) (fb : Flips b n) (h : Swap t t' n a a' c c') (hk : Colour t b n N k) (hne : k a ≠ k c) :
    Colour t' b n (N - 1) (fun x => glue (k a) (k c) (k x)) := by
  have ht' := h.paired ht ft
  have hu := hk.lt a h.la
  have hv := hk.lt c h.lc
  have ea' : k a' = k a := by rw [← h.ta]; exact (hk.same a h.la).1
  have ec' : k c' = k c := by rw [← h.tc]; exact (hk.same c h.lc).1
  have g1 : ∀ q, glue (k a) (k c) q = glue (k a) (k c) (k a) → q = k a ∨ q = k c := by intro q; unfold glue; (repeat' split) <;> omega
  have g2 : glue (k a) (k c) (k c) = glue (k a) (k c) (k a) := by unfold glue; (repeat' split) <;> omega
  have g3 : ∀ q r, glue (k a) (k c) q = glue (k a) (k c) r → q ≠ k a → q ≠ k c → q = r := by intro q r; unfold glue; (repeat' split) <;> omega
  have nr : ∀ Q : Nat → Prop, Shut t' b n Q → Near t b n a a' c c' Q := fun Q hQ z hz hp => ⟨(hQ z hz hp).2, fun e1 e2 e3 e4 => by rw [← h.rest z hz e1 e2 e3 e4]; exact (hQ z hz hp).1⟩
  have L : ∀ Q : Nat → Prop, Shut t' b n Q → Q a → ∀ x, x < n → (k x = k a ∨ k x = k c) → Q x := by
    intro Q hQ h0 x hx hc
    have q1 : Q a' := (pathA ht hb ft fb h hk hne (nr Q hQ)).2 h0
    have q2 : Q c' := by have := (hQ a h.la h0).1; rwa [h.ua] at this
    have q3 : Q c := by have := (hQ a' h.la' q1).1; rwa [h.ua'] at this
    have sh : ∀ w, Shut t b n (fun z => k z = w → Q z) := by
      intro w z hz hp
      refine ⟨fun e => ?_, fun e => (hQ z hz (hp (by rw [← (hk.same z hz).2]; exact e))).2⟩
      have hz' := hp (by rw [← (hk.same z hz).1]; exact e)
      by_cases e1 : z = a
      · subst e1; rw [h.ta]; exact q1
      by_cases e2 : z = a'
      · subst e2; rw [h.ta']; exact h0
      by_cases e3 : z = c
      · subst e3; rw [h.tc]; exact q2
      by_cases e4 : z = c'
      · subst e4; rw [h.tc']; exact q3
      rw [← h.rest z hz e1 e2 e3 e4]; exact (hQ z hz hz').1
    rcases hc with hc | hc
    · exact hk.sep a x h.la hx hc.symm _ (sh (k a)) (fun _ => h0) hc
    · exact hk.sep c x h.lc hx hc.symm _ (sh (k c)) (fun _ => q3) hc
  refine ⟨fun x hx => ?_, fun q hq => ?_, fun x hx => ⟨?_, ?_⟩, fun x y hx hy he P hP hp => ?_⟩
  · have := hk.lt x hx
    show glue _ _ _ < _
    unfold glue; (repeat' split) <;> omega
  · by_cases hqv : q < k c
    · obtain ⟨x, h1, h2⟩ := hk.onto q (by omega)
      exact ⟨x, h1, by show glue _ _ (k x) = q; rw [h2]; unfold glue; (repeat' split) <;> omega⟩
    · obtain ⟨x, h1, h2⟩ := hk.onto (q + 1) (by omega)
      exact ⟨x, h1, by show glue _ _ (k x) = q; rw [h2]; unfold glue; (repeat' split) <;> omega⟩
  · show glue _ _ (k (t' x)) = glue _ _ (k x)
    by_cases e1 : x = a
    · subst e1; rw [h.ua, ec', g2]
    by_cases e2 : x = a'
    · subst e2; rw [h.ua', ea', g2]
    by_cases e3 : x = c
    · subst e3; rw [h.uc, ea', g2]
    by_cases e4 : x = c'
    · subst e4; rw [h.uc', ec', g2]
    rw [h.rest x hx e1 e2 e3 e4, (hk.same x hx).1]
  · show glue _ _ (k (b x)) = glue _ _ (k x)
    rw [(hk.same x hx).2]
  · have he' : glue (k a) (k c) (k x) = glue (k a) (k c) (k y) := he
    by_cases hc : k x = k a ∨ k x = k c
    · have hcy : k y = k a ∨ k y = k c := g1 _ (by rw [← he']; rcases hc with e | e <;> rw [e]; exact g2)
      by_cases h0 : P a
      · exact L P hP h0 y hy hcy
      · have hnP : Shut t' b n (fun z => ¬ P z) := fun z hz k' =>
          ⟨fun g => k' (by have := (hP _ (ht' z hz).1 g).1; rwa [(ht' z hz).2.2] at this), fun g => k' (by have := (hP _ (hb z hz).1 g).2; rwa [(hb z hz).2.2] at this)⟩
        exact absurd hp (L (fun z => ¬ P z) hnP h0 x hx hc)
    · have hxa : k x ≠ k a := fun e => hc (.inl e)
      have hxc : k x ≠ k c := fun e => hc (.inr e)
      have exy := g3 _ _ he' hxa hxc
      refine hk.sep x y hx hy exy (fun z => k z = k x → P z) (fun z hz hz' => ⟨fun e => ?_, fun e => ?_⟩) (fun _ => hp) exy.symm
      · have e' : k z = k x := by rw [← (hk.same z hz).1]; exact e
        have := (hP z hz (hz' e')).1
        rwa [h.rest z hz (fun e2 => hxa (by rw [← e', e2])) (fun e2 => hxa (by rw [← e', e2, ea'])) (fun e2 => hxc (by rw [← e', e2])) (fun e2 => hxc (by rw [← e', e2, ec']))] at this
      · have e' : k z = k x := by rw [← (hk.same z hz).2]; exact e
        exact (hP z hz (hz' e')).2
theorem apart_cnt {t b t' : Nat → Nat} {n a a' c c' : Nat} (ht : PairedN t n) (hb : PairedN b n) (ft : Flips t n) (fb : Flips b n) (h : Swap t t' n a a' c c') (hS : ∃ S, Shut t b n S ∧ S a ∧ ¬ S c) : cntW t b n = cntW t' b n + 1 := by
  obtain ⟨S, s1, s2, s3⟩ := hS
  have hk := colour_of ht hb
  have hne : (fun x => ((colN t b n).getD x 0).toNat) a ≠ (fun x => ((colN t b n).getD x 0).toNat) c := fun e => s3 (hk.sep a c h.la h.lc e S s1 s2)
  have := colour_cnt (h.paired ht ft) hb (merged ht hb ft fb h hk hne)
  have hpos := hk.lt a h.la
  omega
theorem swap_cnt {t b t' : Nat → Nat} {n a a' c c' : Nat} (ht : PairedN t n) (hb : PairedN b n) (ft : Flips t n) (fb : Flips b n) (h : Swap t t' n a a' c c') : cntW t b n = cntW t' b n + 1 ∨ cntW t' b n = cntW t b n + 1 := by
  obtain ⟨m, f | f⟩ := first_cases ht hb h
  · exact .inl (apart_cnt ht hb ft fb h (f.apart ht hb ft fb h))
  · obtain ⟨S, s1, s2, s3⟩ := f.apart ht hb ft fb h
    exact .inr (apart_cnt (h.paired ht ft) hb (h.flips ft) fb h.back.swap ⟨S, s1, s2, s3⟩)

/-- joins of two neighbours, above and below -/
structure Moved (p q s t : Nat → Nat) (n i j x y u v : Nat) : Prop where
  li : i < n
  lj : j < n
  lx : x < n
  ly : y < n
  lu : u < n
  lv : v < n
  pi : p i = x
  pj : p j = y
  px : p x = i
  py : p y = j
  si : s i = u
  sj : s j = v
  su : s u = i
  sv : s v = j
  qi : q i = j
  qj : q j = i
  qx : q x = y
  qy : q y = x
  ti : t i = j
  tj : t j = i
  tu : t u = v
  tv : t v = u
  xi : x ≠ i
  xj : x ≠ j
  yi : y ≠ i
  yj : y ≠ j
  ui : u ≠ i
  uj : u ≠ j
  vi : v ≠ i
  vj : v ≠ j
  qr : ∀ z, z < n → z ≠ i → z ≠ j → z ≠ x → z ≠ y → q z = p z
  tr : ∀ z, z < n → z ≠ i → z ≠ j → z ≠ u → z ≠ v → t z = s z
theorem moved_cnt {p q s t : Nat → Nat} {n i j x y u v : Nat} (hp : PairedN p n) (hq : PairedN q n) (hs : PairedN s n) (ht : PairedN t n) (h : Moved p q s t n i j x y u v) : cntW p t n = cntW q s n := by
  have k := colour_of hq hs
  generalize (fun x => ((colN q s n).getD x 0).toNat) = c at *
  generalize cntW q s n = N at *
  have cxy : c y = c x := by rw [← h.qx]; exact (k.same x h.lx).1
  have cij : c j = c i := by rw [← h.qi]; exact (k.same i h.li).1
  have cui : c u = c i := by rw [← h.si]; exact (k.same i h.li).2
  have cvj : c v = c i := by rw [← h.sj, (k.same j h.lj).2]; exact cij
  have h1 : ∀ z, z ≠ i → z ≠ j → (fun z => if z = i ∨ z = j then c x else c z) z = c z := fun z e1 e2 => if_neg (fun e => by rcases e with e | e; exact e1 e; exact e2 e)
  have h2 : (fun z => if z = i ∨ z = j then c x else c z) i = c x := if_pos (.inl rfl)
  have h3 : (fun z => if z = i ∨ z = j then c x else c z) j = c x := if_pos (.inr rfl)
  refine colour_cnt (c := fun z => if z = i ∨ z = j then c x else c z) hp ht ?_
  generalize (fun z => if z = i ∨ z = j then c x else c z) = d at *
  have sp : ∀ z, z = i ∨ z = j ∨ (z ≠ i ∧ z ≠ j) := fun z => by omega
  refine ⟨fun z hz => ?_, fun r hr => ?_, fun z hz => ⟨?_, ?_⟩, fun z w hz hw he P hP hpz => ?_⟩
  · rcases sp z with rfl | rfl | ⟨e1, e2⟩
    · rw [h2]; exact k.lt x h.lx
    · rw [h3]; exact k.lt x h.lx
    · rw [h1 z e1 e2]; exact k.lt z hz
  · obtain ⟨z, hz, e⟩ := k.onto r hr
    rcases sp z with rfl | rfl | ⟨e1, e2⟩
    · exact ⟨u, h.lu, by rw [h1 u h.ui h.uj, cui]; exact e⟩
    · exact ⟨v, h.lv, by rw [h1 v h.vi h.vj, cvj, ← cij]; exact e⟩
    · exact ⟨z, hz, by rw [h1 z e1 e2]; exact e⟩
  · by_cases e1 : z = i
    · subst e1; rw [h.pi, h2, h1 x h.xi h.xj]
    by_cases e2 : z = j
    · subst e2; rw [h.pj, h3, h1 y h.yi h.yj]; exact cxy
    by_cases e3 : z = x
    · subst e3; rw [h.px, h2, h1 z h.xi h.xj]
    by_cases e4 : z = y
    · subst e4; rw [h.py, h3, h1 z h.yi h.yj]; exact cxy.symm
    have e5 : p z ≠ i := fun e => e3 (by rw [← (hp z hz).2.2, e, h.pi])
    have e6 : p z ≠ j := fun e => e4 (by rw [← (hp z hz).2.2, e, h.pj])
    rw [h1 _ e5 e6, h1 z e1 e2, ← h.qr z hz e1 e2 e3 e4]; exact (k.same z hz).1
  · by_cases e1 : z = i
    · subst e1; rw [h.ti, h2, h3]
    by_cases e2 : z = j
    · subst e2; rw [h.tj, h2, h3]
    by_cases e3 : z = u
    · subst e3; rw [h.tu, h1 v h.vi h.vj, h1 z h.ui h.uj, cvj, cui]
    by_cases e4 : z = v
    · subst e4; rw [h.tv, h1 u h.ui h.uj, h1 z h.vi h.vj, cvj, cui]
    have e5 : s z ≠ i := fun e => e3 (by rw [← (hs z hz).2.2, e, h.si])
    have e6 : s z ≠ j := fun e => e4 (by rw [← (hs z hz).2.2, e, h.sj])
    rw [h.tr z hz e1 e2 e3 e4, h1 _ e5 e6, h1 z e1 e2]; exact (k.same z hz).2
  · have pxi : P x ↔ P i := ⟨fun g => by have := (hP x h.lx g).1; rwa [h.px] at this, fun g => by have := (hP i h.li g).1; rwa [h.pi] at this⟩
    have pij : P i ↔ P j := ⟨fun g => by have := (hP i h.li g).2; rwa [h.ti] at this, fun g => by have := (hP j h.lj g).2; rwa [h.tj] at this⟩
    have pyj : P y ↔ P j := ⟨fun g => by have := (hP y h.ly g).1; rwa [h.py] at this, fun g => by have := (hP j h.lj g).1; rwa [h.pj] at this⟩
    have puv : P u ↔ P v := ⟨fun g => by have := (hP u h.lu g).2; rwa [h.tu] at this, fun g => by have := (hP v h.lv g).2; rwa [h.tv] at this⟩
    have q1 : ∀ z, z ≠ i → z ≠ j → ((fun z => if z = i ∨ z = j then P u else P z) z ↔ P z) := fun z e1 e2 => by show (if z = i ∨ z = j then P u else P z) ↔ P z; rw [if_neg (by omega)]
    have q2 : (fun z => if z = i ∨ z = j then P u else P z) i ↔ P u := by show (if i = i ∨ i = j then P u else P i) ↔ P u; rw [if_pos (.inl rfl)]
    have q3 : (fun z => if z = i ∨ z = j then P u else P z) j ↔ P u := by show (if j = i ∨ j = j then P u else P j) ↔ P u; rw [if_pos (.inr rfl)]
    have key : ∀ z w, z < n → w < n → z ≠ i → z ≠ j → w ≠ i → w ≠ j → c z = c w → P z → P w := by
      intro z w hz hw a1 a2 a3 a4 he hpz
      refine (q1 w a3 a4).1 (k.sep z w hz hw he (fun z => if z = i ∨ z = j then P u else P z) ?_ ((q1 z a1 a2).2 hpz))
      generalize (fun z => if z = i ∨ z = j then P u else P z) = Q at *
      intro z hz hq
      refine ⟨?_, ?_⟩
      · by_cases e1 : z = i
        · subst e1; rw [h.qi]; exact q3.2 (q2.1 hq)
        by_cases e2 : z = j
        · subst e2; rw [h.qj]; exact q2.2 (q3.1 hq)
        have pz := (q1 z e1 e2).1 hq
        by_cases e3 : z = x
        · subst e3; rw [h.qx]; exact (q1 y h.yi h.yj).2 (pyj.2 (pij.1 (pxi.1 pz)))
        by_cases e4 : z = y
        · subst e4; rw [h.qy]; exact (q1 x h.xi h.xj).2 (pxi.2 (pij.2 (pyj.1 pz)))
        have e5 : p z ≠ i := fun e => e3 (by rw [← (hp z hz).2.2, e, h.pi])
        have e6 : p z ≠ j := fun e => e4 (by rw [← (hp z hz).2.2, e, h.pj])
        rw [h.qr z hz e1 e2 e3 e4]; exact (q1 _ e5 e6).2 (hP z hz pz).1
      · by_cases e1 : z = i
        · subst e1; rw [h.si]; exact (q1 u h.ui h.uj).2 (q2.1 hq)
        by_cases e2 : z = j
        · subst e2; rw [h.sj]; exact (q1 v h.vi h.vj).2 (puv.1 (q3.1 hq))
        have pz := (q1 z e1 e2).1 hq
        by_cases e3 : z = u
        · subst e3; rw [h.su]; exact q2.2 pz
        by_cases e4 : z = v
        · subst e4; rw [h.sv]; exact q3.2 (puv.2 pz)
        have e5 : s z ≠ i := fun e => e3 (by rw [← (hs z hz).2.2, e, h.si])
        have e6 : s z ≠ j := fun e => e4 (by rw [← (hs z hz).2.2, e, h.sj])
        rw [← h.tr z hz e1 e2 e3 e4] at e5 e6 ⊢; exact (q1 _ e5 e6).2 (hP z hz pz).2
    have toX : ∀ z, z < n → P z → (z = i ∨ z = j) → P x := fun z hz g e => by rcases e with rfl | rfl; exact pxi.2 g; exact pxi.2 (pij.2 g)
    have ofX : ∀ z, (z = i ∨ z = j) → P x → P z := fun z e g => by rcases e with rfl | rfl; exact pxi.1 g; exact pij.1 (pxi.1 g)
    have dx : ∀ z, (z = i ∨ z = j) → d z = c x := fun z e => by rcases e with rfl | rfl; exact h2; exact h3
    by_cases ez : z = i ∨ z = j
    · have gx := toX z hz hpz ez
      by_cases ew : w = i ∨ w = j
      · exact ofX w ew gx
      · rw [dx z ez, h1 w (by omega) (by omega)] at he
        exact key x w h.lx hw h.xi h.xj (by omega) (by omega) he gx
    · by_cases ew : w = i ∨ w = j
      · rw [dx w ew, h1 z (by omega) (by omega)] at he
        exact ofX w ew (key z x hz h.lx (by omega) (by omega) h.xi h.xj he hpz)
      · rw [h1 z (by omega) (by omega), h1 w (by omega) (by omega)] at he
        exact key z w hz hw (by omega) (by omega) (by omega) (by omega) he hpz

end Go.Proofs.Ytogjclmmjdhfeac

namespace Go.Proofs.Ytogjclmmjdhfeac
set_option linter.unusedSimpArgs false
set_option linter.unusedVariables false

def flipsCheck (l : List Int) : Bool := allFrom (fun i => (i + par l i) % 2 == 1) 0 l.length
theorem flipsCheck0 : (sysAll 0).all flipsCheck = true := by kernel_rfl
theorem flipsCheck1 : (sysAll 1).all flipsCheck = true := by kernel_rfl
theorem flipsCheck2 : (sysAll 2).all flipsCheck = true := by kernel_rfl
theorem flipsCheck3 : (sysAll 3).all flipsCheck = true := by kernel_rfl
theorem flipsCheck4 : (sysAll 4).all flipsCheck = true := by kernel_rfl
theorem flipsCheck5 : (sysAll 5).all flipsCheck = true := by kernel_rfl
theorem flipsCheck6 : (sysAll 6).all flipsCheck = true := by kernel_rfl
theorem good_flips {l : List Int} (h : goodB l = true) : Flips (par l) l.length := by
  have hc : flipsCheck l = true := good_all6 flipsCheck0 flipsCheck1 flipsCheck2 flipsCheck3 flipsCheck4 flipsCheck5 flipsCheck6 h
  unfold flipsCheck at hc
  rw [allFrom_iff] at hc
  intro x hx
  exact eq_of_beq (hc x (Nat.zero_le _) (by omega))
theorem comps_flip {t b : List Int} (ht : goodB t = true) (hb : goodB b = true) (hl : t.length = b.length) : compsL b t = compsL t b := by
  unfold compsL
  have h1 := good_paired ht
  have h2 := good_paired hb
  rw [← hl] at h2 ⊢
  exact cnt_flip h1 h2

end Go.Proofs.Ytogjclmmjdhfeac
