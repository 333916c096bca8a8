/- Steps of states: plain mathematics. -/
import Derived.Test.YtllhdmpnjcemkacStateMath
namespace Go.Proofs.Ytllhdmpnjcemkac
set_option linter.unusedSimpArgs false
set_option linter.unusedVariables false

/-- words that cancel -/
inductive Red : List Int → Prop
  | nil : Red []
  | ins (s t : List Int) (p : Int) : Red (s ++ t) → Red (s ++ p :: p :: t)
theorem red_of_canc : ∀ (r o : List Int), canc o r = [] → Red (o ++ r)
  | [], o, h => by
    have : o = [] := h
    subst this; exact .nil
  | x :: r, o, h => by
    unfold canc at h
    split at h
    · next ht =>
      rcases snoc_cases o with rfl | ⟨p, y, rfl⟩
      · simp [topIs] at ht
      · rw [topIs_snoc, decide_eq_true_eq] at ht
        subst ht
        rw [dropTop_snoc] at h
        have := red_of_canc r p h
        rw [List.append_assoc]
        exact .ins p r y this
    · have := red_of_canc r (o ++ [x]) h
      rwa [List.append_assoc] at this
theorem canc_cons (o : List Int) (x : Int) (r : List Int) : canc o (x :: r) = if topIs o x then canc (dropTop o) r else canc (o ++ [x]) r := rfl
theorem canc_append : ∀ (s o t : List Int), canc o (s ++ t) = canc (canc o s) t
  | [], _, _ => rfl
  | x :: s, o, t => by
    rw [List.cons_append, canc_cons, canc_cons]
    split
    · exact canc_append s _ t
    · exact canc_append s _ t
/-- no two neighbours are equal -/
def NoAdj (o : List Int) : Prop := ∀ s t p, o ≠ s ++ p :: p :: t
theorem noAdj_drop {p : List Int} {y : Int} (h : NoAdj (p ++ [y])) : NoAdj p := fun s t q e => h s (t ++ [y]) q (by rw [e]; simp)
theorem noAdj_snoc {o : List Int} {x : Int} (h : NoAdj o) (ht : topIs o x = false) : NoAdj (o ++ [x]) := by
  intro s t q e
  rcases snoc_cases t with rfl | ⟨t', z, rfl⟩
  · rw [show s ++ q :: q :: [] = (s ++ [q]) ++ [q] by simp] at e
    have e1 := List.append_inj' e rfl
    obtain rfl : x = q := by simpa using e1.2
    rw [e1.1, topIs_snoc] at ht
    simp at ht
  · rw [show s ++ q :: q :: (t' ++ [z]) = (s ++ q :: q :: t') ++ [z] by simp] at e
    exact h s t' q (List.append_inj' e rfl).1
theorem noAdj_canc : ∀ (r o : List Int), NoAdj o → NoAdj (canc o r)
  | [], _, h => h
  | x :: r, o, h => by
    unfold canc
    split
    · next ht =>
      refine noAdj_canc r _ ?_
      rcases snoc_cases o with rfl | ⟨p, y, rfl⟩
      · simp [topIs] at ht
      · rw [dropTop_snoc]; exact noAdj_drop h
    · next ht => exact noAdj_canc r _ (noAdj_snoc h (by simpa using ht))
theorem canc_twice {o : List Int} (h : NoAdj o) (p : Int) (t : List Int) : canc o (p :: p :: t) = canc o t := by
  rw [canc_cons]
  by_cases ht : topIs o p = true
  · rw [if_pos ht]
    rcases snoc_cases o with rfl | ⟨q, y, rfl⟩
    · simp [topIs] at ht
    · rw [topIs_snoc, decide_eq_true_eq] at ht
      subst ht
      rw [dropTop_snoc]
      have h2 : ¬ topIs q y = true := by
        intro h2
        rcases snoc_cases q with rfl | ⟨q', z, rfl⟩
        · simp [topIs] at h2
        · rw [topIs_snoc, decide_eq_true_eq] at h2
          subst h2
          exact h q' [] z (by simp)
      rw [canc_cons, if_neg h2]
  · rw [if_neg ht, canc_cons, if_pos (by rw [topIs_snoc]; simp), dropTop_snoc]
theorem noAdj_nil : NoAdj [] := fun s t p e => by simp at e
theorem canc_drop (s t : List Int) (p : Int) : canc [] (s ++ p :: p :: t) = canc [] (s ++ t) := by
  rw [canc_append, canc_append, canc_twice (noAdj_canc s [] noAdj_nil)]
theorem canc_red {r : List Int} (h : Red r) : canc [] r = [] := by
  induction h with
  | nil => rfl
  | ins s t p _ ih => rw [canc_drop, ih]
theorem red_map (f : Int → Int) {r : List Int} (h : Red r) : Red (r.map f) := by
  induction h with
  | nil => exact .nil
  | ins s t p _ ih =>
    rw [List.map_append] at ih
    rw [List.map_append, List.map_cons, List.map_cons]
    exact .ins _ _ _ ih
theorem canc_map (f : Int → Int) {r : List Int} (h : canc [] r = []) : canc [] (r.map f) = [] := canc_red (red_map f (red_of_canc r [] h))

/-- what is open of a state: each part twice, and none cross -/
def OpenOk (u d : List Int) : Prop := (∀ x ∈ roundL u d, (roundL u d).count x = 2) ∧ canc [] (roundL u d) = []
def lastI (l : List Int) : Int := l.getD (l.length - 1) 0
theorem lastI_snoc (l : List Int) (x : Int) : lastI (l ++ [x]) = x := by simp [lastI, List.getD]
/-- y renamed to x -/
def mgI (x y z : Int) : Int := if z = y then x else z
def partI (u d : List Int) : Int := (((u.length + d.length) / 2 : Nat) : Int)
/-- a step, with what is a new part -/
def rawStep (p : Int) (u d : List Int) (c : Int) : Nat → Option (List Int × List Int × Int)
  | 0 => some (u ++ [p], d ++ [p], c)
  | 1 => if d.length = 0 then none else some (u ++ [lastI d], dropTop d, c)
  | 2 => if u.length = 0 then none else some (dropTop u, d ++ [lastI u], c)
  | 3 => if u.length = 0 ∨ d.length = 0 then none else some ((dropTop u).map (mgI (lastI u) (lastI d)), (dropTop d).map (mgI (lastI u) (lastI d)), if lastI u = lastI d then c + 1 else c)
  | _ => none

theorem count_mg {x y : Int} (h : x ≠ y) : ∀ (r : List Int), (r.map (mgI x y)).count x = r.count x + r.count y
  | [] => rfl
  | z :: r => by
    have ih := count_mg h r
    rw [List.map_cons, List.count_cons, List.count_cons, List.count_cons, ih]
    unfold mgI
    by_cases h1 : z = y
    · subst h1
      have : ¬ z = x := fun e => h e.symm
      simp [this]; omega
    · by_cases h2 : z = x
      · subst h2; simp [h1]; omega
      · simp [h1, h2]
theorem count_mg_other {x y z : Int} (h1 : z ≠ x) (h2 : z ≠ y) : ∀ (r : List Int), (r.map (mgI x y)).count z = r.count z
  | [] => rfl
  | a :: r => by
    have ih := count_mg_other h1 h2 r
    rw [List.map_cons, List.count_cons, List.count_cons, ih]
    unfold mgI
    by_cases e : a = y
    · subst e
      have : ¬ x = z := fun e => h1 e.symm
      have h3 : ¬ a = z := fun e => h2 e.symm
      simp [this, h3]
    · simp [e]
theorem mg_not {x y : Int} (h : x ≠ y) : ∀ (r : List Int), y ∉ r.map (mgI x y)
  | [] => by simp
  | a :: r => by
    rw [List.map_cons, List.mem_cons, not_or]
    refine ⟨?_, mg_not h r⟩
    unfold mgI
    split
    · exact fun e => h e.symm
    · next e => exact fun e2 => e e2.symm
theorem mg_same (x : Int) (r : List Int) : r.map (mgI x x) = r := by
  have : mgI x x = id := by funext z; unfold mgI; split <;> simp_all
  rw [this, List.map_id]

theorem raw_ok {p : Int} {u d u' d' : List Int} {c c' : Int} {k : Nat} (h : OpenOk u d) (hp : p ∉ u ++ d) (e : rawStep p u d c k = some (u', d', c')) : OpenOk u' d' := by
  obtain ⟨h1, h2⟩ := h
  match k, e with
  | 0, e =>
    simp only [rawStep, Option.some.injEq, Prod.mk.injEq] at e
    obtain ⟨rfl, rfl, rfl⟩ := e
    have er : roundL (u ++ [p]) (d ++ [p]) = u ++ p :: p :: d.reverse := by simp [roundL]
    have hp0 : (u ++ d.reverse).count p = 0 := List.count_eq_zero.2 (by simpa using hp)
    refine ⟨?_, by rw [er, canc_drop]; exact h2⟩
    intro x hx
    rw [er] at hx ⊢
    have hc : (u ++ p :: p :: d.reverse).count x = (u ++ d.reverse).count x + (if p = x then 2 else 0) := by
      rw [List.count_append, List.count_cons, List.count_cons, List.count_append]
      by_cases e : p = x <;> simp [e] <;> omega
    rw [hc]
    by_cases e : p = x
    · subst e; rw [hp0, if_pos rfl]
    · rw [if_neg e]
      have hm : x ∈ roundL u d := by
        simp only [List.mem_append, List.mem_cons] at hx
        unfold roundL
        rw [List.mem_append]
        rcases hx with hx | hx | hx | hx
        · exact .inl hx
        · exact absurd hx.symm e
        · exact absurd hx.symm e
        · exact .inr hx
      exact h1 x hm
  | 1, e =>
    simp only [rawStep] at e
    split at e
    · cases e
    · next hd =>
      simp only [Option.some.injEq, Prod.mk.injEq] at e
      obtain ⟨rfl, rfl, rfl⟩ := e
      rcases snoc_cases d with rfl | ⟨d0, y, rfl⟩
      · simp at hd
      · have er : roundL (u ++ [lastI (d0 ++ [y])]) (dropTop (d0 ++ [y])) = roundL u (d0 ++ [y]) := by rw [lastI_snoc, dropTop_snoc]; simp [roundL]
        unfold OpenOk
        rw [er]; exact ⟨h1, h2⟩
  | 2, e =>
    simp only [rawStep] at e
    split at e
    · cases e
    · next hd =>
      simp only [Option.some.injEq, Prod.mk.injEq] at e
      obtain ⟨rfl, rfl, rfl⟩ := e
      rcases snoc_cases u with rfl | ⟨u0, y, rfl⟩
      · simp at hd
      · have er : roundL (dropTop (u0 ++ [y])) (d ++ [lastI (u0 ++ [y])]) = roundL (u0 ++ [y]) d := by rw [lastI_snoc, dropTop_snoc]; simp [roundL]
        unfold OpenOk
        rw [er]; exact ⟨h1, h2⟩
  | 3, e =>
    simp only [rawStep] at e
    split at e
    · cases e
    · next hd =>
      simp only [Option.some.injEq, Prod.mk.injEq] at e
      obtain ⟨rfl, rfl, _⟩ := e
      rcases snoc_cases u with rfl | ⟨u0, x, rfl⟩
      · simp at hd
      · rcases snoc_cases d with rfl | ⟨d0, y, rfl⟩
        · simp at hd
        · rw [lastI_snoc, dropTop_snoc, lastI_snoc, dropTop_snoc]
          have er : roundL (u0 ++ [x]) (d0 ++ [y]) = u0 ++ x :: y :: d0.reverse := by simp [roundL]
          have er2 : roundL (u0.map (mgI x y)) (d0.map (mgI x y)) = (u0 ++ d0.reverse).map (mgI x y) := by simp [roundL, List.map_reverse]
          rw [er] at h1 h2
          have hc : ∀ z, (u0 ++ x :: y :: d0.reverse).count z = (u0 ++ d0.reverse).count z + (if x = z then 1 else 0) + (if y = z then 1 else 0) := by
            intro z
            rw [List.count_append, List.count_cons, List.count_cons, List.count_append]
            by_cases e1 : x = z <;> by_cases e2 : y = z <;> simp [e1, e2] <;> omega
          have hmem : ∀ z, z ∈ u0 ++ d0.reverse → z ∈ u0 ++ x :: y :: d0.reverse := by
            intro z hz
            simp only [List.mem_append, List.mem_cons] at hz ⊢
            rcases hz with hz | hz
            · exact .inl hz
            · exact .inr (.inr (.inr hz))
          unfold OpenOk
          rw [er2]
          by_cases hxy : x = y
          · subst hxy
            rw [mg_same]
            refine ⟨?_, by rw [canc_drop] at h2; exact h2⟩
            intro z hz
            have h3 := h1 z (hmem z hz)
            rw [hc] at h3
            by_cases e : x = z
            · subst e
              simp only [if_true] at h3
              have := List.count_pos_iff.2 hz
              omega
            · simp only [if_neg e] at h3; exact h3
          · refine ⟨?_, ?_⟩
            · intro z hz
              have hzy : z ≠ y := fun e => mg_not hxy _ (e ▸ hz)
              by_cases e : z = x
              · subst e
                rw [count_mg hxy]
                have h3 := h1 z (by simp)
                have h4 := h1 y (by simp)
                rw [hc] at h3 h4
                rw [if_pos rfl, if_neg (fun e => hxy e.symm)] at h3
                rw [if_neg hxy, if_pos rfl] at h4
                omega
              · rw [count_mg_other e hzy]
                have hz2 : z ∈ u0 ++ d0.reverse := by
                  have : 0 < ((u0 ++ d0.reverse).map (mgI x y)).count z := List.count_pos_iff.2 hz
                  rw [count_mg_other e hzy] at this
                  exact List.count_pos_iff.1 this
                have h3 := h1 z (hmem z hz2)
                rw [hc, if_neg (fun e2 => e e2.symm), if_neg (fun e2 => hzy e2.symm)] at h3
                exact h3
            · have h3 := canc_map (mgI x y) h2
              rw [List.map_append, List.map_cons, List.map_cons] at h3
              rw [show mgI x y x = x by unfold mgI; rw [if_neg hxy], show mgI x y y = x by unfold mgI; rw [if_pos rfl], canc_drop] at h3
              rw [List.map_append]
              exact h3
  | k + 4, e => simp [rawStep] at e

/-! numbering anew -/
theorem count_inj (g : Int → Int) (x : Int) : ∀ (R : List Int), (∀ a ∈ R, g a = g x → a = x) → (R.map g).count (g x) = R.count x
  | [], _ => rfl
  | a :: R, h => by
    rw [List.map_cons, List.count_cons, List.count_cons, count_inj g x R (fun b hb => h b (by simp [hb]))]
    by_cases e : a = x
    · subst e; simp
    · have : ¬ g a = g x := fun e2 => e (h a (by simp) e2)
      simp [e, this]
theorem idx_inj {S : List Int} {a b : Int} (ha : a ∈ S) (hb : b ∈ S) (e : S.idxOf a = S.idxOf b) : a = b := by
  have h1 := List.getElem_idxOf (List.idxOf_lt_length_iff.2 ha)
  have h2 := List.getElem_idxOf (List.idxOf_lt_length_iff.2 hb)
  rw [← h1, ← h2]
  simp only [e]
theorem ren_ok {u d : List Int} (h : OpenOk u d) : OpenOk (renU u) (renD u d) := by
  have er : roundL (renU u) (renD u d) = (roundL u d).map fun x => ((seenL [] (u ++ d)).idxOf x : Int) := by
    unfold roundL
    rw [renU_map u d, renD_map, List.map_append, List.map_reverse]
  have hm : ∀ x ∈ roundL u d, x ∈ seenL [] (u ++ d) := fun x hx => (seenL_mem _ _ _).2 (.inr (by unfold roundL at hx; simpa using hx))
  refine ⟨?_, by rw [er]; exact canc_map _ h.2⟩
  rw [er]
  intro z hz
  obtain ⟨x, hx, rfl⟩ := List.mem_map.1 hz
  rw [count_inj (fun x => ((seenL [] (u ++ d)).idxOf x : Int)) x _ (fun a ha e => idx_inj (hm a ha) (hm x hx) (Int.ofNat.inj e))]
  exact h.1 x hx
theorem upTo_snoc (m : Nat) : upTo m ++ [(m : Int)] = upTo (m + 1) := by simp [upTo, List.range_succ]
theorem upTo_idx {m i : Nat} (h : i < m) : (upTo m).idxOf (i : Int) = i := by
  have hn := upTo_nodup m
  have hl : i < (upTo m).length := by rw [upTo_length]; exact h
  have := hn.idxOf_getElem i hl
  simpa [upTo] using this
theorem numL_again : ∀ (l S : List Int), numL (upTo S.length) (numL S l) = numL S l ∧ seenL (upTo S.length) (numL S l) = upTo (seenL S l).length
  | [], S => ⟨rfl, rfl⟩
  | x :: l, S => by
    by_cases hx : x ∈ S
    · have hi := List.idxOf_lt_length_iff.2 hx
      have ih := numL_again l S
      have hm : ((S.idxOf x : Nat) : Int) ∈ upTo S.length := mem_upTo.2 ⟨by omega, by omega⟩
      have e1 : numL S (x :: l) = (S.idxOf x : Int) :: numL S l := by conv => lhs; unfold numL; rw [if_pos hx]
      have e2 : seenL S (x :: l) = seenL S l := by conv => lhs; unfold seenL; rw [if_pos hx]
      rw [e1, e2]
      refine ⟨?_, ?_⟩
      · conv => lhs; unfold numL
        rw [if_pos hm, upTo_idx hi, ih.1]
      · conv => lhs; unfold seenL
        rw [if_pos hm, ih.2]
    · have ih := numL_again l (S ++ [x])
      rw [List.length_append, List.length_singleton] at ih
      have hm : (S.length : Int) ∉ upTo S.length := fun h => by have := mem_upTo.1 h; omega
      have e1 : numL S (x :: l) = (S.length : Int) :: numL (S ++ [x]) l := by conv => lhs; unfold numL; rw [if_neg hx]
      have e2 : seenL S (x :: l) = seenL (S ++ [x]) l := by conv => lhs; unfold seenL; rw [if_neg hx]
      rw [e1, e2]
      refine ⟨?_, ?_⟩
      · conv => lhs; unfold numL
        rw [if_neg hm, upTo_length, upTo_snoc, ih.1]
      · conv => lhs; unfold seenL
        rw [if_neg hm, upTo_snoc, ih.2]
theorem ren_again (u d : List Int) : renU (renU u) = renU u ∧ renD (renU u) (renD u d) = renD u d := by
  have h1 := numL_again u []
  have e0 : upTo ([] : List Int).length = [] := by simp [upTo]
  rw [e0] at h1
  refine ⟨h1.1, ?_⟩
  unfold renD
  have h3 : seenL [] (renU u) = upTo (seenL [] u).length := h1.2
  rw [h3]
  exact (numL_again d (seenL [] u)).1
theorem ok_state {u d : List Int} {c : Int} (h : OpenOk u d) : stateB (renU u) (renD u d) c = (decide (u.length ≤ 6) && decide (d.length ≤ 6) && inB c 0 6) := by
  have h1 := ren_again u d
  have h2 := ren_ok h
  unfold stateB
  rw [renU_length, renD_length, decide_eq_true h1, (twice_iff _).2 h2.1, h2.2]
  simp
theorem state_ok {u d : List Int} {c : Int} (h : stateB u d c = true) : OpenOk u d := by
  have := state_facts h
  exact ⟨(twice_iff _).1 this.2.2.2.2.2.1, List.eq_nil_of_length_eq_zero this.2.2.2.2.2.2⟩
/-- the parts of a state are numbered from 0 on -/
theorem state_small {u d : List Int} {c : Int} (h : stateB u d c = true) : ∀ x ∈ u ++ d, 0 ≤ x ∧ x < partI u d := by
  obtain ⟨h1, h2, h3, h4, h5, h6, h7⟩ := state_facts h
  intro x hx
  have hb := ren_bd u d x (by rw [h4, h5]; exact hx)
  have := twice_len (seenL [] (u ++ d)) (u ++ d) (seenL_nodup _ _ (by simp)) (fun y hy => by
    rw [← roundL_count]
    have hm : y ∈ u ++ d := ((seenL_mem _ _ _).1 hy).resolve_left (by simp)
    exact (twice_iff _).1 h6 y (by unfold roundL; rw [List.mem_append, List.mem_reverse, ← List.mem_append]; exact hm))
  rw [List.length_append] at this
  unfold partI
  omega

/-! another name for the new part -/
theorem idx_map (g : Int → Int) (x : Int) : ∀ (S : List Int), (∀ a ∈ S, g a = g x → a = x) → (S.map g).idxOf (g x) = S.idxOf x
  | [], _ => rfl
  | a :: S, h => by
    rw [List.map_cons, List.idxOf_cons, List.idxOf_cons, idx_map g x S (fun b hb => h b (by simp [hb]))]
    by_cases e : a = x
    · subst e; simp
    · have : ¬ g a = g x := fun e2 => e (h a (by simp) e2)
      rw [show (g a == g x) = false by simpa using this, show (a == x) = false by simpa using e]
theorem num_map (g : Int → Int) : ∀ (l S : List Int), (∀ a ∈ S ++ l, ∀ b ∈ S ++ l, g a = g b → a = b) → numL (S.map g) (l.map g) = numL S l ∧ seenL (S.map g) (l.map g) = (seenL S l).map g
  | [], S, _ => ⟨rfl, rfl⟩
  | x :: l, S, h => by
    have hmem : g x ∈ S.map g ↔ x ∈ S := by
      constructor
      · intro hm
        obtain ⟨a, ha, e⟩ := List.mem_map.1 hm
        rw [← h a (by simp [ha]) x (by simp) e]; exact ha
      · exact fun hm => List.mem_map.2 ⟨x, hm, rfl⟩
    rw [List.map_cons]
    by_cases hx : x ∈ S
    · have ih := num_map g l S (fun a ha b hb => h a (by simp at ha ⊢; rcases ha with ha | ha <;> simp [ha]) b (by simp at hb ⊢; rcases hb with hb | hb <;> simp [hb]))
      refine ⟨?_, ?_⟩
      · unfold numL
        rw [if_pos (hmem.2 hx), if_pos hx, ih.1, idx_map g x S (fun a ha e => h a (by simp [ha]) x (by simp) e)]
      · unfold seenL
        rw [if_pos (hmem.2 hx), if_pos hx, ih.2]
    · have ih := num_map g l (S ++ [x]) (fun a ha b hb => h a (by simpa using ha) b (by simpa using hb))
      rw [List.map_append, List.map_singleton] at ih
      have hn : ¬ g x ∈ S.map g := fun hm => hx (hmem.1 hm)
      refine ⟨?_, ?_⟩
      · unfold numL
        rw [if_neg hn, if_neg hx, ih.1, List.length_map]
      · unfold seenL
        rw [if_neg hn, if_neg hx, ih.2]
theorem new_part {u d : List Int} {p q : Int} (hp : p ∉ u ++ d) (hq : q ∉ u ++ d) : renU (u ++ [q]) = renU (u ++ [p]) ∧ renD (u ++ [q]) (d ++ [q]) = renD (u ++ [p]) (d ++ [p]) := by
  have hg : ∀ l : List Int, q ∉ l → l.map (fun z => if z = q then p else z) = l := by
    intro l hl
    conv => rhs; rw [← List.map_id l]
    refine List.map_congr_left fun z hz => ?_
    have hzq : ¬ z = q := by intro e; subst e; exact hl hz
    rw [if_neg hzq]; rfl
  rw [List.mem_append, not_or] at hp hq
  have inj : ∀ a ∈ [] ++ ((u ++ [q]) ++ (d ++ [q])), ∀ b ∈ [] ++ ((u ++ [q]) ++ (d ++ [q])), (fun z => if z = q then p else z) a = (fun z => if z = q then p else z) b → a = b := by
    intro a ha b hb e
    simp only [List.nil_append, List.mem_append, List.mem_singleton] at ha hb
    simp only at e
    by_cases h1 : a = q
    · by_cases h2 : b = q
      · rw [h1, h2]
      · rw [if_pos h1, if_neg h2] at e
        subst e
        rcases hb with (hb | hb) | (hb | hb)
        · exact absurd hb hp.1
        · exact absurd hb h2
        · exact absurd hb hp.2
        · exact absurd hb h2
    · by_cases h2 : b = q
      · rw [if_neg h1, if_pos h2] at e
        subst e
        rcases ha with (ha | ha) | (ha | ha)
        · exact absurd ha hp.1
        · exact absurd ha h1
        · exact absurd ha hp.2
        · exact absurd ha h1
      · rw [if_neg h1, if_neg h2] at e; exact e
  have eu : (u ++ [q]).map (fun z => if z = q then p else z) = u ++ [p] := by rw [List.map_append, hg u hq.1]; simp
  have ed : (d ++ [q]).map (fun z => if z = q then p else z) = d ++ [p] := by rw [List.map_append, hg d hq.2]; simp
  have h1 := num_map (fun z => if z = q then p else z) (u ++ [q]) [] (fun a ha b hb => inj a (by simp at ha ⊢; rcases ha with ha | ha <;> simp [ha]) b (by simp at hb ⊢; rcases hb with hb | hb <;> simp [hb]))
  rw [eu, List.map_nil] at h1
  have h2 := num_map (fun z => if z = q then p else z) (d ++ [q]) (seenL [] (u ++ [q])) (fun a ha b hb => inj a (by
    rw [List.mem_append, seenL_mem] at ha
    simp at ha ⊢
    rcases ha with (ha | ha) | (ha | ha) <;> simp [ha]) b (by
    rw [List.mem_append, seenL_mem] at hb
    simp at hb ⊢
    rcases hb with (hb | hb) | (hb | hb) <;> simp [hb]))
  rw [ed, ← h1.2] at h2
  exact ⟨h1.1.symm, h2.1.symm⟩

/-- the state behind a step -/
def stepO (u d : List Int) (c : Int) (k : Nat) : Option (List Int × List Int × Int) :=
  match rawStep (partI u d) u d c k with
  | none => none
  | some (u', d', c') => if u'.length ≤ 6 ∧ d'.length ≤ 6 ∧ c' ≤ 6 then some (renU u', renD u' d', c') else none
theorem raw_c {p : Int} {u d u' d' : List Int} {c c' : Int} {k : Nat} (e : rawStep p u d c k = some (u', d', c')) : c' = c ∨ c' = c + 1 := by
  match k, e with
  | 0, e => simp only [rawStep, Option.some.injEq, Prod.mk.injEq] at e; exact .inl e.2.2.symm
  | 1, e => simp only [rawStep] at e; split at e; cases e; simp only [Option.some.injEq, Prod.mk.injEq] at e; exact .inl e.2.2.symm
  | 2, e => simp only [rawStep] at e; split at e; cases e; simp only [Option.some.injEq, Prod.mk.injEq] at e; exact .inl e.2.2.symm
  | 3, e =>
    simp only [rawStep] at e; split at e; cases e
    simp only [Option.some.injEq, Prod.mk.injEq] at e
    have := e.2.2
    split at this
    · exact .inr this.symm
    · exact .inl this.symm
  | k + 4, e => simp [rawStep] at e
theorem part_new {u d : List Int} {c : Int} (h : stateB u d c = true) : partI u d ∉ u ++ d := fun hm => by have := state_small h _ hm; omega
theorem step_state {u d u' d' : List Int} {c c' : Int} {k : Nat} (h : stateB u d c = true) (e : stepO u d c k = some (u', d', c')) : stateB u' d' c' = true := by
  unfold stepO at e
  split at e
  · cases e
  · next a b x hr =>
    split at e
    · next hl =>
      simp only [Option.some.injEq, Prod.mk.injEq] at e
      obtain ⟨rfl, rfl, rfl⟩ := e
      rw [ok_state (raw_ok (state_ok h) (part_new h) hr)]
      have := raw_c hr
      have h3 := (state_facts h).2.2.1
      simp only [Bool.and_eq_true, decide_eq_true_eq, inB_iff]
      omega
    · cases e

end Go.Proofs.Ytllhdmpnjcemkac
