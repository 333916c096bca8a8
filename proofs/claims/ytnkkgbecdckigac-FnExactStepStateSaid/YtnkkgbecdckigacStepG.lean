/- frontier.step. -/
import Derived.Test.YtnkkgbecdckigacStepF
import Derived.Test.YtnkkgbecdckigacReadState
import Derived.Test.YtnkkgbecdckigacStMirF
namespace Go.Proofs.Ytnkkgbecdckigac
open Go.RowKit Go.Maps
set_option linter.unusedSimpArgs false
set_option linter.unusedVariables false

theorem stepOut_no {w w' : World} {b : Nat} {e : Ending} (h : LeadNo w b e w') : StepOut w b none e w' := ⟨h.2, h.1⟩
theorem cap_yes {u d : List Int} {c : Int} (h : u.length ≤ 6 ∧ d.length ≤ 6 ∧ c ≤ 6) : capO (some (u, d, c)) = some (u, d, c) := if_pos h
theorem cap_no {u d : List Int} {c : Int} (h : ¬ (u.length ≤ 6 ∧ d.length ≤ 6 ∧ c ≤ 6)) : capO (some (u, d, c)) = none := if_neg h
theorem op0 (b : Nat) (u d : List Int) (c : Int) (w : World) (h : FrIn w b u d c) (hu : u.length ≤ 6) (hd : d.length ≤ 6) (hc : 0 ≤ c ∧ c ≤ 6) :
    Calls Try.prog 75 #[.pointer (some ⟨b, 0, none⟩)] w (StepOut w b (capO (rawStep (partI u d) u d c 0))) := by
  have h1 := begin_any b u d c w h hu hd
  have e : capO (rawStep (partI u d) u d c 0) = if u.length < 6 ∧ d.length < 6 then some (u ++ [partI u d], d ++ [partI u d], c) else none := by
    show capO (some (u ++ [partI u d], d ++ [partI u d], c)) = _
    by_cases h2 : u.length < 6 ∧ d.length < 6
    · rw [if_pos h2, cap_yes (by simp; omega)]
    · rw [if_neg h2, cap_no (by simp; omega)]
  rw [e]; exact h1
theorem op1 (b : Nat) (u d : List Int) (c : Int) (w : World) (h : FrIn w b u d c) (hu : u.length ≤ 6) (hd : d.length ≤ 6) (hc : 0 ≤ c ∧ c ≤ 6) :
    Calls Try.prog 76 #[.pointer (some ⟨b, 7, none⟩), .pointer (some ⟨b, 0, none⟩)] w (StepOut w b (capO (rawStep (partI u d) u d c 1))) := by
  rcases snoc_cases d with rfl | ⟨d0, x, rfl⟩
  · have e : capO (rawStep (partI u []) u [] c 1) = none := by simp [rawStep, capO]
    rw [e]
    exact (lead_none b 7 0 (.inr ⟨rfl, rfl⟩) u c w h hu).mono fun _ _ h => stepOut_no h
  · have e : rawStep (partI u (d0 ++ [x])) u (d0 ++ [x]) c 1 = some (u ++ [x], d0, c) := by simp [rawStep, lastI_snoc, dropTop_snoc]
    have hl : d0.length < 6 := by simp at hd; omega
    rw [e]
    by_cases h6 : u.length < 6
    · rw [cap_yes (by simp; omega)]
      exact (lead_yes b 7 0 (.inr ⟨rfl, rfl⟩) d0 u c x w h hl h6).mono fun _ _ h => ⟨h.2.2, h.1, h.2.1⟩
    · rw [cap_no (by simp; omega)]
      exact (lead_full b 7 0 (.inr ⟨rfl, rfl⟩) d0 u c x w h hl (by omega)).mono fun _ _ h => stepOut_no h
theorem op2 (b : Nat) (u d : List Int) (c : Int) (w : World) (h : FrIn w b u d c) (hu : u.length ≤ 6) (hd : d.length ≤ 6) (hc : 0 ≤ c ∧ c ≤ 6) :
    Calls Try.prog 76 #[.pointer (some ⟨b, 0, none⟩), .pointer (some ⟨b, 7, none⟩)] w (StepOut w b (capO (rawStep (partI u d) u d c 2))) := by
  rcases snoc_cases u with rfl | ⟨u0, x, rfl⟩
  · have e : capO (rawStep (partI [] d) [] d c 2) = none := by simp [rawStep, capO]
    rw [e]
    exact (lead_none b 0 7 (.inl ⟨rfl, rfl⟩) d c w h hd).mono fun _ _ h => stepOut_no h
  · have e : rawStep (partI (u0 ++ [x]) d) (u0 ++ [x]) d c 2 = some (u0, d ++ [x], c) := by simp [rawStep, lastI_snoc, dropTop_snoc]
    have hl : u0.length < 6 := by simp at hu; omega
    rw [e]
    by_cases h6 : d.length < 6
    · rw [cap_yes (by simp; omega)]
      exact (lead_yes b 0 7 (.inl ⟨rfl, rfl⟩) u0 d c x w h hl h6).mono fun _ _ h => ⟨h.2.2, h.1, h.2.1⟩
    · rw [cap_no (by simp; omega)]
      exact (lead_full b 0 7 (.inl ⟨rfl, rfl⟩) u0 d c x w h hl (by omega)).mono fun _ _ h => stepOut_no h
theorem op3 (b : Nat) (u d : List Int) (c : Int) (w : World) (h : FrIn w b u d c) (hu : u.length ≤ 6) (hd : d.length ≤ 6) (hc : 0 ≤ c ∧ c ≤ 6) :
    Calls Try.prog 77 #[.pointer (some ⟨b, 0, none⟩)] w (StepOut w b (capO (rawStep (partI u d) u d c 3))) := by
  rcases snoc_cases u with rfl | ⟨u0, x, rfl⟩
  · have e : capO (rawStep (partI [] d) [] d c 3) = none := by simp [rawStep, capO]
    rw [e]; exact end_noU b d c w h hd
  · have hl : u0.length < 6 := by simp at hu; omega
    rcases snoc_cases d with rfl | ⟨d0, y, rfl⟩
    · have e : capO (rawStep (partI (u0 ++ [x]) []) (u0 ++ [x]) [] c 3) = none := by simp [rawStep, capO]
      rw [e]; exact end_noD b u0 c x w h hl
    · have hl2 : d0.length < 6 := by simp at hd; omega
      have e : rawStep (partI (u0 ++ [x]) (d0 ++ [y])) (u0 ++ [x]) (d0 ++ [y]) c 3 = some (u0.map (mgI x y), d0.map (mgI x y), if x = y then c + 1 else c) := by simp [rawStep, lastI_snoc, dropTop_snoc]
      rw [e]
      by_cases hxy : x = y
      · subst hxy
        rw [if_pos rfl, mg_same, mg_same]
        have e2 : capO (some (u0, d0, c + 1)) = if c + 1 ≤ 6 then some (u0, d0, c + 1) else none := by
          by_cases h6 : c + 1 ≤ 6
          · rw [if_pos h6, cap_yes (by omega)]
          · rw [if_neg h6, cap_no (by omega)]
        rw [e2]; exact end_close b u0 d0 c x w h hl hl2 hc
      · rw [if_neg hxy, cap_yes (by simp; omega)]
        exact end_join b u0 d0 c x y w h hl hl2 hxy

theorem results_fstep (tmps : Array Value) (w : World) (g : Nat) (u d : List Int) (c : Int) (ok : Bool) (hu : u.length ≤ 6) (hd : d.length ≤ 6) (hg : FrIn w g u d c) (h4 : tmps.getD 4 undef = .pointer (some ⟨g, 0, none⟩)) (h5 : tmps.getD 5 undef = .bool ok) :
    (results Try.f51 tmps).run Try.prog w = .ok (.tuple #[.agg (frC u d c), .bool ok]) w := by
  have h4' : tmps[4]?.getD undef = .pointer (some ⟨g, 0, none⟩) := by simpa using h4
  have h5' : tmps[5]?.getD undef = .bool ok := by simpa using h5
  have hr : Try.f51.results = #[.cell 4 66, .tmp 5] := by kernel_rfl
  simp [results, hr, h4', h5', asAddr, run_loadFr w g u d c hu hd hg]
theorem stepO_cap (u d : List Int) (c : Int) (k : Nat) : stepO u d c k = match capO (rawStep (partI u d) u d c k) with | none => none | some (u', d', c') => some (renU u', renD u' d', c') := by
  unfold stepO
  cases rawStep (partI u d) u d c k with
  | none => rfl
  | some r =>
    obtain ⟨a, b, x⟩ := r
    simp only
    by_cases h : a.length ≤ 6 ∧ b.length ≤ 6 ∧ x ≤ 6
    · rw [if_pos h, cap_yes h]
    · rw [if_neg h, cap_no h]
/-- what step hands back -/
def stU (r : Option (List Int × List Int × Int)) : List Int := match r with | some (u, _, _) => u | none => []
def stD (r : Option (List Int × List Int × Int)) : List Int := match r with | some (_, d, _) => d | none => []
def stC (r : Option (List Int × List Int × Int)) : Int := match r with | some (_, _, c) => c | none => 0
theorem raw_wf {p : Int} {u d u' d' : List Int} {c c' : Int} {k : Nat} (hp : -9223372036854775808 ≤ p ∧ p ≤ 9223372036854775807) (wu : Wf u) (wd : Wf d) (e : rawStep p u d c k = some (u', d', c')) : Wf u' ∧ Wf d' := by
  have hlast : ∀ l : List Int, Wf l → l.length ≠ 0 → -9223372036854775808 ≤ lastI l ∧ lastI l ≤ 9223372036854775807 := by
    intro l hw h0
    rcases snoc_cases l with rfl | ⟨l0, x, rfl⟩
    · simp at h0
    · rw [lastI_snoc]; exact hw x (by simp)
  have hdrop : ∀ l : List Int, Wf l → Wf (dropTop l) := fun l hw x hx => hw x (List.mem_of_mem_take hx)
  have hmg : ∀ (l : List Int) (x y : Int), (-9223372036854775808 ≤ x ∧ x ≤ 9223372036854775807) → Wf l → Wf (l.map (mgI x y)) := by
    intro l x y hx hw z hz
    obtain ⟨a, ha, rfl⟩ := List.mem_map.1 hz
    unfold mgI; split
    · exact hx
    · exact hw a ha
  have hsn : ∀ (l : List Int) (x : Int), Wf l → (-9223372036854775808 ≤ x ∧ x ≤ 9223372036854775807) → Wf (l ++ [x]) := by
    intro l x hw hx z hz
    simp only [List.mem_append, List.mem_singleton] at hz
    rcases hz with hz | rfl
    · exact hw z hz
    · exact hx
  match k, e with
  | 0, e =>
    simp only [rawStep, Option.some.injEq, Prod.mk.injEq] at e
    obtain ⟨rfl, rfl, rfl⟩ := e
    exact ⟨hsn _ _ wu hp, hsn _ _ wd hp⟩
  | 1, e =>
    simp only [rawStep] at e
    split at e
    · cases e
    · next h0 =>
      simp only [Option.some.injEq, Prod.mk.injEq] at e
      obtain ⟨rfl, rfl, rfl⟩ := e
      exact ⟨hsn _ _ wu (hlast _ wd h0), hdrop _ wd⟩
  | 2, e =>
    simp only [rawStep] at e
    split at e
    · cases e
    · next h0 =>
      simp only [Option.some.injEq, Prod.mk.injEq] at e
      obtain ⟨rfl, rfl, rfl⟩ := e
      exact ⟨hdrop _ wu, hsn _ _ wd (hlast _ wu h0)⟩
  | 3, e =>
    simp only [rawStep] at e
    split at e
    · cases e
    · next h0 =>
      simp only [Option.some.injEq, Prod.mk.injEq] at e
      obtain ⟨rfl, rfl, _⟩ := e
      exact ⟨hmg _ _ _ (hlast _ wu (by omega)) (hdrop _ wu), hmg _ _ _ (hlast _ wu (by omega)) (hdrop _ wd)⟩
  | k + 4, e => simp [rawStep] at e
set_option maxHeartbeats 2000000 in
theorem step0 (u d : List Int) (c : Int) (w : World) (hu : u.length ≤ 6) (hd : d.length ≤ 6) (hc : 0 ≤ c ∧ c ≤ 6) (wu : Wf u) (wd : Wf d) :
    Calls Try.prog 51 #[.agg (frC u d c), .int .i64 0] w (FrOut w (stU (stepO u d c 0)) (stD (stepO u d c 0)) (stC (stepO u d c 0)) (stepO u d c 0).isSome) := by
  have hp : -9223372036854775808 ≤ partI u d ∧ partI u d ≤ 9223372036854775807 := by unfold partI; omega
  have hz := fr_zero (w.alloc (.cells (frC u d c) 66))
  rw [World.size_alloc] at hz
  have hbox : FrIn ((w.alloc (.cells (frC u d c) 66)).alloc (.cells #[.int .i64 0, .int .i64 0, .int .i64 0, .int .i64 0, .int .i64 0, .int .i64 0, .int .i64 0, .int .i64 0, .int .i64 0, .int .i64 0, .int .i64 0, .int .i64 0, .int .i64 0, .int .i64 0, .int .i64 0] 66)) w.heap.size u d c := FrIn.below (heap_alloc_new w _) (Below.alloc1 _ _)
  have B2 := Below.step (Below.alloc1 w (.cells (frC u d c) 66)) (Below.alloc1 _ (.cells #[.int .i64 0, .int .i64 0, .int .i64 0, .int .i64 0, .int .i64 0, .int .i64 0, .int .i64 0, .int .i64 0, .int .i64 0, .int .i64 0, .int .i64 0, .int .i64 0, .int .i64 0, .int .i64 0, .int .i64 0] 66))
  have ho := op0 w.heap.size u d c _ hbox hu hd hc
  rw [stepO_cap]
  have hcap : ∀ u' d' c', capO (rawStep (partI u d) u d c 0) = some (u', d', c') → u'.length ≤ 6 ∧ d'.length ≤ 6 ∧ Wf u' ∧ Wf d' := by
    intro u' d' c' e
    cases hr : rawStep (partI u d) u d c 0 with
    | none => rw [hr] at e; cases e
    | some r =>
      obtain ⟨a, b, x⟩ := r
      rw [hr] at e
      by_cases h : a.length ≤ 6 ∧ b.length ≤ 6 ∧ x ≤ 6
      · rw [cap_yes h] at e
        simp only [Option.some.injEq, Prod.mk.injEq] at e
        obtain ⟨rfl, rfl, rfl⟩ := e
        have := raw_wf hp wu wd hr
        exact ⟨h.1, h.2.1, this.1, this.2⟩
      · rw [cap_no h] at e; cases e
  cases hr : capO (rawStep (partI u d) u d c 0) with
  | none =>
    rw [hr] at ho
    have HO := Lib.hid ho; have HB := Lib.hid B2; have HZ := Lib.hid hz
    clear hz hbox B2 ho hcap hr hu hd hc wu wd
    simp only [stU, stD, stC, Option.isSome]
    go_enter Try.func51, Try.ntmps51
    go_wp2_with (first
      | (go_at_call 75; ((with_reducible refine HO.out.mono ?_); rintro e w1 ⟨hg1, he⟩; have he2 : e = .returned (.bool false) := he; subst he2; have HZ1 := Lib.hid (fr_kept HZ.out hg1 (by omega)); have HB1 := Lib.hid (HB.out.grown hg1 HB.out.size (by intro k hk; simp at hk; omega)); clear he hg1))
      | ((with_reducible refine wp_storeFr0 rfl (.tmp 4) (.tmp 26) rfl (w.heap.size + 1) [] [] 0 (Nat.zero_le _) (Nat.zero_le _) rfl rfl HZ1.out ?_); intro w2 hs2 hg2))
    exact bodyPost_ret (results_fstep _ _ (w.heap.size + 1) [] [] 0 false (Nat.zero_le _) (Nat.zero_le _) hs2 rfl rfl) rfl ⟨rfl, HB1.out.grown hg2 HB1.out.size (by intro k hk; simp at hk; omega)⟩
  | some r =>
    obtain ⟨u', d', c'⟩ := r
    obtain ⟨l1, l2, w1', w2'⟩ := hcap u' d' c' hr
    rw [hr] at ho
    have hrn := fun w => renumbered_any u' d' c' w l1 l2 w1' w2'
    have m1 : (renU u').length ≤ 6 := by rw [renU_length]; exact l1
    have m2 : (renD u' d').length ≤ 6 := by rw [renD_length]; exact l2
    have HO := Lib.hid ho; have HB := Lib.hid B2; have HZ := Lib.hid hz; have HRN := Lib.hid hrn; have L1 := Lib.hid l1; have L2 := Lib.hid l2; have M1 := Lib.hid m1; have M2 := Lib.hid m2
    clear hz hbox B2 ho hcap hr hu hd hc wu wd hrn l1 l2 m1 m2 w1' w2'
    simp only [stU, stD, stC, Option.isSome]
    generalize renU u' = ru at *
    generalize renD u' d' = rd at *
    go_enter Try.func51, Try.ntmps51
    go_wp2_with (first
      | (go_at_call 75; ((with_reducible refine HO.out.mono ?_); rintro e w1 ⟨hg1, he⟩; have he2 : e = .returned (.bool true) ∧ FrIn w1 w.heap.size u' d' c' := he; obtain ⟨he3, hs1⟩ := he2; subst he3; have HS1 := Lib.hid hs1; have HZ1 := Lib.hid (fr_kept HZ.out hg1 (by omega)); have HB1 := Lib.hid (HB.out.grown hg1 HB.out.size (by intro k hk; simp at hk; omega)); clear he hg1 hs1))
      | (with_reducible refine wp_loadFr rfl (.tmp 2) rfl w.heap.size u' d' c' L1.out L2.out rfl HS1.out ?_)
      | (go_at_call 71; ((with_reducible refine (HRN.out _).mono ?_); rintro e w2 ⟨rfl, hb2⟩; have HZ2 : Hid (FrIn w2 (w.heap.size + 1) [] [] 0) := FrIn.below HZ1.out hb2; have HB2 := Lib.hid (Below.step HB1.out hb2); clear hb2))
      | ((with_reducible refine wp_storeFr rfl (.tmp 4) (.tmp 28) rfl (w.heap.size + 1) ru rd [] [] c' 0 M1.out M2.out (Nat.zero_le _) (Nat.zero_le _) rfl rfl HZ2.out ?_); intro w3 hs3 hg3))
    exact bodyPost_ret (results_fstep _ _ (w.heap.size + 1) ru rd c' true M1.out M2.out hs3 rfl rfl) rfl ⟨rfl, HB2.out.grown hg3 HB2.out.size (by intro k hk; simp at hk; omega)⟩
set_option maxHeartbeats 2000000 in
theorem step1 (u d : List Int) (c : Int) (w : World) (hu : u.length ≤ 6) (hd : d.length ≤ 6) (hc : 0 ≤ c ∧ c ≤ 6) (wu : Wf u) (wd : Wf d) :
    Calls Try.prog 51 #[.agg (frC u d c), .int .i64 1] w (FrOut w (stU (stepO u d c 1)) (stD (stepO u d c 1)) (stC (stepO u d c 1)) (stepO u d c 1).isSome) := by
  have hp : -9223372036854775808 ≤ partI u d ∧ partI u d ≤ 9223372036854775807 := by unfold partI; omega
  have hz := fr_zero (w.alloc (.cells (frC u d c) 66))
  rw [World.size_alloc] at hz
  have hbox : FrIn ((w.alloc (.cells (frC u d c) 66)).alloc (.cells #[.int .i64 0, .int .i64 0, .int .i64 0, .int .i64 0, .int .i64 0, .int .i64 0, .int .i64 0, .int .i64 0, .int .i64 0, .int .i64 0, .int .i64 0, .int .i64 0, .int .i64 0, .int .i64 0, .int .i64 0] 66)) w.heap.size u d c := FrIn.below (heap_alloc_new w _) (Below.alloc1 _ _)
  have B2 := Below.step (Below.alloc1 w (.cells (frC u d c) 66)) (Below.alloc1 _ (.cells #[.int .i64 0, .int .i64 0, .int .i64 0, .int .i64 0, .int .i64 0, .int .i64 0, .int .i64 0, .int .i64 0, .int .i64 0, .int .i64 0, .int .i64 0, .int .i64 0, .int .i64 0, .int .i64 0, .int .i64 0] 66))
  have ho := op1 w.heap.size u d c _ hbox hu hd hc
  rw [stepO_cap]
  have hcap : ∀ u' d' c', capO (rawStep (partI u d) u d c 1) = some (u', d', c') → u'.length ≤ 6 ∧ d'.length ≤ 6 ∧ Wf u' ∧ Wf d' := by
    intro u' d' c' e
    cases hr : rawStep (partI u d) u d c 1 with
    | none => rw [hr] at e; cases e
    | some r =>
      obtain ⟨a, b, x⟩ := r
      rw [hr] at e
      by_cases h : a.length ≤ 6 ∧ b.length ≤ 6 ∧ x ≤ 6
      · rw [cap_yes h] at e
        simp only [Option.some.injEq, Prod.mk.injEq] at e
        obtain ⟨rfl, rfl, rfl⟩ := e
        have := raw_wf hp wu wd hr
        exact ⟨h.1, h.2.1, this.1, this.2⟩
      · rw [cap_no h] at e; cases e
  cases hr : capO (rawStep (partI u d) u d c 1) with
  | none =>
    rw [hr] at ho
    have HO := Lib.hid ho; have HB := Lib.hid B2; have HZ := Lib.hid hz
    clear hz hbox B2 ho hcap hr hu hd hc wu wd
    simp only [stU, stD, stC, Option.isSome]
    go_enter Try.func51, Try.ntmps51
    go_wp2_with (first
      | (go_at_call 76; ((with_reducible refine HO.out.mono ?_); rintro e w1 ⟨hg1, he⟩; have he2 : e = .returned (.bool false) := he; subst he2; have HZ1 := Lib.hid (fr_kept HZ.out hg1 (by omega)); have HB1 := Lib.hid (HB.out.grown hg1 HB.out.size (by intro k hk; simp at hk; omega)); clear he hg1))
      | ((with_reducible refine wp_storeFr0 rfl (.tmp 4) (.tmp 26) rfl (w.heap.size + 1) [] [] 0 (Nat.zero_le _) (Nat.zero_le _) rfl rfl HZ1.out ?_); intro w2 hs2 hg2))
    exact bodyPost_ret (results_fstep _ _ (w.heap.size + 1) [] [] 0 false (Nat.zero_le _) (Nat.zero_le _) hs2 rfl rfl) rfl ⟨rfl, HB1.out.grown hg2 HB1.out.size (by intro k hk; simp at hk; omega)⟩
  | some r =>
    obtain ⟨u', d', c'⟩ := r
    obtain ⟨l1, l2, w1', w2'⟩ := hcap u' d' c' hr
    rw [hr] at ho
    have hrn := fun w => renumbered_any u' d' c' w l1 l2 w1' w2'
    have m1 : (renU u').length ≤ 6 := by rw [renU_length]; exact l1
    have m2 : (renD u' d').length ≤ 6 := by rw [renD_length]; exact l2
    have HO := Lib.hid ho; have HB := Lib.hid B2; have HZ := Lib.hid hz; have HRN := Lib.hid hrn; have L1 := Lib.hid l1; have L2 := Lib.hid l2; have M1 := Lib.hid m1; have M2 := Lib.hid m2
    clear hz hbox B2 ho hcap hr hu hd hc wu wd hrn l1 l2 m1 m2 w1' w2'
    simp only [stU, stD, stC, Option.isSome]
    generalize renU u' = ru at *
    generalize renD u' d' = rd at *
    go_enter Try.func51, Try.ntmps51
    go_wp2_with (first
      | (go_at_call 76; ((with_reducible refine HO.out.mono ?_); rintro e w1 ⟨hg1, he⟩; have he2 : e = .returned (.bool true) ∧ FrIn w1 w.heap.size u' d' c' := he; obtain ⟨he3, hs1⟩ := he2; subst he3; have HS1 := Lib.hid hs1; have HZ1 := Lib.hid (fr_kept HZ.out hg1 (by omega)); have HB1 := Lib.hid (HB.out.grown hg1 HB.out.size (by intro k hk; simp at hk; omega)); clear he hg1 hs1))
      | (with_reducible refine wp_loadFr rfl (.tmp 2) rfl w.heap.size u' d' c' L1.out L2.out rfl HS1.out ?_)
      | (go_at_call 71; ((with_reducible refine (HRN.out _).mono ?_); rintro e w2 ⟨rfl, hb2⟩; have HZ2 : Hid (FrIn w2 (w.heap.size + 1) [] [] 0) := FrIn.below HZ1.out hb2; have HB2 := Lib.hid (Below.step HB1.out hb2); clear hb2))
      | ((with_reducible refine wp_storeFr rfl (.tmp 4) (.tmp 28) rfl (w.heap.size + 1) ru rd [] [] c' 0 M1.out M2.out (Nat.zero_le _) (Nat.zero_le _) rfl rfl HZ2.out ?_); intro w3 hs3 hg3))
    exact bodyPost_ret (results_fstep _ _ (w.heap.size + 1) ru rd c' true M1.out M2.out hs3 rfl rfl) rfl ⟨rfl, HB2.out.grown hg3 HB2.out.size (by intro k hk; simp at hk; omega)⟩
set_option maxHeartbeats 2000000 in
theorem step2 (u d : List Int) (c : Int) (w : World) (hu : u.length ≤ 6) (hd : d.length ≤ 6) (hc : 0 ≤ c ∧ c ≤ 6) (wu : Wf u) (wd : Wf d) :
    Calls Try.prog 51 #[.agg (frC u d c), .int .i64 2] w (FrOut w (stU (stepO u d c 2)) (stD (stepO u d c 2)) (stC (stepO u d c 2)) (stepO u d c 2).isSome) := by
  have hp : -9223372036854775808 ≤ partI u d ∧ partI u d ≤ 9223372036854775807 := by unfold partI; omega
  have hz := fr_zero (w.alloc (.cells (frC u d c) 66))
  rw [World.size_alloc] at hz
  have hbox : FrIn ((w.alloc (.cells (frC u d c) 66)).alloc (.cells #[.int .i64 0, .int .i64 0, .int .i64 0, .int .i64 0, .int .i64 0, .int .i64 0, .int .i64 0, .int .i64 0, .int .i64 0, .int .i64 0, .int .i64 0, .int .i64 0, .int .i64 0, .int .i64 0, .int .i64 0] 66)) w.heap.size u d c := FrIn.below (heap_alloc_new w _) (Below.alloc1 _ _)
  have B2 := Below.step (Below.alloc1 w (.cells (frC u d c) 66)) (Below.alloc1 _ (.cells #[.int .i64 0, .int .i64 0, .int .i64 0, .int .i64 0, .int .i64 0, .int .i64 0, .int .i64 0, .int .i64 0, .int .i64 0, .int .i64 0, .int .i64 0, .int .i64 0, .int .i64 0, .int .i64 0, .int .i64 0] 66))
  have ho := op2 w.heap.size u d c _ hbox hu hd hc
  rw [stepO_cap]
  have hcap : ∀ u' d' c', capO (rawStep (partI u d) u d c 2) = some (u', d', c') → u'.length ≤ 6 ∧ d'.length ≤ 6 ∧ Wf u' ∧ Wf d' := by
    intro u' d' c' e
    cases hr : rawStep (partI u d) u d c 2 with
    | none => rw [hr] at e; cases e
    | some r =>
      obtain ⟨a, b, x⟩ := r
      rw [hr] at e
      by_cases h : a.length ≤ 6 ∧ b.length ≤ 6 ∧ x ≤ 6
      · rw [cap_yes h] at e
        simp only [Option.some.injEq, Prod.mk.injEq] at e
        obtain ⟨rfl, rfl, rfl⟩ := e
        have := raw_wf hp wu wd hr
        exact ⟨h.1, h.2.1, this.1, this.2⟩
      · rw [cap_no h] at e; cases e
  cases hr : capO (rawStep (partI u d) u d c 2) with
  | none =>
    rw [hr] at ho
    have HO := Lib.hid ho; have HB := Lib.hid B2; have HZ := Lib.hid hz
    clear hz hbox B2 ho hcap hr hu hd hc wu wd
    simp only [stU, stD, stC, Option.isSome]
    go_enter Try.func51, Try.ntmps51
    go_wp2_with (first
      | (go_at_call 76; ((with_reducible refine HO.out.mono ?_); rintro e w1 ⟨hg1, he⟩; have he2 : e = .returned (.bool false) := he; subst he2; have HZ1 := Lib.hid (fr_kept HZ.out hg1 (by omega)); have HB1 := Lib.hid (HB.out.grown hg1 HB.out.size (by intro k hk; simp at hk; omega)); clear he hg1))
      | ((with_reducible refine wp_storeFr0 rfl (.tmp 4) (.tmp 26) rfl (w.heap.size + 1) [] [] 0 (Nat.zero_le _) (Nat.zero_le _) rfl rfl HZ1.out ?_); intro w2 hs2 hg2))
    exact bodyPost_ret (results_fstep _ _ (w.heap.size + 1) [] [] 0 false (Nat.zero_le _) (Nat.zero_le _) hs2 rfl rfl) rfl ⟨rfl, HB1.out.grown hg2 HB1.out.size (by intro k hk; simp at hk; omega)⟩
  | some r =>
    obtain ⟨u', d', c'⟩ := r
    obtain ⟨l1, l2, w1', w2'⟩ := hcap u' d' c' hr
    rw [hr] at ho
    have hrn := fun w => renumbered_any u' d' c' w l1 l2 w1' w2'
    have m1 : (renU u').length ≤ 6 := by rw [renU_length]; exact l1
    have m2 : (renD u' d').length ≤ 6 := by rw [renD_length]; exact l2
    have HO := Lib.hid ho; have HB := Lib.hid B2; have HZ := Lib.hid hz; have HRN := Lib.hid hrn; have L1 := Lib.hid l1; have L2 := Lib.hid l2; have M1 := Lib.hid m1; have M2 := Lib.hid m2
    clear hz hbox B2 ho hcap hr hu hd hc wu wd hrn l1 l2 m1 m2 w1' w2'
    simp only [stU, stD, stC, Option.isSome]
    generalize renU u' = ru at *
    generalize renD u' d' = rd at *
    go_enter Try.func51, Try.ntmps51
    go_wp2_with (first
      | (go_at_call 76; ((with_reducible refine HO.out.mono ?_); rintro e w1 ⟨hg1, he⟩; have he2 : e = .returned (.bool true) ∧ FrIn w1 w.heap.size u' d' c' := he; obtain ⟨he3, hs1⟩ := he2; subst he3; have HS1 := Lib.hid hs1; have HZ1 := Lib.hid (fr_kept HZ.out hg1 (by omega)); have HB1 := Lib.hid (HB.out.grown hg1 HB.out.size (by intro k hk; simp at hk; omega)); clear he hg1 hs1))
      | (with_reducible refine wp_loadFr rfl (.tmp 2) rfl w.heap.size u' d' c' L1.out L2.out rfl HS1.out ?_)
      | (go_at_call 71; ((with_reducible refine (HRN.out _).mono ?_); rintro e w2 ⟨rfl, hb2⟩; have HZ2 : Hid (FrIn w2 (w.heap.size + 1) [] [] 0) := FrIn.below HZ1.out hb2; have HB2 := Lib.hid (Below.step HB1.out hb2); clear hb2))
      | ((with_reducible refine wp_storeFr rfl (.tmp 4) (.tmp 28) rfl (w.heap.size + 1) ru rd [] [] c' 0 M1.out M2.out (Nat.zero_le _) (Nat.zero_le _) rfl rfl HZ2.out ?_); intro w3 hs3 hg3))
    exact bodyPost_ret (results_fstep _ _ (w.heap.size + 1) ru rd c' true M1.out M2.out hs3 rfl rfl) rfl ⟨rfl, HB2.out.grown hg3 HB2.out.size (by intro k hk; simp at hk; omega)⟩
set_option maxHeartbeats 2000000 in
theorem step3 (u d : List Int) (c : Int) (w : World) (hu : u.length ≤ 6) (hd : d.length ≤ 6) (hc : 0 ≤ c ∧ c ≤ 6) (wu : Wf u) (wd : Wf d) :
    Calls Try.prog 51 #[.agg (frC u d c), .int .i64 3] w (FrOut w (stU (stepO u d c 3)) (stD (stepO u d c 3)) (stC (stepO u d c 3)) (stepO u d c 3).isSome) := by
  have hp : -9223372036854775808 ≤ partI u d ∧ partI u d ≤ 9223372036854775807 := by unfold partI; omega
  have hz := fr_zero (w.alloc (.cells (frC u d c) 66))
  rw [World.size_alloc] at hz
  have hbox : FrIn ((w.alloc (.cells (frC u d c) 66)).alloc (.cells #[.int .i64 0, .int .i64 0, .int .i64 0, .int .i64 0, .int .i64 0, .int .i64 0, .int .i64 0, .int .i64 0, .int .i64 0, .int .i64 0, .int .i64 0, .int .i64 0, .int .i64 0, .int .i64 0, .int .i64 0] 66)) w.heap.size u d c := FrIn.below (heap_alloc_new w _) (Below.alloc1 _ _)
  have B2 := Below.step (Below.alloc1 w (.cells (frC u d c) 66)) (Below.alloc1 _ (.cells #[.int .i64 0, .int .i64 0, .int .i64 0, .int .i64 0, .int .i64 0, .int .i64 0, .int .i64 0, .int .i64 0, .int .i64 0, .int .i64 0, .int .i64 0, .int .i64 0, .int .i64 0, .int .i64 0, .int .i64 0] 66))
  have ho := op3 w.heap.size u d c _ hbox hu hd hc
  rw [stepO_cap]
  have hcap : ∀ u' d' c', capO (rawStep (partI u d) u d c 3) = some (u', d', c') → u'.length ≤ 6 ∧ d'.length ≤ 6 ∧ Wf u' ∧ Wf d' := by
    intro u' d' c' e
    cases hr : rawStep (partI u d) u d c 3 with
    | none => rw [hr] at e; cases e
    | some r =>
      obtain ⟨a, b, x⟩ := r
      rw [hr] at e
      by_cases h : a.length ≤ 6 ∧ b.length ≤ 6 ∧ x ≤ 6
      · rw [cap_yes h] at e
        simp only [Option.some.injEq, Prod.mk.injEq] at e
        obtain ⟨rfl, rfl, rfl⟩ := e
        have := raw_wf hp wu wd hr
        exact ⟨h.1, h.2.1, this.1, this.2⟩
      · rw [cap_no h] at e; cases e
  cases hr : capO (rawStep (partI u d) u d c 3) with
  | none =>
    rw [hr] at ho
    have HO := Lib.hid ho; have HB := Lib.hid B2; have HZ := Lib.hid hz
    clear hz hbox B2 ho hcap hr hu hd hc wu wd
    simp only [stU, stD, stC, Option.isSome]
    go_enter Try.func51, Try.ntmps51
    go_wp2_with (first
      | (go_at_call 77; ((with_reducible refine HO.out.mono ?_); rintro e w1 ⟨hg1, he⟩; have he2 : e = .returned (.bool false) := he; subst he2; have HZ1 := Lib.hid (fr_kept HZ.out hg1 (by omega)); have HB1 := Lib.hid (HB.out.grown hg1 HB.out.size (by intro k hk; simp at hk; omega)); clear he hg1))
      | ((with_reducible refine wp_storeFr0 rfl (.tmp 4) (.tmp 26) rfl (w.heap.size + 1) [] [] 0 (Nat.zero_le _) (Nat.zero_le _) rfl rfl HZ1.out ?_); intro w2 hs2 hg2))
    exact bodyPost_ret (results_fstep _ _ (w.heap.size + 1) [] [] 0 false (Nat.zero_le _) (Nat.zero_le _) hs2 rfl rfl) rfl ⟨rfl, HB1.out.grown hg2 HB1.out.size (by intro k hk; simp at hk; omega)⟩
  | some r =>
    obtain ⟨u', d', c'⟩ := r
    obtain ⟨l1, l2, w1', w2'⟩ := hcap u' d' c' hr
    rw [hr] at ho
    have hrn := fun w => renumbered_any u' d' c' w l1 l2 w1' w2'
    have m1 : (renU u').length ≤ 6 := by rw [renU_length]; exact l1
    have m2 : (renD u' d').length ≤ 6 := by rw [renD_length]; exact l2
    have HO := Lib.hid ho; have HB := Lib.hid B2; have HZ := Lib.hid hz; have HRN := Lib.hid hrn; have L1 := Lib.hid l1; have L2 := Lib.hid l2; have M1 := Lib.hid m1; have M2 := Lib.hid m2
    clear hz hbox B2 ho hcap hr hu hd hc wu wd hrn l1 l2 m1 m2 w1' w2'
    simp only [stU, stD, stC, Option.isSome]
    generalize renU u' = ru at *
    generalize renD u' d' = rd at *
    go_enter Try.func51, Try.ntmps51
    go_wp2_with (first
      | (go_at_call 77; ((with_reducible refine HO.out.mono ?_); rintro e w1 ⟨hg1, he⟩; have he2 : e = .returned (.bool true) ∧ FrIn w1 w.heap.size u' d' c' := he; obtain ⟨he3, hs1⟩ := he2; subst he3; have HS1 := Lib.hid hs1; have HZ1 := Lib.hid (fr_kept HZ.out hg1 (by omega)); have HB1 := Lib.hid (HB.out.grown hg1 HB.out.size (by intro k hk; simp at hk; omega)); clear he hg1 hs1))
      | (with_reducible refine wp_loadFr rfl (.tmp 2) rfl w.heap.size u' d' c' L1.out L2.out rfl HS1.out ?_)
      | (go_at_call 71; ((with_reducible refine (HRN.out _).mono ?_); rintro e w2 ⟨rfl, hb2⟩; have HZ2 : Hid (FrIn w2 (w.heap.size + 1) [] [] 0) := FrIn.below HZ1.out hb2; have HB2 := Lib.hid (Below.step HB1.out hb2); clear hb2))
      | ((with_reducible refine wp_storeFr rfl (.tmp 4) (.tmp 28) rfl (w.heap.size + 1) ru rd [] [] c' 0 M1.out M2.out (Nat.zero_le _) (Nat.zero_le _) rfl rfl HZ2.out ?_); intro w3 hs3 hg3))
    exact bodyPost_ret (results_fstep _ _ (w.heap.size + 1) ru rd c' true M1.out M2.out hs3 rfl rfl) rfl ⟨rfl, HB2.out.grown hg3 HB2.out.size (by intro k hk; simp at hk; omega)⟩
theorem step_any (u d : List Int) (c : Int) (k : Nat) (hk : k ≤ 3) (w : World) (hu : u.length ≤ 6) (hd : d.length ≤ 6) (hc : 0 ≤ c ∧ c ≤ 6) (wu : Wf u) (wd : Wf d) :
    Calls Try.prog 51 #[.agg (frC u d c), .int .i64 (k : Int)] w (FrOut w (stU (stepO u d c k)) (stD (stepO u d c k)) (stC (stepO u d c k)) (stepO u d c k).isSome) := by
  have h : k = 0 ∨ k = 1 ∨ k = 2 ∨ k = 3 := by omega
  rcases h with rfl | rfl | rfl | rfl
  · exact step0 u d c w hu hd hc wu wd
  · exact step1 u d c w hu hd hc wu wd
  · exact step2 u d c w hu hd hc wu wd
  · exact step3 u d c w hu hd hc wu wd

end Go.Proofs.Ytnkkgbecdckigac
