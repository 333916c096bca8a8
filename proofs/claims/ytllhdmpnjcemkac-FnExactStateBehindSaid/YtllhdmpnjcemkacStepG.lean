/- frontier.step. -/
/- stStep, a step in the model. -/
import Derived.Test.YtllhdmpnjcemkacStepF
import Derived.Test.YtllhdmpnjcemkacReadState
import Derived.Test.YtllhdmpnjcemkacStMirF
import Derived.Test.YtllhdmpnjcemkacStGood2
import Derived.Test.YtllhdmpnjcemkacRowApp
import Derived.RegionTactic
import Derived.Deep.RegionWith
import Derived.Deep.DeepCutAuto
namespace Go.Proofs.Ytllhdmpnjcemkac
open Go.RowKit Go.Maps
set_option linter.unusedSimpArgs false
set_option linter.unusedVariables false

theorem stepOut_no {w w' : World} {b : Nat} {e : Ending} (h : LeadNo w b e w') : StepOut w b none e w' := ⟨h.2, h.1⟩
theorem cap_yes {u d : List Int} {c : Int} (h : u.length ≤ 6 ∧ d.length ≤ 6 ∧ c ≤ 6) : capO (some (u, d, c)) = some (u, d, c) := if_pos h
theorem cap_no {u d : List Int} {c : Int} (h : ¬ (u.length ≤ 6 ∧ d.length ≤ 6 ∧ c ≤ 6)) : capO (some (u, d, c)) = none := if_neg h
theorem op0 (b : Nat) (u d : List Int) (c : Int) (w : World) (h : FrIn w b u d c) (hu : u.length ≤ 6) (hd : d.length ≤ 6) (hc : 0 ≤ c ∧ c ≤ 6) :
    Calls Try.prog 77 #[.pointer (some ⟨b, 0, none⟩)] w (StepOut w b (capO (rawStep (partI u d) u d c 0))) := by
  have h1 := begin_any b u d c w h hu hd
  have e : capO (rawStep (partI u d) u d c 0) = if u.length < 6 ∧ d.length < 6 then some (u ++ [partI u d], d ++ [partI u d], c) else none := by
    show capO (some (u ++ [partI u d], d ++ [partI u d], c)) = _
    by_cases h2 : u.length < 6 ∧ d.length < 6
    · rw [if_pos h2, cap_yes (by simp; omega)]
    · rw [if_neg h2, cap_no (by simp; omega)]
  rw [e]; exact h1
theorem op1 (b : Nat) (u d : List Int) (c : Int) (w : World) (h : FrIn w b u d c) (hu : u.length ≤ 6) (hd : d.length ≤ 6) (hc : 0 ≤ c ∧ c ≤ 6) :
    Calls Try.prog 78 #[.pointer (some ⟨b, 7, none⟩), .pointer (some ⟨b, 0, none⟩)] w (StepOut w b (capO (rawStep (partI u d) u d c 1))) := by
  rcases snoc_cases d with rfl | ⟨d0, x, rfl⟩
  · have e : capO (rawStep (partI u []) u [] c 1) = none := by simp [rawStep, capO]
    rw [e]
    exact (lead_none b 7 0 (.inr ⟨rfl, rfl⟩) u c w h hu).mono fun _ _ h => stepOut_no h
  · have e : rawStep (partI u (d0 ++ [x])) u (d0 ++ [x]) c 1 = some (u ++ [x], d0, c) := by simp [rawStep, lastI_snoc, dropTop_snoc]
    have hl : d0.length < 6 := by simp at hd; omega
    rw [e]
    by_cases h6 : u.length < 6
    · rw [cap_yes (by simp; omega)]
      exact (lead_yes b 7 0 (.inr ⟨rfl, rfl⟩) d0 u c x w h hl h6).mono fun _ _ h => ⟨h.2.2, h.1, h.2.1⟩
    · rw [cap_no (by simp; omega)]
      exact (lead_full b 7 0 (.inr ⟨rfl, rfl⟩) d0 u c x w h hl (by omega)).mono fun _ _ h => stepOut_no h
theorem op2 (b : Nat) (u d : List Int) (c : Int) (w : World) (h : FrIn w b u d c) (hu : u.length ≤ 6) (hd : d.length ≤ 6) (hc : 0 ≤ c ∧ c ≤ 6) :
    Calls Try.prog 78 #[.pointer (some ⟨b, 0, none⟩), .pointer (some ⟨b, 7, none⟩)] w (StepOut w b (capO (rawStep (partI u d) u d c 2))) := by
  rcases snoc_cases u with rfl | ⟨u0, x, rfl⟩
  · have e : capO (rawStep (partI [] d) [] d c 2) = none := by simp [rawStep, capO]
    rw [e]
    exact (lead_none b 0 7 (.inl ⟨rfl, rfl⟩) d c w h hd).mono fun _ _ h => stepOut_no h
  · have e : rawStep (partI (u0 ++ [x]) d) (u0 ++ [x]) d c 2 = some (u0, d ++ [x], c) := by simp [rawStep, lastI_snoc, dropTop_snoc]
    have hl : u0.length < 6 := by simp at hu; omega
    rw [e]
    by_cases h6 : d.length < 6
    · rw [cap_yes (by simp; omega)]
      exact (lead_yes b 0 7 (.inl ⟨rfl, rfl⟩) u0 d c x w h hl h6).mono fun _ _ h => ⟨h.2.2, h.1, h.2.1⟩
    · rw [cap_no (by simp; omega)]
      exact (lead_full b 0 7 (.inl ⟨rfl, rfl⟩) u0 d c x w h hl (by omega)).mono fun _ _ h => stepOut_no h
theorem op3 (b : Nat) (u d : List Int) (c : Int) (w : World) (h : FrIn w b u d c) (hu : u.length ≤ 6) (hd : d.length ≤ 6) (hc : 0 ≤ c ∧ c ≤ 6) :
    Calls Try.prog 79 #[.pointer (some ⟨b, 0, none⟩)] w (StepOut w b (capO (rawStep (partI u d) u d c 3))) := by
  rcases snoc_cases u with rfl | ⟨u0, x, rfl⟩
  · have e : capO (rawStep (partI [] d) [] d c 3) = none := by simp [rawStep, capO]
    rw [e]; exact end_noU b d c w h hd
  · have hl : u0.length < 6 := by simp at hu; omega
    rcases snoc_cases d with rfl | ⟨d0, y, rfl⟩
    · have e : capO (rawStep (partI (u0 ++ [x]) []) (u0 ++ [x]) [] c 3) = none := by simp [rawStep, capO]
      rw [e]; exact end_noD b u0 c x w h hl
    · have hl2 : d0.length < 6 := by simp at hd; omega
      have e : rawStep (partI (u0 ++ [x]) (d0 ++ [y])) (u0 ++ [x]) (d0 ++ [y]) c 3 = some (u0.map (mgI x y), d0.map (mgI x y), if x = y then c + 1 else c) := by simp [rawStep, lastI_snoc, dropTop_snoc]
      rw [e]
      by_cases hxy : x = y
      · subst hxy
        rw [if_pos rfl, mg_same, mg_same]
        have e2 : capO (some (u0, d0, c + 1)) = if c + 1 ≤ 6 then some (u0, d0, c + 1) else none := by
          by_cases h6 : c + 1 ≤ 6
          · rw [if_pos h6, cap_yes (by omega)]
          · rw [if_neg h6, cap_no (by omega)]
        rw [e2]; exact end_close b u0 d0 c x w h hl hl2 hc
      · rw [if_neg hxy, cap_yes (by simp; omega)]
        exact end_join b u0 d0 c x y w h hl hl2 hxy

theorem results_fstep (tmps : Array Value) (w : World) (g : Nat) (u d : List Int) (c : Int) (ok : Bool) (hu : u.length ≤ 6) (hd : d.length ≤ 6) (hg : FrIn w g u d c) (h4 : tmps.getD 4 undef = .pointer (some ⟨g, 0, none⟩)) (h5 : tmps.getD 5 undef = .bool ok) :
    (results Try.f56 tmps).run Try.prog w = .ok (.tuple #[.agg (frC u d c), .bool ok]) w := by
  have h4' : tmps[4]?.getD undef = .pointer (some ⟨g, 0, none⟩) := by simpa using h4
  have h5' : tmps[5]?.getD undef = .bool ok := by simpa using h5
  have hr : Try.f56.results = #[.cell 4 77, .tmp 5] := by kernel_rfl
  simp [results, hr, h4', h5', asAddr, run_loadFr w g u d c hu hd hg]
theorem stepO_cap (u d : List Int) (c : Int) (k : Nat) : stepO u d c k = match capO (rawStep (partI u d) u d c k) with | none => none | some (u', d', c') => some (renU u', renD u' d', c') := by
  unfold stepO
  cases rawStep (partI u d) u d c k with
  | none => rfl
  | some r =>
    obtain ⟨a, b, x⟩ := r
    simp only
    by_cases h : a.length ≤ 6 ∧ b.length ≤ 6 ∧ x ≤ 6
    · rw [if_pos h, cap_yes h]
    · rw [if_neg h, cap_no h]
/-- what step hands back -/
def stU (r : Option (List Int × List Int × Int)) : List Int := match r with | some (u, _, _) => u | none => []
def stD (r : Option (List Int × List Int × Int)) : List Int := match r with | some (_, d, _) => d | none => []
def stC (r : Option (List Int × List Int × Int)) : Int := match r with | some (_, _, c) => c | none => 0
theorem raw_wf {p : Int} {u d u' d' : List Int} {c c' : Int} {k : Nat} (hp : -9223372036854775808 ≤ p ∧ p ≤ 9223372036854775807) (wu : Wf u) (wd : Wf d) (e : rawStep p u d c k = some (u', d', c')) : Wf u' ∧ Wf d' := by
  have hlast : ∀ l : List Int, Wf l → l.length ≠ 0 → -9223372036854775808 ≤ lastI l ∧ lastI l ≤ 9223372036854775807 := by
    intro l hw h0
    rcases snoc_cases l with rfl | ⟨l0, x, rfl⟩
    · simp at h0
    · rw [lastI_snoc]; exact hw x (by simp)
  have hdrop : ∀ l : List Int, Wf l → Wf (dropTop l) := fun l hw x hx => hw x (List.mem_of_mem_take hx)
  have hmg : ∀ (l : List Int) (x y : Int), (-9223372036854775808 ≤ x ∧ x ≤ 9223372036854775807) → Wf l → Wf (l.map (mgI x y)) := by
    intro l x y hx hw z hz
    obtain ⟨a, ha, rfl⟩ := List.mem_map.1 hz
    unfold mgI; split
    · exact hx
    · exact hw a ha
  have hsn : ∀ (l : List Int) (x : Int), Wf l → (-9223372036854775808 ≤ x ∧ x ≤ 9223372036854775807) → Wf (l ++ [x]) := by
    intro l x hw hx z hz
    simp only [List.mem_append, List.mem_singleton] at hz
    rcases hz with hz | rfl
    · exact hw z hz
    · exact hx
  match k, e with
  | 0, e =>
    simp only [rawStep, Option.some.injEq, Prod.mk.injEq] at e
    obtain ⟨rfl, rfl, rfl⟩ := e
    exact ⟨hsn _ _ wu hp, hsn _ _ wd hp⟩
  | 1, e =>
    simp only [rawStep] at e
    split at e
    · cases e
    · next h0 =>
      simp only [Option.some.injEq, Prod.mk.injEq] at e
      obtain ⟨rfl, rfl, rfl⟩ := e
      exact ⟨hsn _ _ wu (hlast _ wd h0), hdrop _ wd⟩
  | 2, e =>
    simp only [rawStep] at e
    split at e
    · cases e
    · next h0 =>
      simp only [Option.some.injEq, Prod.mk.injEq] at e
      obtain ⟨rfl, rfl, rfl⟩ := e
      exact ⟨hdrop _ wu, hsn _ _ wd (hlast _ wu h0)⟩
  | 3, e =>
    simp only [rawStep] at e
    split at e
    · cases e
    · next h0 =>
      simp only [Option.some.injEq, Prod.mk.injEq] at e
      obtain ⟨rfl, rfl, _⟩ := e
      exact ⟨hmg _ _ _ (hlast _ wu (by omega)) (hdrop _ wu), hmg _ _ _ (hlast _ wu (by omega)) (hdrop _ wd)⟩
  | k + 4, e => simp [rawStep] at e
set_option maxHeartbeats 2000000 in
theorem step0 (u d : List Int) (c : Int) (w : World) (hu : u.length ≤ 6) (hd : d.length ≤ 6) (hc : 0 ≤ c ∧ c ≤ 6) (wu : Wf u) (wd : Wf d) :
    Calls Try.prog 56 #[.agg (frC u d c), .int .i64 0] w (FrOut w (stU (stepO u d c 0)) (stD (stepO u d c 0)) (stC (stepO u d c 0)) (stepO u d c 0).isSome) := by
  have hp : -9223372036854775808 ≤ partI u d ∧ partI u d ≤ 9223372036854775807 := by unfold partI; omega
  have hz := fr_zero (w.alloc (.cells (frC u d c) 77))
  rw [World.size_alloc] at hz
  have hbox : FrIn ((w.alloc (.cells (frC u d c) 77)).alloc (.cells #[.int .i64 0, .int .i64 0, .int .i64 0, .int .i64 0, .int .i64 0, .int .i64 0, .int .i64 0, .int .i64 0, .int .i64 0, .int .i64 0, .int .i64 0, .int .i64 0, .int .i64 0, .int .i64 0, .int .i64 0] 77)) w.heap.size u d c := FrIn.below (heap_alloc_new w _) (Below.alloc1 _ _)
  have B2 := Below.step (Below.alloc1 w (.cells (frC u d c) 77)) (Below.alloc1 _ (.cells #[.int .i64 0, .int .i64 0, .int .i64 0, .int .i64 0, .int .i64 0, .int .i64 0, .int .i64 0, .int .i64 0, .int .i64 0, .int .i64 0, .int .i64 0, .int .i64 0, .int .i64 0, .int .i64 0, .int .i64 0] 77))
  have ho := op0 w.heap.size u d c _ hbox hu hd hc
  rw [stepO_cap]
  have hcap : ∀ u' d' c', capO (rawStep (partI u d) u d c 0) = some (u', d', c') → u'.length ≤ 6 ∧ d'.length ≤ 6 ∧ Wf u' ∧ Wf d' := by
    intro u' d' c' e
    cases hr : rawStep (partI u d) u d c 0 with
    | none => rw [hr] at e; cases e
    | some r =>
      obtain ⟨a, b, x⟩ := r
      rw [hr] at e
      by_cases h : a.length ≤ 6 ∧ b.length ≤ 6 ∧ x ≤ 6
      · rw [cap_yes h] at e
        simp only [Option.some.injEq, Prod.mk.injEq] at e
        obtain ⟨rfl, rfl, rfl⟩ := e
        have := raw_wf hp wu wd hr
        exact ⟨h.1, h.2.1, this.1, this.2⟩
      · rw [cap_no h] at e; cases e
  cases hr : capO (rawStep (partI u d) u d c 0) with
  | none =>
    rw [hr] at ho
    have HO := Lib.hid ho; have HB := Lib.hid B2; have HZ := Lib.hid hz
    clear hz hbox B2 ho hcap hr hu hd hc wu wd
    simp only [stU, stD, stC, Option.isSome]
    go_enter Try.func56, Try.ntmps56
    go_wp2_with (first
      | (go_at_call 77; ((with_reducible refine HO.out.mono ?_); rintro e w1 ⟨hg1, he⟩; have he2 : e = .returned (.bool false) := he; subst he2; have HZ1 := Lib.hid (fr_kept HZ.out hg1 (by omega)); have HB1 := Lib.hid (HB.out.grown hg1 HB.out.size (by intro k hk; simp at hk; omega)); clear he hg1))
      | ((with_reducible refine wp_storeFr0 rfl (.tmp 4) (.tmp 26) rfl (w.heap.size + 1) [] [] 0 (Nat.zero_le _) (Nat.zero_le _) rfl rfl HZ1.out ?_); intro w2 hs2 hg2))
    exact bodyPost_ret (results_fstep _ _ (w.heap.size + 1) [] [] 0 false (Nat.zero_le _) (Nat.zero_le _) hs2 rfl rfl) rfl ⟨rfl, HB1.out.grown hg2 HB1.out.size (by intro k hk; simp at hk; omega)⟩
  | some r =>
    obtain ⟨u', d', c'⟩ := r
    obtain ⟨l1, l2, w1', w2'⟩ := hcap u' d' c' hr
    rw [hr] at ho
    have hrn := fun w => renumbered_any u' d' c' w l1 l2 w1' w2'
    have m1 : (renU u').length ≤ 6 := by rw [renU_length]; exact l1
    have m2 : (renD u' d').length ≤ 6 := by rw [renD_length]; exact l2
    have HO := Lib.hid ho; have HB := Lib.hid B2; have HZ := Lib.hid hz; have HRN := Lib.hid hrn; have L1 := Lib.hid l1; have L2 := Lib.hid l2; have M1 := Lib.hid m1; have M2 := Lib.hid m2
    clear hz hbox B2 ho hcap hr hu hd hc wu wd hrn l1 l2 m1 m2 w1' w2'
    simp only [stU, stD, stC, Option.isSome]
    generalize renU u' = ru at *
    generalize renD u' d' = rd at *
    go_enter Try.func56, Try.ntmps56
    go_wp2_with (first
      | (go_at_call 77; ((with_reducible refine HO.out.mono ?_); rintro e w1 ⟨hg1, he⟩; have he2 : e = .returned (.bool true) ∧ FrIn w1 w.heap.size u' d' c' := he; obtain ⟨he3, hs1⟩ := he2; subst he3; have HS1 := Lib.hid hs1; have HZ1 := Lib.hid (fr_kept HZ.out hg1 (by omega)); have HB1 := Lib.hid (HB.out.grown hg1 HB.out.size (by intro k hk; simp at hk; omega)); clear he hg1 hs1))
      | (with_reducible refine wp_loadFr rfl (.tmp 2) rfl w.heap.size u' d' c' L1.out L2.out rfl HS1.out ?_)
      | (go_at_call 80; ((with_reducible refine (HRN.out _).mono ?_); rintro e w2 ⟨rfl, hb2⟩; have HZ2 : Hid (FrIn w2 (w.heap.size + 1) [] [] 0) := FrIn.below HZ1.out hb2; have HB2 := Lib.hid (Below.step HB1.out hb2); clear hb2))
      | ((with_reducible refine wp_storeFr rfl (.tmp 4) (.tmp 28) rfl (w.heap.size + 1) ru rd [] [] c' 0 M1.out M2.out (Nat.zero_le _) (Nat.zero_le _) rfl rfl HZ2.out ?_); intro w3 hs3 hg3))
    exact bodyPost_ret (results_fstep _ _ (w.heap.size + 1) ru rd c' true M1.out M2.out hs3 rfl rfl) rfl ⟨rfl, HB2.out.grown hg3 HB2.out.size (by intro k hk; simp at hk; omega)⟩
set_option maxHeartbeats 2000000 in
theorem step1 (u d : List Int) (c : Int) (w : World) (hu : u.length ≤ 6) (hd : d.length ≤ 6) (hc : 0 ≤ c ∧ c ≤ 6) (wu : Wf u) (wd : Wf d) :
    Calls Try.prog 56 #[.agg (frC u d c), .int .i64 1] w (FrOut w (stU (stepO u d c 1)) (stD (stepO u d c 1)) (stC (stepO u d c 1)) (stepO u d c 1).isSome) := by
  have hp : -9223372036854775808 ≤ partI u d ∧ partI u d ≤ 9223372036854775807 := by unfold partI; omega
  have hz := fr_zero (w.alloc (.cells (frC u d c) 77))
  rw [World.size_alloc] at hz
  have hbox : FrIn ((w.alloc (.cells (frC u d c) 77)).alloc (.cells #[.int .i64 0, .int .i64 0, .int .i64 0, .int .i64 0, .int .i64 0, .int .i64 0, .int .i64 0, .int .i64 0, .int .i64 0, .int .i64 0, .int .i64 0, .int .i64 0, .int .i64 0, .int .i64 0, .int .i64 0] 77)) w.heap.size u d c := FrIn.below (heap_alloc_new w _) (Below.alloc1 _ _)
  have B2 := Below.step (Below.alloc1 w (.cells (frC u d c) 77)) (Below.alloc1 _ (.cells #[.int .i64 0, .int .i64 0, .int .i64 0, .int .i64 0, .int .i64 0, .int .i64 0, .int .i64 0, .int .i64 0, .int .i64 0, .int .i64 0, .int .i64 0, .int .i64 0, .int .i64 0, .int .i64 0, .int .i64 0] 77))
  have ho := op1 w.heap.size u d c _ hbox hu hd hc
  rw [stepO_cap]
  have hcap : ∀ u' d' c', capO (rawStep (partI u d) u d c 1) = some (u', d', c') → u'.length ≤ 6 ∧ d'.length ≤ 6 ∧ Wf u' ∧ Wf d' := by
    intro u' d' c' e
    cases hr : rawStep (partI u d) u d c 1 with
    | none => rw [hr] at e; cases e
    | some r =>
      obtain ⟨a, b, x⟩ := r
      rw [hr] at e
      by_cases h : a.length ≤ 6 ∧ b.length ≤ 6 ∧ x ≤ 6
      · rw [cap_yes h] at e
        simp only [Option.some.injEq, Prod.mk.injEq] at e
        obtain ⟨rfl, rfl, rfl⟩ := e
        have := raw_wf hp wu wd hr
        exact ⟨h.1, h.2.1, this.1, this.2⟩
      · rw [cap_no h] at e; cases e
  cases hr : capO (rawStep (partI u d) u d c 1) with
  | none =>
    rw [hr] at ho
    have HO := Lib.hid ho; have HB := Lib.hid B2; have HZ := Lib.hid hz
    clear hz hbox B2 ho hcap hr hu hd hc wu wd
    simp only [stU, stD, stC, Option.isSome]
    go_enter Try.func56, Try.ntmps56
    go_wp2_with (first
      | (go_at_call 78; ((with_reducible refine HO.out.mono ?_); rintro e w1 ⟨hg1, he⟩; have he2 : e = .returned (.bool false) := he; subst he2; have HZ1 := Lib.hid (fr_kept HZ.out hg1 (by omega)); have HB1 := Lib.hid (HB.out.grown hg1 HB.out.size (by intro k hk; simp at hk; omega)); clear he hg1))
      | ((with_reducible refine wp_storeFr0 rfl (.tmp 4) (.tmp 26) rfl (w.heap.size + 1) [] [] 0 (Nat.zero_le _) (Nat.zero_le _) rfl rfl HZ1.out ?_); intro w2 hs2 hg2))
    exact bodyPost_ret (results_fstep _ _ (w.heap.size + 1) [] [] 0 false (Nat.zero_le _) (Nat.zero_le _) hs2 rfl rfl) rfl ⟨rfl, HB1.out.grown hg2 HB1.out.size (by intro k hk; simp at hk; omega)⟩
  | some r =>
    obtain ⟨u', d', c'⟩ := r
    obtain ⟨l1, l2, w1', w2'⟩ := hcap u' d' c' hr
    rw [hr] at ho
    have hrn := fun w => renumbered_any u' d' c' w l1 l2 w1' w2'
    have m1 : (renU u').length ≤ 6 := by rw [renU_length]; exact l1
    have m2 : (renD u' d').length ≤ 6 := by rw [renD_length]; exact l2
    have HO := Lib.hid ho; have HB := Lib.hid B2; have HZ := Lib.hid hz; have HRN := Lib.hid hrn; have L1 := Lib.hid l1; have L2 := Lib.hid l2; have M1 := Lib.hid m1; have M2 := Lib.hid m2
    clear hz hbox B2 ho hcap hr hu hd hc wu wd hrn l1 l2 m1 m2 w1' w2'
    simp only [stU, stD, stC, Option.isSome]
    generalize renU u' = ru at *
    generalize renD u' d' = rd at *
    go_enter Try.func56, Try.ntmps56
    go_wp2_with (first
      | (go_at_call 78; ((with_reducible refine HO.out.mono ?_); rintro e w1 ⟨hg1, he⟩; have he2 : e = .returned (.bool true) ∧ FrIn w1 w.heap.size u' d' c' := he; obtain ⟨he3, hs1⟩ := he2; subst he3; have HS1 := Lib.hid hs1; have HZ1 := Lib.hid (fr_kept HZ.out hg1 (by omega)); have HB1 := Lib.hid (HB.out.grown hg1 HB.out.size (by intro k hk; simp at hk; omega)); clear he hg1 hs1))
      | (with_reducible refine wp_loadFr rfl (.tmp 2) rfl w.heap.size u' d' c' L1.out L2.out rfl HS1.out ?_)
      | (go_at_call 80; ((with_reducible refine (HRN.out _).mono ?_); rintro e w2 ⟨rfl, hb2⟩; have HZ2 : Hid (FrIn w2 (w.heap.size + 1) [] [] 0) := FrIn.below HZ1.out hb2; have HB2 := Lib.hid (Below.step HB1.out hb2); clear hb2))
      | ((with_reducible refine wp_storeFr rfl (.tmp 4) (.tmp 28) rfl (w.heap.size + 1) ru rd [] [] c' 0 M1.out M2.out (Nat.zero_le _) (Nat.zero_le _) rfl rfl HZ2.out ?_); intro w3 hs3 hg3))
    exact bodyPost_ret (results_fstep _ _ (w.heap.size + 1) ru rd c' true M1.out M2.out hs3 rfl rfl) rfl ⟨rfl, HB2.out.grown hg3 HB2.out.size (by intro k hk; simp at hk; omega)⟩
set_option maxHeartbeats 2000000 in
theorem step2 (u d : List Int) (c : Int) (w : World) (hu : u.length ≤ 6) (hd : d.length ≤ 6) (hc : 0 ≤ c ∧ c ≤ 6) (wu : Wf u) (wd : Wf d) :
    Calls Try.prog 56 #[.agg (frC u d c), .int .i64 2] w (FrOut w (stU (stepO u d c 2)) (stD (stepO u d c 2)) (stC (stepO u d c 2)) (stepO u d c 2).isSome) := by
  have hp : -9223372036854775808 ≤ partI u d ∧ partI u d ≤ 9223372036854775807 := by unfold partI; omega
  have hz := fr_zero (w.alloc (.cells (frC u d c) 77))
  rw [World.size_alloc] at hz
  have hbox : FrIn ((w.alloc (.cells (frC u d c) 77)).alloc (.cells #[.int .i64 0, .int .i64 0, .int .i64 0, .int .i64 0, .int .i64 0, .int .i64 0, .int .i64 0, .int .i64 0, .int .i64 0, .int .i64 0, .int .i64 0, .int .i64 0, .int .i64 0, .int .i64 0, .int .i64 0] 77)) w.heap.size u d c := FrIn.below (heap_alloc_new w _) (Below.alloc1 _ _)
  have B2 := Below.step (Below.alloc1 w (.cells (frC u d c) 77)) (Below.alloc1 _ (.cells #[.int .i64 0, .int .i64 0, .int .i64 0, .int .i64 0, .int .i64 0, .int .i64 0, .int .i64 0, .int .i64 0, .int .i64 0, .int .i64 0, .int .i64 0, .int .i64 0, .int .i64 0, .int .i64 0, .int .i64 0] 77))
  have ho := op2 w.heap.size u d c _ hbox hu hd hc
  rw [stepO_cap]
  have hcap : ∀ u' d' c', capO (rawStep (partI u d) u d c 2) = some (u', d', c') → u'.length ≤ 6 ∧ d'.length ≤ 6 ∧ Wf u' ∧ Wf d' := by
    intro u' d' c' e
    cases hr : rawStep (partI u d) u d c 2 with
    | none => rw [hr] at e; cases e
    | some r =>
      obtain ⟨a, b, x⟩ := r
      rw [hr] at e
      by_cases h : a.length ≤ 6 ∧ b.length ≤ 6 ∧ x ≤ 6
      · rw [cap_yes h] at e
        simp only [Option.some.injEq, Prod.mk.injEq] at e
        obtain ⟨rfl, rfl, rfl⟩ := e
        have := raw_wf hp wu wd hr
        exact ⟨h.1, h.2.1, this.1, this.2⟩
      · rw [cap_no h] at e; cases e
  cases hr : capO (rawStep (partI u d) u d c 2) with
  | none =>
    rw [hr] at ho
    have HO := Lib.hid ho; have HB := Lib.hid B2; have HZ := Lib.hid hz
    clear hz hbox B2 ho hcap hr hu hd hc wu wd
    simp only [stU, stD, stC, Option.isSome]
    go_enter Try.func56, Try.ntmps56
    go_wp2_with (first
      | (go_at_call 78; ((with_reducible refine HO.out.mono ?_); rintro e w1 ⟨hg1, he⟩; have he2 : e = .returned (.bool false) := he; subst he2; have HZ1 := Lib.hid (fr_kept HZ.out hg1 (by omega)); have HB1 := Lib.hid (HB.out.grown hg1 HB.out.size (by intro k hk; simp at hk; omega)); clear he hg1))
      | ((with_reducible refine wp_storeFr0 rfl (.tmp 4) (.tmp 26) rfl (w.heap.size + 1) [] [] 0 (Nat.zero_le _) (Nat.zero_le _) rfl rfl HZ1.out ?_); intro w2 hs2 hg2))
    exact bodyPost_ret (results_fstep _ _ (w.heap.size + 1) [] [] 0 false (Nat.zero_le _) (Nat.zero_le _) hs2 rfl rfl) rfl ⟨rfl, HB1.out.grown hg2 HB1.out.size (by intro k hk; simp at hk; omega)⟩
  | some r =>
    obtain ⟨u', d', c'⟩ := r
    obtain ⟨l1, l2, w1', w2'⟩ := hcap u' d' c' hr
    rw [hr] at ho
    have hrn := fun w => renumbered_any u' d' c' w l1 l2 w1' w2'
    have m1 : (renU u').length ≤ 6 := by rw [renU_length]; exact l1
    have m2 : (renD u' d').length ≤ 6 := by rw [renD_length]; exact l2
    have HO := Lib.hid ho; have HB := Lib.hid B2; have HZ := Lib.hid hz; have HRN := Lib.hid hrn; have L1 := Lib.hid l1; have L2 := Lib.hid l2; have M1 := Lib.hid m1; have M2 := Lib.hid m2
    clear hz hbox B2 ho hcap hr hu hd hc wu wd hrn l1 l2 m1 m2 w1' w2'
    simp only [stU, stD, stC, Option.isSome]
    generalize renU u' = ru at *
    generalize renD u' d' = rd at *
    go_enter Try.func56, Try.ntmps56
    go_wp2_with (first
      | (go_at_call 78; ((with_reducible refine HO.out.mono ?_); rintro e w1 ⟨hg1, he⟩; have he2 : e = .returned (.bool true) ∧ FrIn w1 w.heap.size u' d' c' := he; obtain ⟨he3, hs1⟩ := he2; subst he3; have HS1 := Lib.hid hs1; have HZ1 := Lib.hid (fr_kept HZ.out hg1 (by omega)); have HB1 := Lib.hid (HB.out.grown hg1 HB.out.size (by intro k hk; simp at hk; omega)); clear he hg1 hs1))
      | (with_reducible refine wp_loadFr rfl (.tmp 2) rfl w.heap.size u' d' c' L1.out L2.out rfl HS1.out ?_)
      | (go_at_call 80; ((with_reducible refine (HRN.out _).mono ?_); rintro e w2 ⟨rfl, hb2⟩; have HZ2 : Hid (FrIn w2 (w.heap.size + 1) [] [] 0) := FrIn.below HZ1.out hb2; have HB2 := Lib.hid (Below.step HB1.out hb2); clear hb2))
      | ((with_reducible refine wp_storeFr rfl (.tmp 4) (.tmp 28) rfl (w.heap.size + 1) ru rd [] [] c' 0 M1.out M2.out (Nat.zero_le _) (Nat.zero_le _) rfl rfl HZ2.out ?_); intro w3 hs3 hg3))
    exact bodyPost_ret (results_fstep _ _ (w.heap.size + 1) ru rd c' true M1.out M2.out hs3 rfl rfl) rfl ⟨rfl, HB2.out.grown hg3 HB2.out.size (by intro k hk; simp at hk; omega)⟩
set_option maxHeartbeats 2000000 in
theorem step3 (u d : List Int) (c : Int) (w : World) (hu : u.length ≤ 6) (hd : d.length ≤ 6) (hc : 0 ≤ c ∧ c ≤ 6) (wu : Wf u) (wd : Wf d) :
    Calls Try.prog 56 #[.agg (frC u d c), .int .i64 3] w (FrOut w (stU (stepO u d c 3)) (stD (stepO u d c 3)) (stC (stepO u d c 3)) (stepO u d c 3).isSome) := by
  have hp : -9223372036854775808 ≤ partI u d ∧ partI u d ≤ 9223372036854775807 := by unfold partI; omega
  have hz := fr_zero (w.alloc (.cells (frC u d c) 77))
  rw [World.size_alloc] at hz
  have hbox : FrIn ((w.alloc (.cells (frC u d c) 77)).alloc (.cells #[.int .i64 0, .int .i64 0, .int .i64 0, .int .i64 0, .int .i64 0, .int .i64 0, .int .i64 0, .int .i64 0, .int .i64 0, .int .i64 0, .int .i64 0, .int .i64 0, .int .i64 0, .int .i64 0, .int .i64 0] 77)) w.heap.size u d c := FrIn.below (heap_alloc_new w _) (Below.alloc1 _ _)
  have B2 := Below.step (Below.alloc1 w (.cells (frC u d c) 77)) (Below.alloc1 _ (.cells #[.int .i64 0, .int .i64 0, .int .i64 0, .int .i64 0, .int .i64 0, .int .i64 0, .int .i64 0, .int .i64 0, .int .i64 0, .int .i64 0, .int .i64 0, .int .i64 0, .int .i64 0, .int .i64 0, .int .i64 0] 77))
  have ho := op3 w.heap.size u d c _ hbox hu hd hc
  rw [stepO_cap]
  have hcap : ∀ u' d' c', capO (rawStep (partI u d) u d c 3) = some (u', d', c') → u'.length ≤ 6 ∧ d'.length ≤ 6 ∧ Wf u' ∧ Wf d' := by
    intro u' d' c' e
    cases hr : rawStep (partI u d) u d c 3 with
    | none => rw [hr] at e; cases e
    | some r =>
      obtain ⟨a, b, x⟩ := r
      rw [hr] at e
      by_cases h : a.length ≤ 6 ∧ b.length ≤ 6 ∧ x ≤ 6
      · rw [cap_yes h] at e
        simp only [Option.some.injEq, Prod.mk.injEq] at e
        obtain ⟨rfl, rfl, rfl⟩ := e
        have := raw_wf hp wu wd hr
        exact ⟨h.1, h.2.1, this.1, this.2⟩
      · rw [cap_no h] at e; cases e
  cases hr : capO (rawStep (partI u d) u d c 3) with
  | none =>
    rw [hr] at ho
    have HO := Lib.hid ho; have HB := Lib.hid B2; have HZ := Lib.hid hz
    clear hz hbox B2 ho hcap hr hu hd hc wu wd
    simp only [stU, stD, stC, Option.isSome]
    go_enter Try.func56, Try.ntmps56
    go_wp2_with (first
      | (go_at_call 79; ((with_reducible refine HO.out.mono ?_); rintro e w1 ⟨hg1, he⟩; have he2 : e = .returned (.bool false) := he; subst he2; have HZ1 := Lib.hid (fr_kept HZ.out hg1 (by omega)); have HB1 := Lib.hid (HB.out.grown hg1 HB.out.size (by intro k hk; simp at hk; omega)); clear he hg1))
      | ((with_reducible refine wp_storeFr0 rfl (.tmp 4) (.tmp 26) rfl (w.heap.size + 1) [] [] 0 (Nat.zero_le _) (Nat.zero_le _) rfl rfl HZ1.out ?_); intro w2 hs2 hg2))
    exact bodyPost_ret (results_fstep _ _ (w.heap.size + 1) [] [] 0 false (Nat.zero_le _) (Nat.zero_le _) hs2 rfl rfl) rfl ⟨rfl, HB1.out.grown hg2 HB1.out.size (by intro k hk; simp at hk; omega)⟩
  | some r =>
    obtain ⟨u', d', c'⟩ := r
    obtain ⟨l1, l2, w1', w2'⟩ := hcap u' d' c' hr
    rw [hr] at ho
    have hrn := fun w => renumbered_any u' d' c' w l1 l2 w1' w2'
    have m1 : (renU u').length ≤ 6 := by rw [renU_length]; exact l1
    have m2 : (renD u' d').length ≤ 6 := by rw [renD_length]; exact l2
    have HO := Lib.hid ho; have HB := Lib.hid B2; have HZ := Lib.hid hz; have HRN := Lib.hid hrn; have L1 := Lib.hid l1; have L2 := Lib.hid l2; have M1 := Lib.hid m1; have M2 := Lib.hid m2
    clear hz hbox B2 ho hcap hr hu hd hc wu wd hrn l1 l2 m1 m2 w1' w2'
    simp only [stU, stD, stC, Option.isSome]
    generalize renU u' = ru at *
    generalize renD u' d' = rd at *
    go_enter Try.func56, Try.ntmps56
    go_wp2_with (first
      | (go_at_call 79; ((with_reducible refine HO.out.mono ?_); rintro e w1 ⟨hg1, he⟩; have he2 : e = .returned (.bool true) ∧ FrIn w1 w.heap.size u' d' c' := he; obtain ⟨he3, hs1⟩ := he2; subst he3; have HS1 := Lib.hid hs1; have HZ1 := Lib.hid (fr_kept HZ.out hg1 (by omega)); have HB1 := Lib.hid (HB.out.grown hg1 HB.out.size (by intro k hk; simp at hk; omega)); clear he hg1 hs1))
      | (with_reducible refine wp_loadFr rfl (.tmp 2) rfl w.heap.size u' d' c' L1.out L2.out rfl HS1.out ?_)
      | (go_at_call 80; ((with_reducible refine (HRN.out _).mono ?_); rintro e w2 ⟨rfl, hb2⟩; have HZ2 : Hid (FrIn w2 (w.heap.size + 1) [] [] 0) := FrIn.below HZ1.out hb2; have HB2 := Lib.hid (Below.step HB1.out hb2); clear hb2))
      | ((with_reducible refine wp_storeFr rfl (.tmp 4) (.tmp 28) rfl (w.heap.size + 1) ru rd [] [] c' 0 M1.out M2.out (Nat.zero_le _) (Nat.zero_le _) rfl rfl HZ2.out ?_); intro w3 hs3 hg3))
    exact bodyPost_ret (results_fstep _ _ (w.heap.size + 1) ru rd c' true M1.out M2.out hs3 rfl rfl) rfl ⟨rfl, HB2.out.grown hg3 HB2.out.size (by intro k hk; simp at hk; omega)⟩
theorem step_any (u d : List Int) (c : Int) (k : Nat) (hk : k ≤ 3) (w : World) (hu : u.length ≤ 6) (hd : d.length ≤ 6) (hc : 0 ≤ c ∧ c ≤ 6) (wu : Wf u) (wd : Wf d) :
    Calls Try.prog 56 #[.agg (frC u d c), .int .i64 (k : Int)] w (FrOut w (stU (stepO u d c k)) (stD (stepO u d c k)) (stC (stepO u d c k)) (stepO u d c k).isSome) := by
  have h : k = 0 ∨ k = 1 ∨ k = 2 ∨ k = 3 := by omega
  rcases h with rfl | rfl | rfl | rfl
  · exact step0 u d c w hu hd hc wu wd
  · exact step1 u d c w hu hd hc wu wd
  · exact step2 u d c w hu hd hc wu wd
  · exact step3 u d c w hu hd hc wu wd

end Go.Proofs.Ytllhdmpnjcemkac

namespace Go.Proofs.Ytllhdmpnjcemkac
open Go.RowKit
set_option linter.unusedSimpArgs false
set_option linter.unusedVariables false

def MadeStO (w : World) (u d : List Int) (c : Int) (ok : Bool) (e : Ending) (w' : World) : Prop := ∃ v1 v2, e = .returned (.tuple #[.agg #[v1, v2, .int .i64 c], .bool ok]) ∧ Own w.heap.size w' v1 u ∧ Own w.heap.size w' v2 d ∧ ApartS v1 v2 ∧ Below w.heap.size w w'
theorem len_of {B : Nat} {w : World} {a : Option Addr} {n c : Nat} {l : List Int} (h : Own B w (.slice a n c) l) : n = l.length := by
  obtain ⟨a', c', hv, _⟩ := h.rd
  simp at hv; exact hv.2.1
theorem results_sst (tmps : Array Value) (w : World) (g : Nat) (v1 v2 v3 : Value) (ok : Bool) (hg : Box3 27 w g v1 v2 v3) (h4 : tmps.getD 4 undef = .pointer (some ⟨g, 0, none⟩)) (h5 : tmps.getD 5 undef = .bool ok) :
    (results Try.f52 tmps).run Try.prog w = .ok (.tuple #[.agg #[v1, v2, v3], .bool ok]) w := by
  have h4' : tmps[4]?.getD undef = .pointer (some ⟨g, 0, none⟩) := by simpa using h4
  have h5' : tmps[5]?.getD undef = .bool ok := by simpa using h5
  have hr : Try.f52.results = #[.cell 4 27, .tmp 5] := by kernel_rfl
  simp [results, hr, h4', h5', asAddr, run_loadSt w g v1 v2 v3 hg]
theorem Box3.under {T : TypeId} {w w' : World} {b B : Nat} {v1 v2 v3 : Value} (h : Box3 T w b v1 v2 v3) (hb : Below B w w') (hB : b < B) : Box3 T w' b v1 v2 v3 := (hb.block b hB).trans h
theorem own_at2 {B : Nat} {w : World} {v : Value} {l : List Int} (h : Own B w v l) (h0 : 0 < l.length) : ∃ g c, v = .slice (some ⟨g, 0, none⟩) l.length c := by
  rcases h.shape with ⟨_, h2⟩ | ⟨g, c, h1, _⟩
  · rw [h2] at h0; simp at h0
  · exact ⟨g, c, h1⟩
set_option maxHeartbeats 4000000 in
set_option maxRecDepth 100000 in
theorem stStep_no (u d : List Int) (c k : Int) (w : World) (v1 v2 : Value) (h1 : Rd w v1 u) (h2 : Rd w v2 d) (hu : u.length ≤ 6) (hd : d.length ≤ 6) (hk : (2 ≤ k ∧ k ≤ 3 ∧ u.length = 0) ∨ ((k = 1 ∨ k = 3) ∧ d.length = 0)) :
    Calls Try.prog 52 #[.agg #[v1, v2, .int .i64 c], .int .i64 k] w (MadeStO w [] [] 0 false) := by
  have hA0 := Box3.new 27 w v1 v2 (.int .i64 c)
  have hA := hA0.below (Below.alloc1 _ (.cells #[.slice none 0 0, .slice none 0 0, .int .i64 0] 27))
  have hR := Box3.new 27 (w.alloc (.cells #[v1, v2, .int .i64 c] 27)) (.slice none 0 0) (.slice none 0 0) (.int .i64 0)
  rw [World.size_alloc] at hR
  have B2 := Below.step (Below.alloc1 w (.cells #[v1, v2, .int .i64 c] 27)) (Below.alloc1 _ (.cells #[.slice none 0 0, .slice none 0 0, .int .i64 0] 27))
  have R1 := h1.below B2; have R2 := h2.below B2
  have k0 := hA.c0; have k1 := hA.c1; have k2 := hA.c2
  have hsz : w.heap.size + 2 ≤ ((w.alloc (.cells #[v1, v2, .int .i64 c] 27)).alloc (.cells #[.slice none 0 0, .slice none 0 0, .int .i64 0] 27)).heap.size := by simp
  have HO1 := Lib.hid (fun W (h : Rd W v1 u) => l1Own_any v1 u W h (by omega))
  have HO2 := Lib.hid (fun W (h : Rd W v2 d) => l1Own_any v2 d W h (by omega))
  have HA := Lib.hid hA; have HR := Lib.hid hR; have HB := Lib.hid B2; have HR1 := Lib.hid R1; have HR2 := Lib.hid R2; have HSZ := Lib.hid hsz
  obtain ⟨nu, hnu⟩ : ∃ n, n = u.length := ⟨_, rfl⟩
  obtain ⟨nd, hnd⟩ : ∃ n, n = d.length := ⟨_, rfl⟩
  have HNU := Lib.hid hnu; have HND := Lib.hid hnd
  rw [← hnu] at hu
  rw [← hnu] at hk
  rw [← hnd] at hd
  rw [← hnd] at hk
  clear hA0 hA hR B2 R1 R2 h1 h2 hsz hnu hnd
  go_enter Try.func52, Try.ntmps52
  go_wp2_with fail
  generalize hW2 : ((w.alloc (.cells #[v1, v2, .int .i64 c] 27)).alloc (.cells #[.slice none 0 0, .slice none 0 0, .int .i64 0] 27)) = W2 at HA HR HB HR1 HR2 HSZ k0 k1 k2 ⊢
  clear hW2
  go_cut [6, 7] (fun s6 s7 wx => ∃ (a1 : Option Addr) (c1 : Nat) (a2 : Option Addr) (c2 : Nat), s6 = .slice a1 nu c1 ∧ s7 = .slice a2 nd c2 ∧ Hid (Own (w.heap.size + 2) wx (.slice a1 nu c1) u) ∧ Hid (Own (w.heap.size + 2) wx (.slice a2 nd c2) d) ∧ Hid (ApartS (.slice a1 nu c1) (.slice a2 nd c2)) ∧ Hid (Box3 27 wx w.heap.size v1 v2 (.int .i64 c)) ∧ Hid (Box3 27 wx (w.heap.size + 1) (.slice none 0 0) (.slice none 0 0) (.int .i64 0)) ∧ Hid (Below w.heap.size w wx))
  case first =>
    go_region_with (first
      | (go_at_call 74; ((refine (HO1.out _ (show Rd (World.drew W2) v1 u from HR1.out)).mono ?_); rintro e w1 ⟨x1, rfl, ho1, hb1⟩; have hb1' : Below W2.heap.size W2 w1 := ((Below.refl _ W2).drew).trans hb1; have HX1 := Lib.hid hb1'; have HP1 := Lib.hid ho1; have HA1 := Lib.hid (HA.out.below hb1'); have j0 := HA1.out.c0; have j1 := HA1.out.c1; have j2 := HA1.out.c2; obtain ⟨f1, f2, f3, rfl⟩ := ho1.form'; clear ho1 hb1 hb1'))
      | (go_at_call 74; ((refine (HO2.out _ (HR2.out.below HX1.out)).mono ?_); rintro e w2 ⟨x2, rfl, ho2, hb2⟩; have HP2 := Lib.hid ho2; have HP12 := Lib.hid (HP1.out.below hb2); have HX2 := Lib.hid (Below.step HX1.out hb2); obtain ⟨f4, f5, f6, rfl⟩ := ho2.form'; clear ho2 hb2)))
    all_goals
      have e1 := len_of HP1.out; have e2 := len_of HP2.out
      have HAP : Hid (ApartS (.slice f1 f2 f3) (.slice f4 f5 f6)) := (fun k hk hk' => by have h5 := (HP1.out.lt k hk).2; have h6 := (HP2.out.lt k hk').1; omega)
      rw [← HNU.out] at e1; rw [← HND.out] at e2
      subst e1; subst e2
      have HQ1 := Lib.hid (HP12.out.mono HSZ.out)
      have HQ2 := Lib.hid (HP2.out.mono (Nat.le_trans HSZ.out HX1.out.size))
      have HA2 := Lib.hid (HA.out.below HX2.out); have HR2' := Lib.hid (HR.out.below HX2.out); have HB2 := Lib.hid (Below.step HB.out HX2.out)
      go_wp2_with fail
      go_meet
      case rel => exact ⟨f1, f3, f4, f6, rfl, rfl, HQ1, HQ2, HAP, HA2, HR2', HB2⟩
  case rest =>
  obtain ⟨a1, c1, a2, c2, rfl, rfl, HU, HD, HAP, HA3, HR3, HB3⟩ := hcut
  generalize wc = w3 at *
  clear k0 k1 k2 HR1 HR2 HSZ HA HR HB HO1 HO2
  have k2 := HA3.out.c2
  have r0 := HR3.out.c0; have r1 := HR3.out.c1; have r2 := HR3.out.c2; have g0 := HR3.out.free 0; have g1 := HR3.out.free 1; have g2 := HR3.out.free 2
  have fin : ∀ a : Act, a.defers = [] → a.tmps.getD 4 undef = .pointer (some ⟨w.heap.size + 1, 0, none⟩) → a.tmps.getD 5 undef = .bool false → bodyPost Try.prog Try.f52 (MadeStO w [] [] 0 false) .ret a (((w3.setCell ⟨w.heap.size + 1, 0, none⟩ (.slice none 0 0)).setCell ⟨w.heap.size + 1, 1, none⟩ (.slice none 0 0)).setCell ⟨w.heap.size + 1, 2, none⟩ (.int .i64 0)) := fun a h0 h4 h5 =>
    bodyPost_ret (results_sst _ _ (w.heap.size + 1) _ _ _ false (((HR3.out.set0 _).set1 _).set2 _) h4 h5) h0 ⟨_, _, rfl, Own.nil _ _, Own.nil _ _, ApartS.nil _, ((HB3.out.setCell (p := ⟨w.heap.size + 1, 0, none⟩) (Nat.le_succ _) _).setCell (p := ⟨w.heap.size + 1, 1, none⟩) (Nat.le_succ _) _).setCell (p := ⟨w.heap.size + 1, 2, none⟩) (Nat.le_succ _) _⟩
  have FIN := Lib.hid fin
  clear fin
  rcases hk with ⟨q1, q2, q3⟩ | ⟨q1 | q1, q3⟩
  · have hk2 : decide ((nu : Int) - 1 < 0) = true := by simp; omega
    have hk1 : decide (2 ≤ k) = true := by simp; omega
    go_wp2
    exact FIN.out _ rfl rfl rfl
  · subst q1
    have hk2 : (nd : Int) - 1 < 0 := by omega
    go_wp2
    exact FIN.out _ rfl rfl rfl
  · subst q1
    by_cases h0 : nu = 0
    · have hk1 : (nu : Int) - 1 < 0 := by omega
      go_wp2
      exact FIN.out _ rfl rfl rfl
    · have hk2 : (nd : Int) - 1 < 0 := by omega
      have hk1 : ¬ (nu : Int) - 1 < 0 := by omega
      go_wp2
      exact FIN.out _ rfl rfl rfl

end Go.Proofs.Ytllhdmpnjcemkac
