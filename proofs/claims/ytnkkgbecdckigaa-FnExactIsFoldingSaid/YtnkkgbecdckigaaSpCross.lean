/- The model's joints: spPlaces, spCross, spCrossed, spIs; IsFolding and CrossedArcs. -/
import Derived.Test.YtnkkgbecdckigaaFold
import Derived.Test.YtnkkgbecdckigaaStkSpec
namespace Go.Proofs.Ytnkkgbecdckigaa
open Go.RowKit
set_option linter.unusedSimpArgs false
set_option linter.unusedVariables false

/-- the places of the stamps, those before k told so far -/
def plK (l : List Int) (k : Nat) : List Int := (List.range l.length).map fun s => if plc l s < k then (plc l s : Int) else 0
def plL (l : List Int) : List Int := (List.range l.length).map fun s => (plc l s : Int)
theorem plK_length (l : List Int) (k : Nat) : (plK l k).length = l.length := by simp [plK]
theorem plL_length (l : List Int) : (plL l).length = l.length := by simp [plL]
theorem plK_zero (l : List Int) : plK l 0 = List.replicate l.length 0 := by
  apply List.ext_getElem
  · simp [plK]
  · intro i h1 h2; simp [plK]
theorem plK_all {l : List Int} (h : stackB l = true) : plK l l.length = plL l := by
  apply List.ext_getElem
  · simp [plK, plL]
  · intro i h1 h2
    simp only [plK_length] at h1
    simp only [plK, plL, List.getElem_map, List.getElem_range]
    rw [if_pos (plc_lt h h1)]
theorem plK_succ {l : List Int} (h : stackB l = true) {k s : Nat} (hk : k < l.length) (e : l.getD k 0 = (s : Int)) : plK l (k + 1) = (plK l k).set s (k : Int) := by
  have hs : s < l.length := by have := (stack_facts h).2.2.1 k hk; omega
  have hp : plc l s = k := plc_of h hk e
  apply List.ext_getElem
  · simp [plK]
  · intro i h1 h2
    simp only [plK_length] at h1
    rw [List.getElem_set]
    simp only [plK, List.getElem_map, List.getElem_range]
    by_cases hi : s = i
    · subst hi; simp [hp]
    · rw [if_neg hi]
      have hne : plc l i ≠ k := by
        intro e2
        have := plc_get h h1
        rw [e2, e] at this
        omega
      by_cases hlt : plc l i < k
      · rw [if_pos (by omega), if_pos hlt]
      · rw [if_neg (by omega), if_neg hlt]
theorem plL_get {l : List Int} {i : Nat} (hi : i < l.length) : (plL l).getD i 0 = (plc l i : Int) := by
  simp [plL, List.getD, hi]

set_option maxHeartbeats 1000000 in
theorem spPlaces_any (v : Value) (l : List Int) (w : World) (h : Rd w v l) (hs : stackB l = true) :
    Calls Try.prog 60 #[v] w (Made w (plL l)) := by
  have h8 := stack_len hs
  have hst := fun k s hk e => plK_succ hs (k := k) (s := s) hk e
  have hrr := fun k hk => (stack_facts hs).2.2.1 k hk
  have hfin := plK_all hs
  obtain ⟨b, off, c, rfl, hlc, hcm, hcell⟩ := h.at (stack_facts hs).1
  obtain ⟨n, hn⟩ : ∃ n, n = l.length := ⟨_, rfl⟩
  have hz := plK_zero l
  have hkl := plK_length l
  rw [← hn] at hlc hcell h8 hrr hz hkl hst hfin ⊢
  unfold maxLen at hcm
  have HN := Lib.hid hn; have HC := Lib.hid hcell; have HR := Lib.hid hrr; have HST := Lib.hid hst; have HFI := Lib.hid hfin; have HZ := Lib.hid hz; have HKL := Lib.hid hkl
  clear hn hcell hrr hst hfin hz hkl hs h
  go_enter Try.func60, Try.ntmps60
  go_wp2_with (at_make; refine wp_make w rfl _ _ rfl n _ _ rfl rfl rfl rfl (by omega) ?_; intro w2 hown hbel hsz; rw [← HZ.out] at hown)
  go_loopw [11] (fun i wr => ∃ k : Nat, k ≤ n ∧ i = .int .i64 k ∧ Own w.heap.size wr (.slice (some ⟨w.heap.size, 0, none⟩) n n) (plK l k) ∧ Below w.heap.size w wr) (fun i _ => n - (intOf i).toNat)
  case atStart => exact ⟨0, by omega, rfl, hown, hbel⟩
  case round =>
    clear hown hbel hsz
    obtain ⟨k, hk, rfl, hown, hbel⟩ := hrel
    by_cases hlt : k < n
    · have hsrc : wr.cell? ⟨b, off + k, none⟩ = some (.int .i64 (l.getD k 0)) := by
        have := HC.out k hlt
        exact (hbel.cell (p := ⟨b, off + k, none⟩) (World.block_lt_of_cell? w _ this)).trans this
      have hx := HR.out k hlt
      obtain ⟨s, hse⟩ := Int.eq_ofNat_of_zero_le hx.1
      have HNX := Lib.hid (HST.out k s (by omega) hse)
      rw [hse] at hsrc hx
      have hsn : s < n := by omega
      have hdst := hown.cellAt s (by rw [HKL.out]; exact hsn)
      have hfr := hown.frozenAt s
      have hnew := hown.stored s (k : Int)
      rw [← HNX.out] at hnew
      have HW := Lib.hid hnew
      have HB := Lib.hid (hbel.setCell (p := ⟨w.heap.size, s, none⟩) (Nat.le_refl _) (.int .i64 (k : Int)))
      clear hnew hown hbel hx hse
      generalize (plK l k).getD s 0 = z at hdst
      go_wp2
      go_roundw
      case rel => exact ⟨k + 1, by omega, by go_num, HW.out, HB.out⟩
      case measure => simp [intOf]; omega
    · obtain rfl : k = n := by omega
      go_wp2
      go_ret
      rw [HFI.out] at hown
      exact ⟨_, rfl, hown, hbel⟩

def NumOut (w : World) (x : Int) (e : Ending) (w' : World) : Prop := e = .returned (.int .i64 x) ∧ w = w'
set_option maxHeartbeats 400000 in
theorem l1Least_nat (a b : Nat) (w : World) : Calls Try.prog 72 #[.int .i64 (a : Int), .int .i64 (b : Int)] w (NumOut w ((min a b : Nat) : Int)) := by
  by_cases h : a < b
  · have HM : Hid (min a b = a) := by show min a b = a; omega
    rw [HM.out]
    go_enter Try.func72, Try.ntmps72
    go_wp2
    all_goals (go_ret; first | exact ⟨rfl, rfl⟩ | (exfalso; omega))
  · have HM : Hid (min a b = b) := by show min a b = b; omega
    rw [HM.out]
    go_enter Try.func72, Try.ntmps72
    go_wp2
    all_goals (go_ret; first | exact ⟨rfl, rfl⟩ | (exfalso; omega))
set_option maxHeartbeats 400000 in
theorem l1Most_nat (a b : Nat) (w : World) : Calls Try.prog 73 #[.int .i64 (a : Int), .int .i64 (b : Int)] w (NumOut w ((max a b : Nat) : Int)) := by
  by_cases h : b < a
  · have HM : Hid (max a b = a) := by show max a b = a; omega
    rw [HM.out]
    go_enter Try.func73, Try.ntmps73
    go_wp2
    all_goals (go_ret; first | exact ⟨rfl, rfl⟩ | (exfalso; omega))
  · have HM : Hid (max a b = b) := by show max a b = b; omega
    rw [HM.out]
    go_enter Try.func73, Try.ntmps73
    go_wp2
    all_goals (go_ret; first | exact ⟨rfl, rfl⟩ | (exfalso; omega))

theorem quietI {f : FuncId} {args : Array Value} {x : Int} {w : World} {q : Nat} (h : Calls Try.prog f args (w.drewN q) (NumOut (w.drewN q) x)) :
    Calls Try.prog f args (w.drewN q) fun e w' => e = .returned (.int .i64 x) ∧ w' = w.drewN q := h.mono fun _ _ ⟨h1, h2⟩ => ⟨h1, h2.symm⟩

theorem quiet_twice {P : Program} {f : FuncId} {args : Array Value} {w : World} {a n : Nat} {v : Value} (h : Calls P f args (w.drewN (a + n)) fun e w' => e = .returned v ∧ w' = w.drewN (a + n)) :
    Calls P f args (w.drewN (a + n)) fun e w'' => e = .returned v ∧ ∃ m, w'' = w.drewN (a + m) := h.mono fun _ _ ⟨he, hm⟩ => ⟨he, n, hm⟩

set_option maxHeartbeats 4000000 in
set_option maxRecDepth 100000 in
theorem spCross_any (v : Value) (l : List Int) (i j : Nat) (w : World) (hrd : Rd w v (plL l)) (hs : stackB l = true) (hij : i < j) (hj : j + 1 < l.length) :
    Calls Try.prog 61 #[v, .int .i64 (i : Int), .int .i64 (j : Int)] w fun e w' => e = .returned (.bool (crossB l i j)) ∧ ∃ q, w' = w.drewN q := by
  have h8 := stack_len hs
  have hpl := plL_length l
  obtain ⟨b, off, c, rfl, hlc, hcm, hcell⟩ := hrd.at (by omega)
  have c1 := hcell i (by omega)
  have c2 := hcell (i + 1) (by omega)
  have c3 := hcell j (by omega)
  have c4 := hcell (j + 1) (by omega)
  rw [plL_get (by omega)] at c1 c2 c3 c4
  have b1 := plc_lt hs (s := i) (by omega)
  have b2 := plc_lt hs (s := i + 1) (by omega)
  have b3 := plc_lt hs (s := j) (by omega)
  have b4 := plc_lt hs (s := j + 1) (by omega)
  rw [hpl] at hlc ⊢
  unfold maxLen at hcm
  unfold crossB jlo jhi
  generalize plc l i = p1 at c1 b1 ⊢
  generalize plc l (i + 1) = p2 at c2 b2 ⊢
  generalize plc l j = p3 at c3 b3 ⊢
  generalize plc l (j + 1) = p4 at c4 b4 ⊢
  obtain ⟨n, hn⟩ : ∃ n, n = l.length := ⟨_, rfl⟩
  rw [← hn] at hlc h8 hj b1 b2 b3 b4 ⊢
  clear hrd hpl hcell hs hn
  have L1 := fun q => quietI (q := q) (w := w) (l1Least_nat p1 p2 _)
  have M1 := fun q => quietI (q := q) (w := w) (l1Most_nat p1 p2 _)
  have L2 := fun q => quietI (q := q) (w := w) (l1Least_nat p3 p4 _)
  have M2 := fun q => quietI (q := q) (w := w) (l1Most_nat p3 p4 _)
  obtain ⟨a1, ha1⟩ : ∃ a, a = min p1 p2 := ⟨_, rfl⟩
  obtain ⟨a2, ha2⟩ : ∃ a, a = max p1 p2 := ⟨_, rfl⟩
  obtain ⟨a3, ha3⟩ : ∃ a, a = min p3 p4 := ⟨_, rfl⟩
  obtain ⟨a4, ha4⟩ : ∃ a, a = max p3 p4 := ⟨_, rfl⟩
  rw [← ha1] at L1 ⊢
  rw [← ha2] at M1 ⊢
  rw [← ha3] at L2 ⊢
  rw [← ha4] at M2 ⊢
  have k1 : a1 ≤ 8 := by omega
  have k2 : a2 ≤ 8 := by omega
  have k3 : a3 ≤ 8 := by omega
  have k4 : a4 ≤ 8 := by omega
  have HL1 := Lib.hid L1; have HL2 := Lib.hid L2; have HM1 := Lib.hid M1; have HM2 := Lib.hid M2
  clear ha1 ha2 ha3 ha4 L1 L2 M1 M2
  have hi8 : i < 8 := by omega
  have hj8 : j < 8 := by omega
  by_cases hp : i % 2 = j % 2
  · have h1 : (((j : Int) - (i : Int)) % 2 == 1) = false := by simp; omega
    have h0 : 0 ≤ (j : Int) - (i : Int) := by omega
    have HP : Hid (decide (i % 2 = j % 2) = true) := decide_eq_true hp
    rw [HP.out, Bool.true_and]
    have e1 : IntKind.i64.wrap ((i : Int) + 1) = (i : Int) + 1 := IntWalk.i64_in _ (by omega)
    have e2 : IntKind.i64.wrap ((j : Int) + 1) = (j : Int) + 1 := IntWalk.i64_in _ (by omega)
    have e3 : 0 ≤ (i : Int) + 1 := by omega
    have e4 : 0 ≤ (j : Int) + 1 := by omega
    have e5 : ((i : Int) + 1).toNat = i + 1 := by omega
    have e6 : ((j : Int) + 1).toNat = j + 1 := by omega
    clear hp
    go_enter Try.func61, Try.ntmps61
    go_wp2
    go_quiet ((first
      | (go_at_call 72; with_reducible exact Calls.quiet_of_same (HL1.out _))
      | (go_at_call 73; with_reducible exact Calls.quiet_of_same (HM1.out _))))
    go_wp2
    go_quiet ((first
      | (go_at_call 72; with_reducible exact quiet_twice (HL2.out _))
      | (go_at_call 73; with_reducible exact quiet_twice (HM2.out _))))
    go_wp2
    all_goals
      go_ret
      refine ⟨ret_b (cross_iff _ _ _ _ _ ?_), _, rfl⟩
      first | (simp; omega) | (simp only [true_iff, false_iff, reduceCtorEq, decide_eq_true_eq]; omega)
  · have h1 : (((j : Int) - (i : Int)) % 2 == 1) = true := by simp; omega
    have h0 : 0 ≤ (j : Int) - (i : Int) := by omega
    have HP : Hid (decide (i % 2 = j % 2) = false) := decide_eq_false hp
    rw [HP.out, Bool.false_and]
    clear hp
    go_enter Try.func61, Try.ntmps61
    go_wp2
    go_ret
    exact ⟨rfl, 0, rfl⟩

end Go.Proofs.Ytnkkgbecdckigaa
