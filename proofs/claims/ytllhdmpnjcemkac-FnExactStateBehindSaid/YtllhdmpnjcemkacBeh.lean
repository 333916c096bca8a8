/- The states behind the points of a pair: plain mathematics. -/
/- StateBehind in the program. -/
import Derived.Test.YtllhdmpnjcemkacStepMath
import Derived.Test.YtllhdmpnjcemkacEnum
import Derived.Test.YtllhdmpnjcemkacStepH
import Derived.Test.YtllhdmpnjcemkacSteps
import Derived.Deep.RegionHeld3
namespace Go.Proofs.Ytllhdmpnjcemkac
set_option linter.unusedSimpArgs false
set_option linter.unusedVariables false

/-- how many arches are open before the point k, and how many are ended -/
def depN (l : List Int) : Nat → Nat
  | 0 => 0
  | k + 1 => if (k : Int) < l.getD k 0 then depN l k + 1 else depN l k - 1
def clsN (l : List Int) : Nat → Nat
  | 0 => 0
  | k + 1 => if (k : Int) < l.getD k 0 then clsN l k else clsN l k + 1
def depCheck (l : List Int) : Bool := allFrom (fun k => (decide (l.length ≤ k) || (if (k : Int) < l.getD k 0 then decide (depN l k ≤ 5) else decide (1 ≤ depN l k) && decide (depN l k ≤ 6) && decide (l.getD k 0 < (k : Int)))) && (decide (l.length < k) || decide (clsN l k ≤ 6))) 0 13
theorem depCheck0 : (sysAll 0).all depCheck = true := by kernel_rfl
theorem depCheck1 : (sysAll 1).all depCheck = true := by kernel_rfl
theorem depCheck2 : (sysAll 2).all depCheck = true := by kernel_rfl
theorem depCheck3 : (sysAll 3).all depCheck = true := by kernel_rfl
theorem depCheck4 : (sysAll 4).all depCheck = true := by kernel_rfl
theorem depCheck5 : (sysAll 5).all depCheck = true := by kernel_rfl
theorem depCheck6 : (sysAll 6).all depCheck = true := by kernel_rfl
theorem dep_facts {l : List Int} (hg : goodB l = true) {k : Nat} (hk : k < l.length) : ((k : Int) < l.getD k 0 → depN l k ≤ 5) ∧ (¬ (k : Int) < l.getD k 0 → 1 ≤ depN l k ∧ depN l k ≤ 6 ∧ l.getD k 0 < (k : Int)) := by
  have h := good_all6 depCheck0 depCheck1 depCheck2 depCheck3 depCheck4 depCheck5 depCheck6 hg
  have := (allFrom_iff _ _ _).1 h k (by omega) (by have := (good_facts hg).2.1; omega)
  simp only [Bool.and_eq_true, Bool.or_eq_true, decide_eq_true_eq] at this
  have h1 := this.1.resolve_left (by omega)
  constructor
  · intro h2
    rw [if_pos h2] at h1
    exact of_decide_eq_true h1
  · intro h2
    rw [if_neg h2] at h1
    simp only [Bool.and_eq_true, decide_eq_true_eq] at h1
    exact ⟨h1.1.1, h1.1.2, h1.2⟩
theorem cls_facts {l : List Int} (hg : goodB l = true) {k : Nat} (hk : k ≤ l.length) : clsN l k ≤ 6 := by
  have h := good_all6 depCheck0 depCheck1 depCheck2 depCheck3 depCheck4 depCheck5 depCheck6 hg
  have := (allFrom_iff _ _ _).1 h k (by omega) (by have := (good_facts hg).2.1; omega)
  simp only [Bool.and_eq_true, Bool.or_eq_true, decide_eq_true_eq] at this
  exact this.2.resolve_left (by omega)

theorem dropTop_length (l : List Int) : (dropTop l).length = l.length - 1 := by simp [dropTop]
theorem so0 {u d : List Int} {c : Int} (hu : u.length < 6) (hd : d.length < 6) (hc : c ≤ 6) : stepO u d c 0 = some (renU (u ++ [partI u d]), renD (u ++ [partI u d]) (d ++ [partI u d]), c) := by
  unfold stepO
  rw [show rawStep (partI u d) u d c 0 = some (u ++ [partI u d], d ++ [partI u d], c) from rfl]
  simp only
  rw [if_pos (by simp; omega)]
theorem so1 {u d : List Int} {c : Int} (hu : u.length < 6) (hd : 1 ≤ d.length ∧ d.length ≤ 6) (hc : c ≤ 6) : stepO u d c 1 = some (renU (u ++ [lastI d]), renD (u ++ [lastI d]) (dropTop d), c) := by
  unfold stepO
  rw [show rawStep (partI u d) u d c 1 = some (u ++ [lastI d], dropTop d, c) from if_neg (by omega)]
  simp only
  rw [if_pos (by rw [dropTop_length]; simp; omega)]
theorem so2 {u d : List Int} {c : Int} (hu : 1 ≤ u.length ∧ u.length ≤ 6) (hd : d.length < 6) (hc : c ≤ 6) : stepO u d c 2 = some (renU (dropTop u), renD (dropTop u) (d ++ [lastI u]), c) := by
  unfold stepO
  rw [show rawStep (partI u d) u d c 2 = some (dropTop u, d ++ [lastI u], c) from if_neg (by omega)]
  simp only
  rw [if_pos (by rw [dropTop_length]; simp; omega)]
theorem so3 {u d : List Int} {c : Int} (hu : 1 ≤ u.length ∧ u.length ≤ 6) (hd : 1 ≤ d.length ∧ d.length ≤ 6) (hc : c + 1 ≤ 6) : ∃ a b x, stepO u d c 3 = some (a, b, x) ∧ a.length = u.length - 1 ∧ b.length = d.length - 1 ∧ x ≤ c + 1 := by
  unfold stepO
  rw [show rawStep (partI u d) u d c 3 = some ((dropTop u).map (mgI (lastI u) (lastI d)), (dropTop d).map (mgI (lastI u) (lastI d)), if lastI u = lastI d then c + 1 else c) from if_neg (by omega)]
  simp only
  have hx : (if lastI u = lastI d then c + 1 else c) ≤ c + 1 := by split <;> omega
  rw [if_pos (by rw [List.length_map, List.length_map, dropTop_length, dropTop_length]; omega)]
  exact ⟨_, _, _, rfl, by rw [renU_length, List.length_map, dropTop_length], by rw [renD_length, List.length_map, dropTop_length], hx⟩

/-- the step at a point -/
def kindN (t b : List Int) (i : Nat) : Nat := (if (i : Int) < t.getD i 0 then 0 else 2) + (if (i : Int) < b.getD i 0 then 0 else 1)
def behS (t b : List Int) : Nat → List Int × List Int × Int
  | 0 => ([], [], 0)
  | k + 1 => match stepO (behS t b k).1 (behS t b k).2.1 (behS t b k).2.2 (kindN t b k) with
    | some r => r
    | none => ([], [], 0)
theorem beh_ok {t b : List Int} (gt : goodB t = true) (gb : goodB b = true) (hl : t.length = b.length) : ∀ k, k ≤ t.length →
    stateB (behS t b k).1 (behS t b k).2.1 (behS t b k).2.2 = true ∧ (behS t b k).1.length = depN t k ∧ (behS t b k).2.1.length = depN b k ∧ (behS t b k).2.2 ≤ (clsN t k : Int) ∧ (k < t.length → stepO (behS t b k).1 (behS t b k).2.1 (behS t b k).2.2 (kindN t b k) = some (behS t b (k + 1)))
  | k, hk => by
    have key : ∀ k, k ≤ t.length → stateB (behS t b k).1 (behS t b k).2.1 (behS t b k).2.2 = true ∧ (behS t b k).1.length = depN t k ∧ (behS t b k).2.1.length = depN b k ∧ (behS t b k).2.2 ≤ (clsN t k : Int) → k < t.length → ∃ r, stepO (behS t b k).1 (behS t b k).2.1 (behS t b k).2.2 (kindN t b k) = some r ∧ r.1.length = depN t (k + 1) ∧ r.2.1.length = depN b (k + 1) ∧ r.2.2 ≤ (clsN t (k + 1) : Int) := by
      intro k hk ⟨h1, h2, h3, h4⟩ hlt
      have f1 := dep_facts gt hlt
      have f2 := dep_facts gb (k := k) (by omega)
      have f3 := cls_facts gt (k := k + 1) (by omega)
      have hc := (state_facts h1).2.2.1
      generalize (behS t b k).1 = u at *
      generalize (behS t b k).2.1 = d at *
      generalize (behS t b k).2.2 = c at *
      have e1 : depN t (k + 1) = if (k : Int) < t.getD k 0 then depN t k + 1 else depN t k - 1 := rfl
      have e2 : depN b (k + 1) = if (k : Int) < b.getD k 0 then depN b k + 1 else depN b k - 1 := rfl
      have e3 : clsN t (k + 1) = if (k : Int) < t.getD k 0 then clsN t k else clsN t k + 1 := rfl
      by_cases ht : (k : Int) < t.getD k 0
      · have g1 := f1.1 ht
        rw [if_pos ht] at e1 e3
        by_cases hb : (k : Int) < b.getD k 0
        · have g2 := f2.1 hb
          rw [if_pos hb] at e2
          have hk : kindN t b k = 0 := by unfold kindN; rw [if_pos ht, if_pos hb]
          rw [hk, so0 (by omega) (by omega) hc.2]
          exact ⟨_, rfl, by simp [renU_length, h2, e1], by simp [renD_length, h3, e2], by rw [e3]; exact h4⟩
        · have g2 := f2.2 hb
          rw [if_neg hb] at e2
          have hk : kindN t b k = 1 := by unfold kindN; rw [if_pos ht, if_neg hb]
          rw [hk, so1 (by omega) (by omega) hc.2]
          exact ⟨_, rfl, by simp [renU_length, h2, e1], by simp [renD_length, dropTop_length, h3, e2], by rw [e3]; exact h4⟩
      · have g1 := f1.2 ht
        rw [if_neg ht] at e1 e3
        by_cases hb : (k : Int) < b.getD k 0
        · have g2 := f2.1 hb
          rw [if_pos hb] at e2
          have hk : kindN t b k = 2 := by unfold kindN; rw [if_neg ht, if_pos hb]
          rw [hk, so2 (by omega) (by omega) hc.2]
          exact ⟨_, rfl, by simp [renU_length, dropTop_length, h2, e1], by simp [renD_length, h3, e2], by show c ≤ _; rw [e3]; omega⟩
        · have g2 := f2.2 hb
          rw [if_neg hb] at e2
          have hk : kindN t b k = 3 := by unfold kindN; rw [if_neg ht, if_neg hb]
          obtain ⟨a, b', x, he, l1, l2, l3⟩ := so3 (u := u) (d := d) (c := c) (by omega) (by omega) (by omega)
          rw [hk, he]
          exact ⟨_, rfl, by show a.length = _; omega, by show b'.length = _; omega, by show x ≤ _; rw [e3]; omega⟩
    have base : ∀ k, k ≤ t.length → stateB (behS t b k).1 (behS t b k).2.1 (behS t b k).2.2 = true ∧ (behS t b k).1.length = depN t k ∧ (behS t b k).2.1.length = depN b k ∧ (behS t b k).2.2 ≤ (clsN t k : Int) := by
      intro k
      induction k with
      | zero => intro _; exact ⟨by kernel_rfl, rfl, rfl, by simp [behS, clsN]⟩
      | succ k ih =>
        intro hk
        have h0 := ih (by omega)
        obtain ⟨⟨a, b', x⟩, he, l1, l2, l3⟩ := key k (by omega) h0 (by omega)
        have hs := step_state h0.1 he
        have e : behS t b (k + 1) = (a, b', x) := by
          show (match stepO (behS t b k).1 (behS t b k).2.1 (behS t b k).2.2 (kindN t b k) with | some r => r | none => ([], [], 0)) = _
          rw [he]
        rw [e]
        exact ⟨hs, l1, l2, l3⟩
    have hb := base k hk
    refine ⟨hb.1, hb.2.1, hb.2.2.1, hb.2.2.2, fun hlt => ?_⟩
    obtain ⟨r, he, _⟩ := key k hk hb hlt
    have e : behS t b (k + 1) = r := by
      show (match stepO (behS t b k).1 (behS t b k).2.1 (behS t b k).2.2 (kindN t b k) with | some r => r | none => ([], [], 0)) = _
      rw [he]
    rw [e, he]

end Go.Proofs.Ytllhdmpnjcemkac

namespace Go.Proofs.Ytllhdmpnjcemkac
open Go.RowKit
set_option linter.unusedSimpArgs false
set_option linter.unusedVariables false

def okSB (t b : List Int) (k : Int) : Bool := pairOk t b && inB k 0 t.length
def ok_StateBehind (t b : List Int) (k : Int) : Bool := okSB t b k
def behO (t b : List Int) (k : Int) : List Int × List Int × Int := if okSB t b k then behS t b k.toNat else ([], [], 0)
def res1_StateBehind (t b : List Int) (k : Int) : List Int := (behO t b k).1
def res2_StateBehind (t b : List Int) (k : Int) : List Int := (behO t b k).2.1
def res3_StateBehind (t b : List Int) (k : Int) : Int := (behO t b k).2.2
theorem okSB_facts {t b : List Int} {k : Int} (h : okSB t b k = true) : pairOk t b = true ∧ 0 ≤ k ∧ k ≤ t.length := by
  unfold okSB at h
  rw [Bool.and_eq_true, inB_iff] at h
  exact ⟨h.1, h.2.1, h.2.2⟩
theorem behO_len (t b : List Int) (k : Int) : (behO t b k).1.length ≤ 6 ∧ (behO t b k).2.1.length ≤ 6 := by
  unfold behO
  split
  · next h =>
    obtain ⟨hp, h0, h1⟩ := okSB_facts h
    obtain ⟨g1, g2, g3⟩ := pairOk_facts hp
    have := (beh_ok g1 g2 g3 k.toNat (by omega)).1
    have := state_facts this
    omega
  · simp
theorem len_StateBehind (t b : List Int) (k : Int) : (res1_StateBehind t b k).length ≤ 1000000 ∧ (res2_StateBehind t b k).length ≤ 1000000 := by
  have := behO_len t b k
  unfold res1_StateBehind res2_StateBehind; omega
theorem stepV_kind {t b : List Int} (gt : goodB t = true) (gb : goodB b = true) (hl : t.length = b.length) {i : Nat} (hi : i < t.length) : stepV t b i = (kindN t b i : Int) := by
  have f1 := dep_facts gt hi
  have f2 := dep_facts gb (k := i) (by omega)
  unfold stepV kindN
  by_cases h1 : (i : Int) < t.getD i 0
  · rw [if_pos h1, if_neg (by omega)]
    by_cases h2 : (i : Int) < b.getD i 0
    · rw [if_pos h2, if_neg (by omega)]; rfl
    · have := (f2.2 h2).2.2
      rw [if_neg h2, if_pos this]; rfl
  · have := (f1.2 h1).2.2
    rw [if_neg h1, if_pos this]
    by_cases h2 : (i : Int) < b.getD i 0
    · rw [if_pos h2, if_neg (by omega)]; rfl
    · have := (f2.2 h2).2.2
      rw [if_neg h2, if_pos this]; rfl
theorem kind_le (t b : List Int) (i : Nat) : kindN t b i ≤ 3 := by unfold kindN; split <;> split <;> omega
theorem state_wf {u d : List Int} {c : Int} (h : stateB u d c = true) : Wf u ∧ Wf d := by
  have hs := state_small h
  have hf := state_facts h
  have hp : partI u d ≤ 6 := by unfold partI; omega
  exact ⟨fun x hx => by have := hs x (by simp [hx]); omega, fun x hx => by have := hs x (by simp [hx]); omega⟩

def BehS (w0 : World) (b g6 g8 : Nat) (t bb u d : List Int) (c : Int) (w' : World) : Prop :=
  FrIn w' g8 u d c ∧ PairIn w' g6 t bb ∧ Box3 27 w' b (.slice none 0 0) (.slice none 0 0) (.int .i64 0) ∧ Below w0.heap.size w0 w'
theorem BehS.below {w0 : World} {b g6 g8 : Nat} {t bb u d : List Int} {c : Int} {w1 w2 : World} (h : BehS w0 b g6 g8 t bb u d c w1) (hb : Below w1.heap.size w1 w2) : BehS w0 b g6 g8 t bb u d c w2 :=
  ⟨FrIn.below h.1 hb, PairIn.below h.2.1 hb, Box3.below h.2.2.1 hb, Below.step h.2.2.2 hb⟩
theorem BehS.drew {w0 : World} {b g6 g8 : Nat} {t bb u d : List Int} {c : Int} {w1 : World} (h : BehS w0 b g6 g8 t bb u d c w1) : BehS w0 b g6 g8 t bb u d c w1.drew := ⟨h.1, h.2.1, h.2.2.1, Below.drew h.2.2.2⟩
theorem rowRange {w : World} {g : Nat} {C : Array Value} {T : TypeId} {fr : Nat × Nat} (h : w.heap[g]? = some (.cells C T fr)) : w.rangeAt g 0 C.toList := by
  intro j v hj
  rw [Nat.zero_add, cell_of_row w g j _ _ _ h]
  simpa using hj
theorem BehS.held {w0 : World} {b g6 g8 : Nat} {t bb u d : List Int} {c : Int} {w' : World} (hu : u.length ≤ 6) (hd : d.length ≤ 6) (h : BehS w0 b g6 g8 t bb u d c w') :
    Hid (BehS w0 b g6 g8 t bb u d c w') ∧ w'.rangeAt g8 0 (frC u d c).toList ∧ w'.rangeAt g6 0 (pairC t bb).toList ∧ w'.there g8 0 15 :=
  ⟨h, rowRange h.1, rowRange h.2.1, there_row w' g8 0 _ _ h.1 15 (by rw [frC_size c hu hd]; omega)⟩
theorem fr_setAll {w : World} {g : Nat} {u d u0 d0 : List Int} {c c0 : Int} (hu : u.length ≤ 6) (hd : d.length ≤ 6) (hu0 : u0.length ≤ 6) (hd0 : d0.length ≤ 6) (h : FrIn w g u0 d0 c0) : FrIn (w.setCells g 0 (frC u d c).toList) g u d c := by
  unfold FrIn
  rw [heap_setCells_at g _ _ 0 w _ h]
  congr 2
  apply Array.ext_getElem?
  intro i
  have hl : (frC u d c).toList.length = 15 := by rw [Array.length_toList, frC_size c hu hd]
  rw [setsAt_get _ _ _ _ (by rw [hl, frC_size c0 hu0 hd0]; omega), hl]
  by_cases h15 : i < 15
  · rw [if_pos (by omega)]; simp
  · rw [if_neg (by omega)]
    rw [Array.getElem?_eq_none (by rw [frC_size c0 hu0 hd0]; omega), Array.getElem?_eq_none (by rw [frC_size c hu hd]; omega)]
theorem BehS.set {w0 : World} {b g6 g8 : Nat} {t bb u d u' d' : List Int} {c c' : Int} {w' : World} (hu : u.length ≤ 6) (hd : d.length ≤ 6) (hu' : u'.length ≤ 6) (hd' : d'.length ≤ 6) (h6 : g6 ≠ g8) (hb : b ≠ g8) (h8 : w0.heap.size ≤ g8) (h : BehS w0 b g6 g8 t bb u d c w') :
    BehS w0 b g6 g8 t bb u' d' c' (w'.setCells g8 0 (frC u' d' c').toList) :=
  ⟨fr_setAll hu' hd' hu hd h.1, PairIn.grown h.2.1 (grown_setCells g8 _ 0 w') (by simp; omega), Box3.grown h.2.2.1 (grown_setCells g8 _ 0 w') (by simp; omega), h.2.2.2.grown (grown_setCells g8 _ 0 w') h.2.2.2.size (by intro k hk; simp at hk; omega)⟩
theorem results_isb (tmps : Array Value) (w : World) (g : Nat) (v1 v2 v3 : Value) (ok : Bool) (hg : Box3 27 w g v1 v2 v3) (h2 : tmps.getD 4 undef = .pointer (some ⟨g, 0, none⟩)) (h3 : tmps.getD 5 undef = .bool ok) :
    (results Try.f15 tmps).run Try.prog w = .ok (.tuple #[.agg #[v1, v2, v3], .bool ok]) w := by
  have h2' : tmps[4]?.getD undef = .pointer (some ⟨g, 0, none⟩) := by simpa using h2
  have h3' : tmps[5]?.getD undef = .bool ok := by simpa using h3
  have hr : Try.f15.results = #[.cell 4 27, .tmp 5] := by kernel_rfl
  simp [results, hr, h2', h3', asAddr, run_loadSt w g v1 v2 v3 hg]
set_option maxHeartbeats 4000000 in
set_option maxRecDepth 100000 in
theorem impl_SB_no (t b : List Int) (k : Int) (w : World) (u1 u2 : Value) (h1 : Rd w u1 t) (h2 : Rd w u2 b) (m1 : t.length ≤ 1048576) (m2 : b.length ≤ 1048576) (hno : okSB t b k = false) :
    Calls Try.prog 15 #[.agg #[u1, u2], .int .i64 k] w (GivesSt w [] [] 0 false) := by
  have hA0 := Box2.new 30 w u1 u2
  have hA := hA0.below (Below.alloc1 _ (.cells #[.slice none 0 0, .slice none 0 0, .int .i64 0] 27))
  have hR := Box3.new 27 (w.alloc (.cells #[u1, u2] 30)) (.slice none 0 0) (.slice none 0 0) (.int .i64 0)
  rw [World.size_alloc] at hR
  have B2 := Below.step (Below.alloc1 w (.cells #[u1, u2] 30)) (Below.alloc1 _ (.cells #[.slice none 0 0, .slice none 0 0, .int .i64 0] 27))
  have hrd := readPair_any t b _ u1 u2 (h1.below B2) (h2.below B2)
  have k0 := hA.c0; have k1 := hA.c1
  have HB := Lib.hid B2; have HR := Lib.hid hR
  clear hA0 hA hR B2 h1 h2
  have fin : ∀ (W : World) (a : Act), Box3 27 W (w.heap.size + 1) (.slice none 0 0) (.slice none 0 0) (.int .i64 0) → Below w.heap.size w W → a.defers = [] → a.tmps.getD 4 undef = .pointer (some ⟨w.heap.size + 1, 0, none⟩) → a.tmps.getD 5 undef = .bool false → bodyPost Try.prog Try.f15 (GivesSt w [] [] 0 false) .ret a (((W.setCell ⟨w.heap.size + 1, 0, none⟩ (.slice none 0 0)).setCell ⟨w.heap.size + 1, 1, none⟩ (.slice none 0 0)).setCell ⟨w.heap.size + 1, 2, none⟩ (.int .i64 0)) := fun W a hW hB h0 h4 h5 =>
    bodyPost_ret (results_isb _ _ (w.heap.size + 1) _ _ _ false (((hW.set0 _).set1 _).set2 _) h4 h5) h0 ⟨_, _, rfl, Own.nil _ _, Own.nil _ _, ApartS.nil _, ((hB.setCell (p := ⟨w.heap.size + 1, 0, none⟩) (Nat.le_succ _) _).setCell (p := ⟨w.heap.size + 1, 1, none⟩) (Nat.le_succ _) _).setCell (p := ⟨w.heap.size + 1, 2, none⟩) (Nat.le_succ _) _⟩
  have FIN := Lib.hid fin
  clear fin
  cases hR : pairOk t b with
  | false =>
    simp only [hR, Bool.false_eq_true, if_false] at hrd
    have HRD := Lib.hid hrd; clear hrd hR hno
    go_enter Try.func15, Try.ntmps15
    go_wp2_with fail
    refine HRD.out.mono ?_
    rintro e w1 ⟨rfl, hb1⟩
    have HR1 := Lib.hid (HR.out.below hb1); have HB1 := Lib.hid (Below.step HB.out hb1); clear hb1 k0 k1
    go_wp2_with ((with_reducible refine wp_storePairN rfl (.tmp 6) (.tmp 13) rfl [] [] rfl rfl ?_); intro w2 hs2 hb2; have HR2 := Lib.hid (HR1.out.below hb2); have HB2 := Lib.hid (Below.step HB1.out hb2); have r0 := HR2.out.c0; have r1 := HR2.out.c1; have r2 := HR2.out.c2; have f0 := HR2.out.free 0; have f1 := HR2.out.free 1; have f2 := HR2.out.free 2; clear hs2 hb2)
    exact FIN.out _ _ HR2.out HB2.out rfl rfl rfl
  | true =>
    simp only [hR, if_true] at hrd
    have hk : ¬ (0 ≤ k ∧ k ≤ t.length) := by
      intro h
      unfold okSB at hno
      rw [hR, inB_yes h.1 h.2] at hno
      cases hno
    have hn12 := good_len' (pairOk_facts hR).1
    have HSZ := Lib.hid (fun w => pairSize_any t b w)
    have HRD := Lib.hid hrd
    obtain ⟨n, hn⟩ : ∃ n, n = t.length := ⟨_, rfl⟩
    rw [← hn] at hk hn12 HSZ
    clear hrd hR hno hn
    by_cases h0 : k < 0
    · go_enter Try.func15, Try.ntmps15
      go_wp2_with fail
      refine HRD.out.mono ?_
      rintro e w1 ⟨rfl, hb1⟩
      have HR1 := Lib.hid (HR.out.below hb1); have HB1 := Lib.hid (Below.step HB.out hb1); clear hb1 k0 k1
      go_wp2_with ((with_reducible refine wp_storePairN rfl (.tmp 6) (.tmp 13) rfl t b rfl rfl ?_); intro w2 hs2 hb2; have HR2 := Lib.hid (HR1.out.below hb2); have HB2 := Lib.hid (Below.step HB1.out hb2); have r0 := HR2.out.c0; have r1 := HR2.out.c1; have r2 := HR2.out.c2; have f0 := HR2.out.free 0; have f1 := HR2.out.free 1; have f2 := HR2.out.free 2; clear hs2 hb2)
      exact FIN.out _ _ HR2.out HB2.out rfl rfl rfl
    · have hkn : (n : Int) < k := by omega
      have hdk : decide (k < 0) = false := decide_eq_false h0
      go_enter Try.func15, Try.ntmps15
      go_wp2_with fail
      refine HRD.out.mono ?_
      rintro e w1 ⟨rfl, hb1⟩
      have HR1 := Lib.hid (HR.out.below hb1); have HB1 := Lib.hid (Below.step HB.out hb1); clear hb1 k0 k1
      go_wp2_with (first
        | ((with_reducible refine wp_storePairN rfl (.tmp 6) (.tmp 13) rfl t b rfl rfl ?_); intro w2 hs2 hb2; have HS2 := Lib.hid hs2; have HR2 := Lib.hid (HR1.out.below hb2); have HB2 := Lib.hid (Below.step HB1.out hb2); clear hs2 hb2)
        | (with_reducible refine wp_loadPairG (.tmp 6) rfl w1.heap.size t b rfl HS2.out (by with_unfolding_all rfl) ?_)
        | (go_at_call 55; ((with_reducible refine (HSZ.out _).mono ?_); rintro e w3 ⟨rfl, hb3⟩; have HR3 := Lib.hid (HR2.out.below hb3); have HB3 := Lib.hid (Below.step HB2.out hb3); have r0 := HR3.out.c0; have r1 := HR3.out.c1; have r2 := HR3.out.c2; have f0 := HR3.out.free 0; have f1 := HR3.out.free 1; have f2 := HR3.out.free 2; clear hb3)))
      exact FIN.out _ _ HR3.out HB3.out rfl rfl rfl

end Go.Proofs.Ytllhdmpnjcemkac
