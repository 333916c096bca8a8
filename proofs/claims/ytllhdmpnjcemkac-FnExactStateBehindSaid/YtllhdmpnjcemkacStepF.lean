/- The cells of one side of a frontier: what pushing, popping and renaming turn. -/
/- The ends of a frontier: push, pop, rename. -/
/- Steps of a frontier: begin, lead, end. -/
import Derived.Test.YtllhdmpnjcemkacFront
import Derived.Test.YtllhdmpnjcemkacJoin
import Derived.Test.YtllhdmpnjcemkacStepMath
import Derived.RegionTactic
import Derived.BigRegion
import Derived.Deep.QuietTactic
import Derived.BigQuiet
import Derived.IntWalk
namespace Go.Proofs.Ytllhdmpnjcemkac
open Go.RowKit Go.Maps
set_option linter.unusedSimpArgs false
set_option linter.unusedVariables false

/-- the cell i of a frontier -/
def frV (u d : List Int) (c : Int) (i : Nat) : Value :=
  if i < 6 then .int .i64 (u.getD i 0) else if i = 6 then .int .i64 (u.length : Int) else if i < 13 then .int .i64 (d.getD (i - 7) 0) else if i = 13 then .int .i64 (d.length : Int) else .int .i64 c
theorem frC_at {u d : List Int} (c : Int) (hu : u.length ≤ 6) (hd : d.length ≤ 6) (i : Nat) : (frC u d c)[i]? = if i < 15 then some (frV u d c i) else none := by
  simp only [frC, List.getElem?_toArray]
  unfold frV
  by_cases h1 : i < 6
  · rw [if_pos (by omega), if_pos h1, frL_up c hu i (by omega), endL_get hu i h1]
  · by_cases h2 : i = 6
    · subst h2
      rw [if_pos (by omega), if_neg (by omega), if_pos rfl, frL_up c hu 6 (by omega), endL_last hu]
    · by_cases h3 : i < 13
      · obtain ⟨j, rfl⟩ : ∃ j, i = 7 + j := ⟨i - 7, by omega⟩
        rw [if_pos (by omega), if_neg (by omega), if_neg (by omega), if_pos h3, frL_down c hu hd j (by omega), endL_get hd j (by omega), Nat.add_sub_cancel_left]
      · by_cases h4 : i = 13
        · subst h4
          rw [if_pos (by omega), if_neg (by omega), if_neg (by omega), if_neg (by omega), if_pos rfl, show 13 = 7 + 6 by omega, frL_down c hu hd 6 (by omega), endL_last hd]
        · by_cases h5 : i = 14
          · subst h5
            rw [if_pos (by omega), if_neg (by omega), if_neg (by omega), if_neg (by omega), if_neg (by omega), frL_closed c hu hd]
          · rw [if_neg (by omega)]
            exact List.getElem?_eq_none (by rw [frL_len c hu hd]; omega)

/-- a frontier seen from one side: o is 0 above, 7 below -/
def sdC (o : Nat) (l m : List Int) (c : Int) : Array Value := if o = 0 then frC l m c else frC m l c
def sdV (o : Nat) (l m : List Int) (c : Int) (i : Nat) : Value := if o = 0 then frV l m c i else frV m l c i
def SdIn (w : World) (b o : Nat) (l m : List Int) (c : Int) : Prop := w.heap[b]? = some (.cells (sdC o l m c) 77 (0, 0))
theorem sdC_at {o : Nat} {l m : List Int} (c : Int) (hl : l.length ≤ 6) (hm : m.length ≤ 6) (i : Nat) : (sdC o l m c)[i]? = if i < 15 then some (sdV o l m c i) else none := by
  unfold sdC sdV
  split
  · exact frC_at c hl hm i
  · exact frC_at c hm hl i
theorem sdC_size {o : Nat} {l m : List Int} (c : Int) (hl : l.length ≤ 6) (hm : m.length ≤ 6) : (sdC o l m c).size = 15 := by
  unfold sdC; split
  · exact frC_size c hl hm
  · exact frC_size c hm hl
theorem sd_up {w : World} {b : Nat} {u d : List Int} {c : Int} : SdIn w b 0 u d c ↔ FrIn w b u d c := Iff.rfl
theorem sd_down {w : World} {b : Nat} {u d : List Int} {c : Int} : SdIn w b 7 d u c ↔ FrIn w b u d c := Iff.rfl
theorem SdIn.at {w : World} {b o : Nat} {l m : List Int} {c : Int} (h : SdIn w b o l m c) (hl : l.length ≤ 6) (hm : m.length ≤ 6) (i : Nat) (hi : i < 15) : w.cell? ⟨b, i, none⟩ = some (sdV o l m c i) := by
  rw [cell_of_row w b i _ _ _ h, sdC_at c hl hm, if_pos hi]
theorem SdIn.free {w : World} {b o : Nat} {l m : List Int} {c : Int} (h : SdIn w b o l m c) (i : Nat) : w.frozen? ⟨b, i, none⟩ = false := frozen_of_row w b i _ _ h
theorem sdV_part {o : Nat} (ho : o = 0 ∨ o = 7) (l m : List Int) (c : Int) (i : Nat) (hi : i < 6) : sdV o l m c (o + i) = .int .i64 (l.getD i 0) := by
  unfold sdV frV
  rcases ho with rfl | rfl
  · rw [if_pos rfl, Nat.zero_add, if_pos hi]
  · rw [if_neg (by omega), if_neg (by omega), if_neg (by omega), if_pos (by omega), Nat.add_sub_cancel_left]
theorem sdV_size {o : Nat} (ho : o = 0 ∨ o = 7) (l m : List Int) (c : Int) : sdV o l m c (o + 6) = .int .i64 (l.length : Int) := by
  unfold sdV frV
  rcases ho with rfl | rfl <;> simp
theorem frV_up (u u' d : List Int) (c : Int) (i : Nat) (hi : 6 < i) : frV u d c i = frV u' d c i := by
  have h1 : ¬ i < 6 := by omega
  have h2 : ¬ i = 6 := by omega
  unfold frV
  simp only [h1, h2, if_false]
theorem frV_down (u d d' : List Int) (c : Int) (i : Nat) (hi : i < 7 ∨ 13 < i) : frV u d c i = frV u d' c i := by
  unfold frV
  by_cases h1 : i < 6
  · simp only [h1, if_true]
  · by_cases h2 : i = 6
    · simp only [h1, h2, if_true, if_false]
    · have h3 : ¬ i < 13 := by omega
      have h4 : ¬ i = 13 := by omega
      simp only [h1, h2, h3, h4, if_false]
/-- outside of the side nothing turns with its list -/
theorem sdV_other {o : Nat} (ho : o = 0 ∨ o = 7) (l l' m : List Int) (c : Int) (i : Nat) (hi : ¬ (o ≤ i ∧ i ≤ o + 6)) : sdV o l m c i = sdV o l' m c i := by
  unfold sdV
  rcases ho with rfl | rfl
  · rw [if_pos rfl, if_pos rfl]; exact frV_up _ _ _ _ _ (by omega)
  · rw [if_neg (by omega), if_neg (by omega)]; exact frV_down _ _ _ _ _ (by omega)
theorem set_at (A : Array Value) (k : Nat) (x : Value) (i : Nat) (hk : k < A.size) : (A.setIfInBounds k x)[i]? = if k = i then some x else A[i]? := by
  by_cases h : k = i
  · subst h; rw [if_pos rfl, Array.getElem?_setIfInBounds_self_of_lt hk]
  · rw [if_neg h, Array.getElem?_setIfInBounds_ne h]
theorem getD_snoc (l : List Int) (x : Int) (i : Nat) : (l ++ [x]).getD i 0 = if i = l.length then x else l.getD i 0 := by
  simp only [List.getD, List.getElem?_append]
  by_cases h : i < l.length
  · rw [if_pos h, if_neg (by omega)]
  · rw [if_neg h]
    by_cases h2 : i = l.length
    · subst h2; simp
    · rw [if_neg h2]
      rw [List.getElem?_eq_none (by simp; omega), List.getElem?_eq_none (by omega)]
theorem getD_past (l : List Int) (i : Nat) (h : l.length ≤ i) : l.getD i 0 = 0 := by simp [List.getD, List.getElem?_eq_none h]
theorem sd_push {w : World} {b o : Nat} (ho : o = 0 ∨ o = 7) {l m : List Int} {c : Int} (x : Int) (hl : l.length < 6) (hm : m.length ≤ 6) (h : SdIn w b o l m c) :
    SdIn ((w.setCell ⟨b, o + l.length, none⟩ (.int .i64 x)).setCell ⟨b, o + 6, none⟩ (.int .i64 ((l.length : Int) + 1))) b o (l ++ [x]) m c := by
  have hs : (sdC o l m c).size = 15 := sdC_size c (by omega) hm
  have h1 := heap_setCell_same w b (o + l.length) _ _ (.int .i64 x) h
  have h2 := heap_setCell_same _ b (o + 6) _ _ (.int .i64 ((l.length : Int) + 1)) h1
  unfold SdIn
  rw [h2]
  congr 2
  apply Array.ext_getElem?
  intro i
  have hlx : (l ++ [x]).length ≤ 6 := by simp; omega
  rw [set_at _ _ _ _ (by rw [Array.size_setIfInBounds, hs]; omega), set_at _ _ _ _ (by rw [hs]; omega), sdC_at c (by omega) hm, sdC_at c hlx hm]
  by_cases e1 : o + 6 = i
  · subst e1
    rw [if_pos rfl, if_pos (by omega), sdV_size ho]
    simp
  · rw [if_neg e1]
    by_cases e2 : o + l.length = i
    · subst e2
      rw [if_pos rfl, if_pos (by omega), sdV_part ho _ _ _ _ hl, getD_snoc, if_pos rfl]
    · rw [if_neg e2]
      by_cases h15 : i < 15
      · rw [if_pos h15, if_pos h15]
        by_cases hin : o ≤ i ∧ i ≤ o + 6
        · obtain ⟨j, rfl⟩ : ∃ j, i = o + j := ⟨i - o, by omega⟩
          rw [sdV_part ho _ _ _ j (by omega), sdV_part ho _ _ _ j (by omega), getD_snoc, if_neg (by omega)]
        · rw [sdV_other ho l (l ++ [x]) m c i hin]
      · rw [if_neg h15, if_neg h15]
theorem sd_pop {w : World} {b o : Nat} (ho : o = 0 ∨ o = 7) {l m : List Int} {c : Int} {x : Int} (hl : l.length < 6) (hm : m.length ≤ 6) (h : SdIn w b o (l ++ [x]) m c) :
    SdIn ((w.setCell ⟨b, o + 6, none⟩ (.int .i64 (l.length : Int))).setCell ⟨b, o + l.length, none⟩ (.int .i64 0)) b o l m c := by
  have hlx : (l ++ [x]).length ≤ 6 := by simp; omega
  have hs : (sdC o (l ++ [x]) m c).size = 15 := sdC_size c hlx hm
  have h1 := heap_setCell_same w b (o + 6) _ _ (.int .i64 (l.length : Int)) h
  have h2 := heap_setCell_same _ b (o + l.length) _ _ (.int .i64 0) h1
  unfold SdIn
  rw [h2]
  congr 2
  apply Array.ext_getElem?
  intro i
  rw [set_at _ _ _ _ (by rw [Array.size_setIfInBounds, hs]; omega), set_at _ _ _ _ (by rw [hs]; omega), sdC_at c hlx hm, sdC_at c (by omega) hm]
  by_cases e2 : o + l.length = i
  · subst e2
    rw [if_pos rfl, if_pos (by omega), sdV_part ho _ _ _ _ hl, getD_past _ _ (Nat.le_refl _)]
  · rw [if_neg e2]
    by_cases e1 : o + 6 = i
    · subst e1
      rw [if_pos rfl, if_pos (by omega), sdV_size ho]
    · rw [if_neg e1]
      by_cases h15 : i < 15
      · rw [if_pos h15, if_pos h15]
        by_cases hin : o ≤ i ∧ i ≤ o + 6
        · obtain ⟨j, rfl⟩ : ∃ j, i = o + j := ⟨i - o, by omega⟩
          rw [sdV_part ho _ _ _ j (by omega), sdV_part ho _ _ _ j (by omega), getD_snoc, if_neg (by omega)]
        · rw [sdV_other ho (l ++ [x]) l m c i hin]
      · rw [if_neg h15, if_neg h15]
theorem sd_set {w : World} {b o : Nat} (ho : o = 0 ∨ o = 7) {l m : List Int} {c : Int} (k : Nat) (x : Int) (hk : k < l.length) (hl : l.length ≤ 6) (hm : m.length ≤ 6) (h : SdIn w b o l m c) :
    SdIn (w.setCell ⟨b, o + k, none⟩ (.int .i64 x)) b o (l.set k x) m c := by
  have hs : (sdC o l m c).size = 15 := sdC_size c hl hm
  have h1 := heap_setCell_same w b (o + k) _ _ (.int .i64 x) h
  unfold SdIn
  rw [h1]
  congr 2
  apply Array.ext_getElem?
  intro i
  have hlx : (l.set k x).length ≤ 6 := by simp; exact hl
  rw [set_at _ _ _ _ (by rw [hs]; omega), sdC_at c hl hm, sdC_at c hlx hm]
  by_cases e2 : o + k = i
  · subst e2
    rw [if_pos rfl, if_pos (by omega), sdV_part ho _ _ _ _ (by omega)]
    simp [List.getD, hk]
  · rw [if_neg e2]
    by_cases h15 : i < 15
    · rw [if_pos h15, if_pos h15]
      by_cases hin : o ≤ i ∧ i ≤ o + 6
      · obtain ⟨j, rfl⟩ : ∃ j, i = o + j := ⟨i - o, by omega⟩
        by_cases h6 : j = 6
        · subst h6; rw [sdV_size ho, sdV_size ho, List.length_set]
        · rw [sdV_part ho _ _ _ j (by omega), sdV_part ho _ _ _ j (by omega)]
          simp only [List.getD]
          rw [List.getElem?_set_ne (by omega)]
      · rw [sdV_other ho l (l.set k x) m c i hin]
    · rw [if_neg h15, if_neg h15]
theorem fr_close {w : World} {b : Nat} {u d : List Int} {c : Int} (x : Int) (hu : u.length ≤ 6) (hd : d.length ≤ 6) (h : FrIn w b u d c) : FrIn (w.setCell ⟨b, 14, none⟩ (.int .i64 x)) b u d x := by
  have h1 := heap_setCell_same w b 14 _ _ (.int .i64 x) h
  unfold FrIn
  rw [h1]
  congr 2
  apply Array.ext_getElem?
  intro i
  rw [set_at _ _ _ _ (by rw [frC_size c hu hd]; omega), frC_at c hu hd, frC_at x hu hd]
  by_cases e : 14 = i
  · subst e; rw [if_pos rfl, if_pos (by omega)]; rfl
  · rw [if_neg e]
    by_cases h15 : i < 15
    · rw [if_pos h15, if_pos h15]
      unfold frV
      by_cases a1 : i < 6
      · rw [if_pos a1, if_pos a1]
      · by_cases a2 : i = 6
        · rw [if_neg a1, if_pos a2, if_neg a1, if_pos a2]
        · by_cases a3 : i < 13
          · rw [if_neg a1, if_neg a2, if_pos a3, if_neg a1, if_neg a2, if_pos a3]
          · have a4 : i = 13 := by omega
            rw [if_neg a1, if_neg a2, if_neg a3, if_pos a4, if_neg a1, if_neg a2, if_neg a3, if_pos a4]
    · rw [if_neg h15, if_neg h15]

end Go.Proofs.Ytllhdmpnjcemkac

namespace Go.Proofs.Ytllhdmpnjcemkac
open Go.RowKit Go.Maps
set_option linter.unusedSimpArgs false
set_option linter.unusedVariables false

def PushOut (w : World) (b o : Nat) (l m : List Int) (c : Int) (e : Ending) (w' : World) : Prop := e = .returned (.bool true) ∧ SdIn w' b o l m c ∧ w.grownBy w' (some b)
set_option maxHeartbeats 2000000 in
theorem push_any (b o : Nat) (ho : o = 0 ∨ o = 7) (l m : List Int) (c x : Int) (w : World) (h : SdIn w b o l m c) (hl : l.length < 6) (hm : m.length ≤ 6) :
    Calls Try.prog 109 #[.pointer (some ⟨b, o, none⟩), .int .i64 x] w (PushOut w b o (l ++ [x]) m c) := by
  have k6 := h.at (by omega) hm (o + 6) (by omega)
  rw [sdV_size ho] at k6
  have kn := h.at (by omega) hm (o + l.length) (by omega)
  rw [sdV_part ho _ _ _ _ hl] at kn
  have fn := h.free (o + l.length)
  have f6 := h.free (o + 6)
  have hp := sd_push ho x hl hm h
  generalize l.getD l.length 0 = y at kn
  have HP := Lib.hid hp
  obtain ⟨n, hn⟩ : ∃ n, n = l.length := ⟨_, rfl⟩
  rw [← hn] at k6 kn fn hl HP
  have hne : ¬ (o + n = o + 6) := by omega
  have hlit : ((n : Int) == 6) = false := by rw [beq_eq_false_iff_ne]; omega
  clear hp h hn
  go_enter Try.func109, Try.ntmps109
  go_wp2
  go_region
  all_goals
    go_wp2
    go_ret
    exact ⟨rfl, HP.out, grown_drewN (grown_trans grown_setCell grown_setCell) 1⟩
def PushNo (w : World) (e : Ending) (w' : World) : Prop := e = .returned (.bool false) ∧ w = w'
set_option maxHeartbeats 1000000 in
theorem push_full (b o : Nat) (ho : o = 0 ∨ o = 7) (l m : List Int) (c x : Int) (w : World) (h : SdIn w b o l m c) (hl : l.length = 6) (hm : m.length ≤ 6) :
    Calls Try.prog 109 #[.pointer (some ⟨b, o, none⟩), .int .i64 x] w (PushNo w) := by
  have k6 := h.at (by omega) hm (o + 6) (by omega)
  rw [sdV_size ho, hl] at k6
  clear h
  go_enter Try.func109, Try.ntmps109
  go_wp2
  go_ret
  exact ⟨rfl, rfl⟩
def PopOut (w : World) (b o : Nat) (x : Int) (l m : List Int) (c : Int) (e : Ending) (w' : World) : Prop := e = .returned (.tuple #[.int .i64 x, .bool true]) ∧ SdIn w' b o l m c ∧ w.grownBy w' (some b)
set_option maxHeartbeats 2000000 in
theorem pop_any (b o : Nat) (ho : o = 0 ∨ o = 7) (l m : List Int) (c x : Int) (w : World) (h : SdIn w b o (l ++ [x]) m c) (hl : l.length < 6) (hm : m.length ≤ 6) :
    Calls Try.prog 110 #[.pointer (some ⟨b, o, none⟩)] w (PopOut w b o x l m c) := by
  have hlx : (l ++ [x]).length ≤ 6 := by simp; omega
  have k6 := h.at hlx hm (o + 6) (by omega)
  rw [sdV_size ho, List.length_append, List.length_singleton] at k6
  have kn := h.at hlx hm (o + l.length) (by omega)
  rw [sdV_part ho _ _ _ _ hl, getD_snoc, if_pos rfl] at kn
  have fn := h.free (o + l.length)
  have f6 := h.free (o + 6)
  have hp := sd_pop ho hl hm h
  have HP := Lib.hid hp
  obtain ⟨n, hn⟩ : ∃ n, n = l.length := ⟨_, rfl⟩
  rw [← hn] at k6 kn fn hl HP
  rw [show ((n + 1 : Nat) : Int) = (n : Int) + 1 by omega] at k6
  have hne : ¬ (o + n = o + 6) := by omega
  have hlit : ((n : Int) + 1 == 0) = false := by rw [beq_eq_false_iff_ne]; omega
  have hsub : (n : Int) + 1 - 1 = (n : Int) := by omega
  clear hp h hn hlx
  go_enter Try.func110, Try.ntmps110
  go_wp2
  go_region
  all_goals
    go_wp2
    go_region
  all_goals
    go_wp2
    go_ret2
    exact ⟨rfl, HP.out, grown_drewN (grown_drewN (grown_trans grown_setCell grown_setCell) 1) 1⟩
def PopNo (w : World) (e : Ending) (w' : World) : Prop := e = .returned (.tuple #[.int .i64 0, .bool false]) ∧ w = w'
set_option maxHeartbeats 1000000 in
theorem pop_none (b o : Nat) (ho : o = 0 ∨ o = 7) (m : List Int) (c : Int) (w : World) (h : SdIn w b o [] m c) (hm : m.length ≤ 6) :
    Calls Try.prog 110 #[.pointer (some ⟨b, o, none⟩)] w (PopNo w) := by
  have k6 := h.at (by simp) hm (o + 6) (by omega)
  rw [sdV_size ho] at k6
  simp only [List.length_nil] at k6
  clear h
  go_enter Try.func110, Try.ntmps110
  go_wp2
  go_ret2
  exact ⟨rfl, rfl⟩
/-- the first k renamed -/
def rnK (y x : Int) (l : List Int) (k : Nat) : List Int := (l.take k).map (mgI x y) ++ l.drop k
theorem rnK_length (y x : Int) (l : List Int) (k : Nat) : (rnK y x l k).length = l.length := by simp [rnK]; omega
theorem rnK_zero (y x : Int) (l : List Int) : rnK y x l 0 = l := by simp [rnK]
theorem rnK_all (y x : Int) (l : List Int) : rnK y x l l.length = l.map (mgI x y) := by simp [rnK]
theorem rnK_get (y x : Int) (l : List Int) (k : Nat) (hk : k < l.length) : (rnK y x l k).getD k 0 = l.getD k 0 := by
  unfold rnK
  simp only [List.getD]
  rw [List.getElem?_append_right (by simp; omega)]
  simp [Nat.min_eq_left (Nat.le_of_lt hk)]
theorem rnK_next (y x : Int) (l : List Int) (k : Nat) (hk : k < l.length) : rnK y x l (k + 1) = (rnK y x l k).set k (mgI x y (l.getD k 0)) := by
  unfold rnK
  have hlen : ((l.take k).map (mgI x y)).length = k := by simp; omega
  rw [List.set_append_right _ _ (by omega), hlen, Nat.sub_self, List.drop_eq_getElem_cons hk, List.set_cons_zero, List.take_succ_eq_append_getElem hk, List.map_append, List.append_assoc]
  simp [List.getD, hk]
theorem rnK_keep (y x : Int) (l : List Int) (k : Nat) (hk : k < l.length) (hne : l.getD k 0 ≠ y) : rnK y x l (k + 1) = rnK y x l k := by
  rw [rnK_next y x l k hk, show mgI x y (l.getD k 0) = l.getD k 0 by unfold mgI; rw [if_neg hne]]
  have := rnK_get y x l k hk
  apply List.ext_getElem?
  intro i
  by_cases h : k = i
  · subst h
    rw [List.getElem?_set_self (by rw [rnK_length]; exact hk), ← this]
    simp [List.getD, show k < (rnK y x l k).length by rw [rnK_length]; exact hk]
  · rw [List.getElem?_set_ne h]
def RnOut (w : World) (b o : Nat) (l m : List Int) (c : Int) (e : Ending) (w' : World) : Prop := e = .returned (.tuple #[]) ∧ SdIn w' b o l m c ∧ w.grownBy w' (some b)
theorem sd_drewN {w : World} {b o : Nat} {l m : List Int} {c : Int} (h : SdIn w b o l m c) (q : Nat) : SdIn (w.drewN q) b o l m c := h
set_option maxHeartbeats 2000000 in
set_option maxRecDepth 100000 in
theorem rename_any (b o : Nat) (ho : o = 0 ∨ o = 7) (l m : List Int) (c y x : Int) (w : World) (h : SdIn w b o l m c) (hl : l.length ≤ 6) (hm : m.length ≤ 6) :
    Calls Try.prog 111 #[.pointer (some ⟨b, o, none⟩), .int .i64 y, .int .i64 x] w (RnOut w b o (l.map (mgI x y)) m c) := by
  have k6 := h.at hl hm (o + 6) (by omega)
  rw [sdV_size ho] at k6
  have HA := Lib.hid (fun (L : List Int) (hL : L.length ≤ 6) (w : World) (h : SdIn w b o L m c) (i : Nat) (hi : i < 6) => h.at hL hm (o + i) (by omega))
  have HV := Lib.hid (fun (L : List Int) (i : Nat) (hi : i < 6) => sdV_part ho L m c i hi)
  have HS := Lib.hid (fun (L : List Int) (hL : L.length ≤ 6) (w : World) (h : SdIn w b o L m c) (k : Nat) (z : Int) (hk : k < L.length) => sd_set ho k z hk hL hm h)
  have hal := fun b o w => run_parts_at b o l.length w hl
  have HNX := Lib.hid (fun k (hk : k < l.length) => rnK_next y x l k hk)
  have HKP := Lib.hid (fun k (hk : k < l.length) (hne : l.getD k 0 ≠ y) => rnK_keep y x l k hk hne)
  have HGT := Lib.hid (fun k (hk : k < l.length) => rnK_get y x l k hk)
  have HLN := Lib.hid (fun k => rnK_length y x l k)
  have HFI := Lib.hid (rnK_all y x l)
  have h0 : SdIn w b o (rnK y x l 0) m c := by rw [rnK_zero]; exact h
  have H0 := Lib.hid h0
  obtain ⟨n, hn⟩ : ∃ n, n = l.length := ⟨_, rfl⟩
  rw [← hn] at k6 hl hal HNX HKP HGT HLN HFI
  clear h h0 hn
  go_enter Try.func111, Try.ntmps111
  go_wp2
  go_quiet (fail)
  go_wp2
  go_loopw [17] (fun i wr => ∃ k : Nat, k ≤ n ∧ i = .int .i64 k ∧ Hid (SdIn wr b o (rnK y x l k) m c) ∧ Hid (w.grownBy wr (some b))) (fun i _ => n - (intOf i).toNat)
  case atStart => exact ⟨0, by omega, rfl, sd_drewN H0.out _, grown_drewN ⟨rfl, rfl, rfl, Nat.le_refl _, fun _ _ _ => rfl⟩ _⟩
  case round =>
    clear k6 H0
    obtain ⟨k, hk, rfl, HR, HG⟩ := hrel
    by_cases hlt : k < n
    · have hk6 : k < 6 := by omega
      have hL : (rnK y x l k).length ≤ 6 := by rw [HLN.out]; exact hl
      have hc := HA.out _ hL _ HR.out k hk6
      rw [HV.out _ k hk6, HGT.out k hlt] at hc
      have hf := HR.out.free (o + k)
      have hnx := HNX.out k hlt
      have hkp := HKP.out k hlt
      have hset := fun z => HS.out _ hL _ HR.out k z (by rw [HLN.out]; exact hlt)
      generalize l.getD k 0 = z at hc hnx hkp
      by_cases hz : z = y
      · subst hz
        rw [show mgI x z z = x by unfold mgI; rw [if_pos rfl]] at hnx
        have hs2 := hset x
        rw [← hnx] at hs2
        have HS2 := Lib.hid hs2
        have HG2 := Lib.hid (grown_trans HG.out (grown_setCell (w := wr) (b := b) (i := o + k) (v := .int .i64 x)))
        clear hnx hkp hset hs2
        go_wp2
        go_roundw
        case rel => exact ⟨k + 1, by omega, by go_num, HS2.out, HG2.out⟩
        case measure => simp [intOf]; omega
      · have hz2 : (z == y) = false := by rw [beq_eq_false_iff_ne]; exact hz
        have hk2 := hkp hz
        have HR2 : Hid (SdIn wr b o (rnK y x l (k + 1)) m c) := by rw [hk2]; exact HR.out
        clear hnx hkp hset hz hk2
        go_wp2
        go_roundw
        case rel => exact ⟨k + 1, by omega, by go_num, HR2.out, HG.out⟩
        case measure => simp [intOf]; omega
    · obtain rfl : k = n := by omega
      go_wp2
      go_end0
      rw [HFI.out] at HR
      exact ⟨rfl, HR.out, HG.out⟩

end Go.Proofs.Ytllhdmpnjcemkac

namespace Go.Proofs.Ytllhdmpnjcemkac
open Go.RowKit Go.Maps
set_option linter.unusedSimpArgs false
set_option linter.unusedVariables false

/-- what a step leaves: the frontier if it is told to be one -/
def StepOut (w : World) (b : Nat) (r : Option (List Int × List Int × Int)) (e : Ending) (w' : World) : Prop :=
  w.grownBy w' (some b) ∧ match r with
    | some (u, d, c) => e = .returned (.bool true) ∧ FrIn w' b u d c
    | none => e = .returned (.bool false)
theorem grown_refl (w : World) (b : Option Nat) : w.grownBy w b := ⟨rfl, rfl, rfl, Nat.le_refl _, fun _ _ _ => rfl⟩
def capO (r : Option (List Int × List Int × Int)) : Option (List Int × List Int × Int) :=
  match r with
  | some (u, d, c) => if u.length ≤ 6 ∧ d.length ≤ 6 ∧ c ≤ 6 then some (u, d, c) else none
  | none => none


set_option maxHeartbeats 2000000 in
theorem lead_yes (b o o' : Nat) (ho : o = 0 ∧ o' = 7 ∨ o = 7 ∧ o' = 0) (l m : List Int) (c x : Int) (w : World) (h : SdIn w b o (l ++ [x]) m c) (hl : l.length < 6) (hm : m.length < 6) :
    Calls Try.prog 78 #[.pointer (some ⟨b, o, none⟩), .pointer (some ⟨b, o', none⟩)] w (PushOut w b o' (m ++ [x]) l c) := by
  have h1 := pop_any b o (by omega) l m c x w h hl (by omega)
  have hsw : ∀ (W : World) (l m : List Int), SdIn W b o l m c ↔ SdIn W b o' m l c := by
    intro W l m
    rcases ho with ⟨rfl, rfl⟩ | ⟨rfl, rfl⟩
    · exact Iff.rfl
    · exact Iff.rfl
  have h2 := fun W (hW : SdIn W b o l m c) => push_any b o' (by omega) m l c x W ((hsw W l m).1 hW) hm (by omega)
  have H1 := Lib.hid h1; have H2 := Lib.hid h2
  clear h1 h2 h hsw
  go_enter Try.func78, Try.ntmps78
  go_wp2_with (first
    | (go_at_call 110; ((with_reducible refine H1.out.mono ?_); rintro e w1 ⟨rfl, hs1, hg1⟩; have HS1 := Lib.hid hs1; have HG1 := Lib.hid hg1; clear hs1 hg1))
    | (go_at_call 109; ((with_reducible refine (H2.out _ HS1.out).mono ?_); rintro e w2 ⟨rfl, hs2, hg2⟩)))
  go_ret
  exact ⟨rfl, hs2, grown_trans HG1.out hg2⟩
def LeadNo (w : World) (b : Nat) (e : Ending) (w' : World) : Prop := e = .returned (.bool false) ∧ w.grownBy w' (some b)
set_option maxHeartbeats 2000000 in
theorem lead_full (b o o' : Nat) (ho : o = 0 ∧ o' = 7 ∨ o = 7 ∧ o' = 0) (l m : List Int) (c x : Int) (w : World) (h : SdIn w b o (l ++ [x]) m c) (hl : l.length < 6) (hm : m.length = 6) :
    Calls Try.prog 78 #[.pointer (some ⟨b, o, none⟩), .pointer (some ⟨b, o', none⟩)] w (LeadNo w b) := by
  have h1 := pop_any b o (by omega) l m c x w h hl (by omega)
  have hsw : ∀ (W : World) (l m : List Int), SdIn W b o l m c ↔ SdIn W b o' m l c := by
    intro W l m
    rcases ho with ⟨rfl, rfl⟩ | ⟨rfl, rfl⟩
    · exact Iff.rfl
    · exact Iff.rfl
  have h2 := fun W (hW : SdIn W b o l m c) => push_full b o' (by omega) m l c x W ((hsw W l m).1 hW) hm (by omega)
  have H1 := Lib.hid h1; have H2 := Lib.hid h2
  clear h1 h2 h hsw
  go_enter Try.func78, Try.ntmps78
  go_wp2_with (first
    | (go_at_call 110; ((with_reducible refine H1.out.mono ?_); rintro e w1 ⟨rfl, hs1, hg1⟩; have HS1 := Lib.hid hs1; have HG1 := Lib.hid hg1; clear hs1 hg1))
    | (go_at_call 109; ((with_reducible refine (H2.out _ HS1.out).mono ?_); rintro e w2 ⟨rfl, rfl⟩)))
  go_ret
  exact ⟨rfl, HG1.out⟩
set_option maxHeartbeats 2000000 in
theorem lead_none (b o o' : Nat) (ho : o = 0 ∧ o' = 7 ∨ o = 7 ∧ o' = 0) (m : List Int) (c : Int) (w : World) (h : SdIn w b o [] m c) (hm : m.length ≤ 6) :
    Calls Try.prog 78 #[.pointer (some ⟨b, o, none⟩), .pointer (some ⟨b, o', none⟩)] w (LeadNo w b) := by
  have h1 := pop_none b o (by omega) m c w h hm
  have H1 := Lib.hid h1
  clear h1 h
  go_enter Try.func78, Try.ntmps78
  go_wp2_with (first
    | (go_at_call 110; ((with_reducible refine H1.out.mono ?_); rintro e w1 ⟨rfl, rfl⟩)))
  go_ret
  exact ⟨rfl, grown_refl _ _⟩

theorem fr_sizes {w : World} {b : Nat} {u d : List Int} {c : Int} (hu : u.length ≤ 6) (hd : d.length ≤ 6) (h : FrIn w b u d c) : w.cell? ⟨b, 6, none⟩ = some (.int .i64 (u.length : Int)) ∧ w.cell? ⟨b, 13, none⟩ = some (.int .i64 (d.length : Int)) ∧ w.cell? ⟨b, 14, none⟩ = some (.int .i64 c) := by
  have h1 : SdIn w b 0 u d c := h
  refine ⟨?_, ?_, ?_⟩
  · rw [h1.at hu hd 6 (by omega)]; rfl
  · rw [h1.at hu hd 13 (by omega)]; rfl
  · rw [h1.at hu hd 14 (by omega)]; rfl
set_option maxHeartbeats 2000000 in
theorem begin_any (b : Nat) (u d : List Int) (c : Int) (w : World) (h : FrIn w b u d c) (hu : u.length ≤ 6) (hd : d.length ≤ 6) :
    Calls Try.prog 77 #[.pointer (some ⟨b, 0, none⟩)] w (StepOut w b (if u.length < 6 ∧ d.length < 6 then some (u ++ [partI u d], d ++ [partI u d], c) else none)) := by
  obtain ⟨k6, k13, _⟩ := fr_sizes hu hd h
  have hp : ((u.length : Int) + (d.length : Int)) / 2 = partI u d := by unfold partI; omega
  have hq : True := trivial
  by_cases h1 : u.length < 6
  · by_cases h2 : d.length < 6
    · skip
      have c1 := fun W (hW : FrIn W b u d c) => push_any b 0 (.inl rfl) u d c (partI u d) W hW h1 hd
      have c2 := fun W (hW : SdIn W b 0 (u ++ [partI u d]) d c) => push_any b 7 (.inr rfl) d (u ++ [partI u d]) c (partI u d) W hW h2 (by simp; omega)
      rw [if_pos ⟨h1, h2⟩]
      have C1 := Lib.hid c1; have C2 := Lib.hid c2
      have HD := Lib.hid (fun q => show FrIn (w.drewN q) b u d c from h)
      have HQ := Lib.hid hp
      generalize partI u d = p at *
      generalize u.length = n1 at *
      generalize d.length = n2 at *
      have b0 : 0 ≤ ((n1 : Int) + (n2 : Int)) / 2 := by omega
      have b1 : ((n1 : Int) + (n2 : Int)) / 2 ≤ 100 := by omega
      clear c1 c2 h hp hq
      go_enter Try.func77, Try.ntmps77
      go_wp2
      go_quiet (fail)
      rw [HQ.out]
      have HD0 := Lib.hid (HD.out nq)
      have HG0 := Lib.hid (grown_drewN (grown_refl w (some b)) nq)
      generalize w.drewN nq = w0 at HD0 HG0 ⊢
      go_wp2_with (first
        | (go_at_call 109; ((with_reducible refine (C1.out _ HD0.out).mono ?_); rintro e w1 ⟨rfl, hs1, hg1⟩; have HS1 := Lib.hid hs1; have HG1 := Lib.hid (grown_trans HG0.out hg1); clear hs1 hg1))
        | (go_at_call 109; ((with_reducible refine (C2.out _ HS1.out).mono ?_); rintro e w2 ⟨rfl, hs2, hg2⟩)))
      go_ret
      exact ⟨grown_trans HG1.out hg2, rfl, hs2⟩
    · skip
      have c1 := fun W (hW : FrIn W b u d c) => push_any b 0 (.inl rfl) u d c (partI u d) W hW h1 hd
      have c2 := fun W (hW : SdIn W b 0 (u ++ [partI u d]) d c) => push_full b 7 (.inr rfl) d (u ++ [partI u d]) c (partI u d) W hW (by omega) (by simp; omega)
      rw [if_neg (by omega)]
      have C1 := Lib.hid c1; have C2 := Lib.hid c2
      have HD := Lib.hid (fun q => show FrIn (w.drewN q) b u d c from h)
      have HQ := Lib.hid hp
      generalize partI u d = p at *
      generalize u.length = n1 at *
      generalize d.length = n2 at *
      have b0 : 0 ≤ ((n1 : Int) + (n2 : Int)) / 2 := by omega
      have b1 : ((n1 : Int) + (n2 : Int)) / 2 ≤ 100 := by omega
      clear c1 c2 h hp hq
      go_enter Try.func77, Try.ntmps77
      go_wp2
      go_quiet (fail)
      rw [HQ.out]
      have HD0 := Lib.hid (HD.out nq)
      have HG0 := Lib.hid (grown_drewN (grown_refl w (some b)) nq)
      generalize w.drewN nq = w0 at HD0 HG0 ⊢
      go_wp2_with (first
        | (go_at_call 109; ((with_reducible refine (C1.out _ HD0.out).mono ?_); rintro e w1 ⟨rfl, hs1, hg1⟩; have HS1 := Lib.hid hs1; have HG1 := Lib.hid (grown_trans HG0.out hg1); clear hs1 hg1))
        | (go_at_call 109; ((with_reducible refine (C2.out _ HS1.out).mono ?_); rintro e w2 ⟨rfl, rfl⟩)))
      go_ret
      exact ⟨HG1.out, rfl⟩
  · skip
    have c1 := fun W (hW : FrIn W b u d c) => push_full b 0 (.inl rfl) u d c (partI u d) W hW (by omega) hd
    rw [if_neg (by omega)]
    have C1 := Lib.hid c1
    have HD := Lib.hid (fun q => show FrIn (w.drewN q) b u d c from h)
    have HQ := Lib.hid hp
    generalize partI u d = p at *
    generalize u.length = n1 at *
    generalize d.length = n2 at *
    have b0 : 0 ≤ ((n1 : Int) + (n2 : Int)) / 2 := by omega
    have b1 : ((n1 : Int) + (n2 : Int)) / 2 ≤ 100 := by omega
    clear c1 h hp hq
    go_enter Try.func77, Try.ntmps77
    go_wp2
    go_quiet (fail)
    rw [HQ.out]
    have HD0 := Lib.hid (HD.out nq)
    have HG0 := Lib.hid (grown_drewN (grown_refl w (some b)) nq)
    generalize w.drewN nq = w0 at HD0 HG0 ⊢
    go_wp2_with (go_at_call 109; ((with_reducible refine (C1.out _ HD0.out).mono ?_); rintro e w1 ⟨rfl, rfl⟩))
    go_ret
    exact ⟨HG0.out, rfl⟩

def mgd (u0 d0 : List Int) (x y c : Int) : List Int × List Int × Int := (u0.map (mgI x y), d0.map (mgI x y), if x = y then c + 1 else c)
set_option maxHeartbeats 4000000 in
theorem end_join (b : Nat) (u d : List Int) (c x y : Int) (w : World) (h : FrIn w b (u ++ [x]) (d ++ [y]) c) (hu : u.length < 6) (hd : d.length < 6) (hxy : x ≠ y) :
    Calls Try.prog 79 #[.pointer (some ⟨b, 0, none⟩)] w (StepOut w b (some (u.map (mgI x y), d.map (mgI x y), c))) := by
  have c1 := pop_any b 0 (.inl rfl) u (d ++ [y]) c x w h hu (by simp; omega)
  have c2 := fun W (hW : SdIn W b 0 u (d ++ [y]) c) => pop_any b 7 (.inr rfl) d u c y W hW hd (by omega)
  have c3 := fun W (hW : SdIn W b 7 d u c) => rename_any b 0 (.inl rfl) u d c y x W hW (by omega) (by omega)
  have c4 := fun W (hW : SdIn W b 0 (u.map (mgI x y)) d c) => rename_any b 7 (.inr rfl) d (u.map (mgI x y)) c y x W hW (by omega) (by simp; omega)
  have C1 := Lib.hid c1; have C2 := Lib.hid c2; have C3 := Lib.hid c3; have C4 := Lib.hid c4
  have hb : (x == y) = false := by rw [beq_eq_false_iff_ne]; exact hxy
  clear c1 c2 c3 c4 h hu hd hxy
  go_enter Try.func79, Try.ntmps79
  go_wp2_with (first
    | (go_at_call 110; ((with_reducible refine C1.out.mono ?_); rintro e w1 ⟨rfl, hs1, hg1⟩; have HS1 := Lib.hid hs1; have HG1 := Lib.hid hg1; clear hs1 hg1))
    | (go_at_call 110; ((with_reducible refine (C2.out _ HS1.out).mono ?_); rintro e w2 ⟨rfl, hs2, hg2⟩; have HS2 := Lib.hid hs2; have HG2 := Lib.hid (grown_trans HG1.out hg2); clear hs2 hg2))
    | (go_at_call 111; ((with_reducible refine (C3.out _ HS2.out).mono ?_); rintro e w3 ⟨rfl, hs3, hg3⟩; have HS3 := Lib.hid hs3; have HG3 := Lib.hid (grown_trans HG2.out hg3); clear hs3 hg3))
    | (go_at_call 111; ((with_reducible refine (C4.out _ HS3.out).mono ?_); rintro e w4 ⟨rfl, hs4, hg4⟩; have HS4 := Lib.hid hs4; have HG4 := Lib.hid (grown_trans HG3.out hg4); clear hs4 hg4)))
  go_ret
  exact ⟨HG4.out, rfl, HS4.out⟩
set_option maxHeartbeats 4000000 in
theorem end_close (b : Nat) (u d : List Int) (c x : Int) (w : World) (h : FrIn w b (u ++ [x]) (d ++ [x]) c) (hu : u.length < 6) (hd : d.length < 6) (hc : 0 ≤ c ∧ c ≤ 6) :
    Calls Try.prog 79 #[.pointer (some ⟨b, 0, none⟩)] w (StepOut w b (if c + 1 ≤ 6 then some (u, d, c + 1) else none)) := by
  have c1 := pop_any b 0 (.inl rfl) u (d ++ [x]) c x w h hu (by simp; omega)
  have c2 := fun W (hW : SdIn W b 0 u (d ++ [x]) c) => pop_any b 7 (.inr rfl) d u c x W hW hd (by omega)
  have c3 := fun W (hW : FrIn W b u d c) => (fr_sizes (by omega) (by omega) hW).2.2
  have c4 := fun W (hW : FrIn W b u d c) => fr_close (c + 1) (by omega) (by omega) hW
  have C1 := Lib.hid c1; have C2 := Lib.hid c2; have C3 := Lib.hid c3; have C4 := Lib.hid c4
  obtain ⟨hc0, hc6⟩ := hc
  clear c1 c2 c3 c4 h hu hd
  by_cases h6 : c + 1 ≤ 6
  · rw [if_pos h6]
    go_enter Try.func79, Try.ntmps79
    go_wp2_with (first
      | (go_at_call 110; ((with_reducible refine C1.out.mono ?_); rintro e w1 ⟨rfl, hs1, hg1⟩; have HS1 := Lib.hid hs1; have HG1 := Lib.hid hg1; clear hs1 hg1))
      | (go_at_call 110; ((with_reducible refine (C2.out _ HS1.out).mono ?_); rintro e w2 ⟨rfl, hs2, hg2⟩; have HS2 : Hid (FrIn w2 b u d c) := hs2; have HG2 := Lib.hid (grown_trans HG1.out hg2); have k14 := C3.out _ HS2.out; have f14 := frozen_of_row w2 b 14 _ _ HS2.out; clear hs2 hg2)))
    go_ret
    exact ⟨grown_trans HG2.out grown_setCell, rfl, C4.out _ HS2.out⟩
  · rw [if_neg h6]
    go_enter Try.func79, Try.ntmps79
    go_wp2_with (first
      | (go_at_call 110; ((with_reducible refine C1.out.mono ?_); rintro e w1 ⟨rfl, hs1, hg1⟩; have HS1 := Lib.hid hs1; have HG1 := Lib.hid hg1; clear hs1 hg1))
      | (go_at_call 110; ((with_reducible refine (C2.out _ HS1.out).mono ?_); rintro e w2 ⟨rfl, hs2, hg2⟩; have HS2 : Hid (FrIn w2 b u d c) := hs2; have HG2 := Lib.hid (grown_trans HG1.out hg2); have k14 := C3.out _ HS2.out; have f14 := frozen_of_row w2 b 14 _ _ HS2.out; clear hs2 hg2)))
    go_ret
    exact ⟨grown_trans HG2.out grown_setCell, by simp; omega⟩
set_option maxHeartbeats 4000000 in
theorem end_noU (b : Nat) (d : List Int) (c : Int) (w : World) (h : FrIn w b [] d c) (hd : d.length ≤ 6) :
    Calls Try.prog 79 #[.pointer (some ⟨b, 0, none⟩)] w (StepOut w b none) := by
  have c1 := pop_none b 0 (.inl rfl) d c w h hd
  have C1 := Lib.hid c1
  rcases snoc_cases d with rfl | ⟨d0, y, rfl⟩
  · have c2 := pop_none b 7 (.inr rfl) [] c w h (by simp)
    have C2 := Lib.hid c2
    clear c1 c2 h hd
    go_enter Try.func79, Try.ntmps79
    go_wp2_with (first
      | (go_at_call 110; ((with_reducible refine C1.out.mono ?_); rintro e w1 ⟨rfl, rfl⟩))
      | (go_at_call 110; ((with_reducible refine C2.out.mono ?_); rintro e w2 ⟨rfl, rfl⟩)))
    go_ret
    exact ⟨grown_refl _ _, rfl⟩
  · have c2 := pop_any b 7 (.inr rfl) d0 [] c y w h (by simp at hd; omega) (by simp)
    have C2 := Lib.hid c2
    clear c1 c2 h hd
    go_enter Try.func79, Try.ntmps79
    go_wp2_with (first
      | (go_at_call 110; ((with_reducible refine C1.out.mono ?_); rintro e w1 ⟨rfl, rfl⟩))
      | (go_at_call 110; ((with_reducible refine C2.out.mono ?_); rintro e w2 ⟨rfl, hs2, hg2⟩)))
    go_ret
    exact ⟨hg2, rfl⟩
set_option maxHeartbeats 4000000 in
theorem end_noD (b : Nat) (u : List Int) (c x : Int) (w : World) (h : FrIn w b (u ++ [x]) [] c) (hu : u.length < 6) :
    Calls Try.prog 79 #[.pointer (some ⟨b, 0, none⟩)] w (StepOut w b none) := by
  have c1 := pop_any b 0 (.inl rfl) u [] c x w h hu (by simp)
  have c2 := fun W (hW : SdIn W b 0 u [] c) => pop_none b 7 (.inr rfl) u c W hW (by omega)
  have C1 := Lib.hid c1; have C2 := Lib.hid c2
  clear c1 c2 h hu
  go_enter Try.func79, Try.ntmps79
  go_wp2_with (first
    | (go_at_call 110; ((with_reducible refine C1.out.mono ?_); rintro e w1 ⟨rfl, hs1, hg1⟩; have HS1 := Lib.hid hs1; have HG1 := Lib.hid hg1; clear hs1 hg1))
    | (go_at_call 110; ((with_reducible refine (C2.out _ HS1.out).mono ?_); rintro e w2 ⟨rfl, rfl⟩)))
  go_ret
  exact ⟨HG1.out, rfl⟩

end Go.Proofs.Ytllhdmpnjcemkac
