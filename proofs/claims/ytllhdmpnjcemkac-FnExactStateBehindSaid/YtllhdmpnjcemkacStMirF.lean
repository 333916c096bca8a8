/- frontier.mirrored. -/
import Derived.Test.YtllhdmpnjcemkacStGood2
import Derived.Test.YtllhdmpnjcemkacRound
import Derived.Test.YtllhdmpnjcemkacReadSt
import Derived.Test.YtllhdmpnjcemkacEnds2
import Derived.Test.YtllhdmpnjcemkacFrontEq
import Derived.RegionTactic
import Derived.Deep.RegionWith
import Derived.Deep.MidRow
namespace Go.Proofs.Ytllhdmpnjcemkac
open Go.RowKit
set_option linter.unusedSimpArgs false
set_option linter.unusedVariables false

def setsAt (C : Array Value) (o : Nat) : List Value → Array Value
  | [] => C
  | v :: r => setsAt (C.setIfInBounds o v) (o + 1) r
theorem setsAt_get : ∀ (vs : List Value) (o : Nat) (C : Array Value) (i : Nat), o + vs.length ≤ C.size → (setsAt C o vs)[i]? = if o ≤ i ∧ i < o + vs.length then vs[i - o]? else C[i]?
  | [], o, C, i, _ => by
    have h : ¬ (o ≤ i ∧ i < o + ([] : List Value).length) := by simp
    rw [if_neg h]; rfl
  | v :: r, o, C, i, hs => by
    simp only [List.length_cons] at hs
    rw [setsAt, setsAt_get r (o + 1) _ i (by rw [Array.size_setIfInBounds]; omega)]
    simp only [List.length_cons]
    by_cases h1 : o = i
    · subst h1
      rw [if_neg (by omega), if_pos (by omega), Nat.sub_self, Array.getElem?_setIfInBounds_self_of_lt (by omega)]
      rfl
    · by_cases h2 : o + 1 ≤ i ∧ i < o + 1 + r.length
      · rw [if_pos h2, if_pos (by omega), show i - o = (i - (o + 1)) + 1 by omega, List.getElem?_cons_succ]
      · rw [if_neg h2, if_neg (by omega), Array.getElem?_setIfInBounds_ne h1]
theorem heap_setCells_at (g : Nat) (T : TypeId) : ∀ (vs : List Value) (o : Nat) (w : World) (C : Array Value), w.heap[g]? = some (.cells C T (0, 0)) → (w.setCells g o vs).heap[g]? = some (.cells (setsAt C o vs) T (0, 0))
  | [], _, _, _, h => h
  | v :: r, o, w, C, h => heap_setCells_at g T r (o + 1) _ _ (heap_setCell_same w g o _ _ v h)
theorem grown_setCells (g : Nat) : ∀ (vs : List Value) (o : Nat) (w : World), w.grownBy (w.setCells g o vs) (some g)
  | [], _, w => ⟨rfl, rfl, rfl, Nat.le_refl _, fun _ _ _ => rfl⟩
  | v :: r, o, w => grownS_trans (grownS_setCell (i := o) (v := v)) (grown_setCells g r (o + 1) _)
theorem frL_hi {u d : List Int} (c : Int) (hu : u.length ≤ 6) (i : Nat) (hi : 7 ≤ i) : (frL u d c)[i]? = (endL d ++ [.int .i64 c])[i - 7]? := by
  unfold frL
  rw [List.append_assoc, List.getElem?_append_right (by rw [endL_length hu]; exact hi), endL_length hu]
theorem fr_setUp {w : World} {g : Nat} {u d e : List Int} {c : Int} (hu : u.length ≤ 6) (hd : d.length ≤ 6) (he : e.length ≤ 6) (h : FrIn w g u d c) : FrIn (w.setCells g 0 (endC e).toList) g e d c := by
  unfold FrIn
  rw [heap_setCells_at g _ _ 0 w _ h]
  congr 2
  apply Array.ext_getElem?
  intro i
  have hl : (endC e).toList.length = 7 := by simp [endC, endL_length he]
  rw [setsAt_get _ _ _ _ (by rw [hl, frC_size c hu hd]; omega), hl]
  simp only [frC, List.getElem?_toArray]
  by_cases h7 : i < 7
  · rw [if_pos (by omega), frL_up c he i h7]; simp [endC]
  · rw [if_neg (by omega), frL_hi c hu i (by omega), frL_hi c he i (by omega)]
theorem fr_setDown {w : World} {g : Nat} {u d e : List Int} {c : Int} (hu : u.length ≤ 6) (hd : d.length ≤ 6) (he : e.length ≤ 6) (h : FrIn w g u d c) : FrIn (w.setCells g 7 (endC e).toList) g u e c := by
  unfold FrIn
  rw [heap_setCells_at g _ _ 7 w _ h]
  congr 2
  apply Array.ext_getElem?
  intro i
  have hl : (endC e).toList.length = 7 := by simp [endC, endL_length he]
  rw [setsAt_get _ _ _ _ (by rw [hl, frC_size c hu hd]; omega), hl]
  simp only [frC, List.getElem?_toArray]
  by_cases h7 : i < 7
  · rw [if_neg (by omega), frL_up c hu i h7, frL_up c hu i h7]
  · rw [frL_hi c hu i (by omega), frL_hi c hu i (by omega)]
    by_cases h14 : i < 14
    · rw [if_pos (by omega), List.getElem?_append_left (by rw [endL_length he]; omega)]; simp [endC]
    · rw [if_neg (by omega), List.getElem?_append_right (by rw [endL_length hd]; omega), List.getElem?_append_right (by rw [endL_length he]; omega), endL_length hd, endL_length he]
theorem there_row (w : World) (g o : Nat) (C : Array Value) (T : TypeId) (h : w.heap[g]? = some (.cells C T (0, 0))) (n : Nat) (ho : o + n ≤ C.size) : w.there g o n := by
  intro j hj
  rw [cell_of_row w g _ _ _ _ h]
  exact ⟨by simp; omega, frozen_of_row w g _ _ _ h⟩
theorem ends7 : (Try.prog.info? 75).map (·.size) = some 7 := by kernel_rfl
theorem wp_storeUp {ops : Array Oper} {rest : List Oper} {o : Oper} {a : Act} {w : World} {Q : Exit → Act → World → Prop} (hgd : o.guard = none) (x y : Operand) (ho : o.op = .store 75 x y)
    (g : Nat) (u d e : List Int) (c : Int) (hu : u.length ≤ 6) (hd : d.length ≤ 6) (he : e.length ≤ 6) (hx : a.eval x = .pointer (some ⟨g, 0, none⟩)) (hy : a.eval y = .agg (endC e)) (hg : FrIn w g u d c)
    (h : ∀ w', FrIn w' g e d c → w.grownBy w' (some g) → wpList Try.prog ops Q rest (a.put o.dst undef) w') : wpList Try.prog ops Q (o :: rest) a w :=
  wpList_store_mid hgd 75 x y ho g 0 (endC e) hx hy (there_row w g 0 _ _ hg _ (by rw [endC_size he, frC_size c hu hd]; omega)) (by rw [ends7, endC_size he]) (endC_one e) (h _ (fr_setUp hu hd he hg) (grown_setCells g _ 0 w))
theorem wp_storeDown {ops : Array Oper} {rest : List Oper} {o : Oper} {a : Act} {w : World} {Q : Exit → Act → World → Prop} (hgd : o.guard = none) (x y : Operand) (ho : o.op = .store 75 x y)
    (g : Nat) (u d e : List Int) (c : Int) (hu : u.length ≤ 6) (hd : d.length ≤ 6) (he : e.length ≤ 6) (hx : a.eval x = .pointer (some ⟨g, 7, none⟩)) (hy : a.eval y = .agg (endC e)) (hg : FrIn w g u d c)
    (h : ∀ w', FrIn w' g u e c → w.grownBy w' (some g) → wpList Try.prog ops Q rest (a.put o.dst undef) w') : wpList Try.prog ops Q (o :: rest) a w :=
  wpList_store_mid hgd 75 x y ho g 7 (endC e) hx hy (there_row w g 7 _ _ hg _ (by rw [endC_size he, frC_size c hu hd]; omega)) (by rw [ends7, endC_size he]) (endC_one e) (h _ (fr_setDown hu hd he hg) (grown_setCells g _ 7 w))


end Go.Proofs.Ytllhdmpnjcemkac
