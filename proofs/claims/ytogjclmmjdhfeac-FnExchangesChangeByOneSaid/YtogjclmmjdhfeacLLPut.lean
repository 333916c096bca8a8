/- A row put among others of a slice of slices: appends of headers. -/
import Derived.Test.YtogjclmmjdhfeacListsLaw
import Derived.Test.YtogjclmmjdhfeacPutMath
namespace Go.Proofs.Ytogjclmmjdhfeac
open Go.RowKit
set_option linter.unusedSimpArgs false
set_option linter.unusedVariables false

theorem OwnLL.ones {lo hi : Nat} {w : World} {v : Value} {vs : List Value} {ls : List (List Int)} (h : OwnLL lo hi w v vs ls) : ∀ u ∈ vs, u.oneCell' = true := by
  intro u hu
  obtain ⟨i, hi, rfl⟩ := List.mem_iff_getElem.1 hu
  have := h.own i (by rw [← h.len]; exact hi)
  rw [show rowV vs i = vs[i] by simp [rowV, List.getD, hi]] at this
  rcases this.2 with ⟨e, _⟩ | ⟨g, cap, cur, e, _⟩ <;> rw [e] <;> rfl
/-- 'append(v, u...)' on slices of slices: v the call's own header, u whatever lies there -/
theorem wp_appendV {ops : Array Oper} {rest : List Oper} {o : Oper} {a : Act} {Q : Exit → Act → World → Prop} (w : World)
    (hg : o.guard = none) (s x : Operand) (hop : o.op = Op.call { callee := Callee.builtin Builtin.append, args := #[s, x], argTypes := #[34, 34] })
    (B n m c : Nat) (v : Value) (xs ys : List Value) (ad : Option Addr) (hs : a.eval s = v) (hx : a.eval x = .slice ad m c) (hown : w.ownsRow B 24 1 v n xs)
    (hm : m = ys.length) (hc : ys = [] ∧ (ad = none → c = 0) ∨ ∃ g off, ad = some ⟨g, off, none⟩ ∧ ∀ j u, ys[j]? = some u → w.cell? ⟨g, off + j, none⟩ = some u) (hone : ∀ u ∈ ys, u.oneCell' = true) (hlen : n + m ≤ 1000000000) (hB : B ≤ w.heap.size)
    (hK : ∀ v' w', w'.ownsRow B 24 1 v' (n + m) (xs ++ ys) → w.grownBy w' v.ownBlock → Below B w w' → wpList Try.prog ops Q rest (a.put o.dst v') w') :
    wpList Try.prog ops Q (o :: rest) a w := by
  obtain ⟨i0, hi, hz0, hz1, hz2⟩ := info_parts Try.info24
  subst hm
  have fin : ∀ v' w', w'.ownsRow B 24 1 v' (n + ys.length) (xs ++ ys) → w.grownBy w' v.ownBlock → wpList Try.prog ops Q rest (a.put o.dst v') w' :=
    fun v' w' h1 h2 => hK v' w' h1 h2 (below_grown h2 hB fun k hk => (hown.lt k hk).1)
  cases ad with
  | none =>
    have hy : ys = [] ∧ c = 0 := by
      rcases hc with ⟨h, h2⟩ | ⟨g, off, h, _⟩
      · exact ⟨h, h2 rfl⟩
      · cases h
    obtain ⟨rfl, rfl⟩ := hy
    refine wpList_append_own_none hg s x 34 hop B 24 i0 1 Try.underlying34 hi v n xs hs hown hx ?_
    exact fin v w (by simpa using hown) (World.grownBy.refl _ _)
  | some x0 =>
    refine wpList_append_own w hg s x 34 hop B 24 i0 (.slice none 0 0) 1 24 Try.underlying34 hi hz0 hz1 hz2 rfl (by decide) v n xs hs hown x0 ys.length c ys hx (by simp) ?_ hone (by unfold maxLen; omega) (by omega) hB (fun v' w' h1 h2 _ => fin v' w' h1 h2)
    intro j y hj
    rcases hc with ⟨rfl, _⟩ | ⟨g, off, h1, h2⟩
    · simp at hj
    · simp at h1
      subst h1
      rw [Addr.add_lit]
      exact h2 j y hj
theorem LL_lit0 (B : Nat) (w : World) (hB : B ≤ w.heap.size) : (w.alloc (.cells #[] 24)).ownsRow B 24 1 (.slice (some ⟨w.heap.size, 0, none⟩) 0 0) 0 [] :=
  World.ownsRow_lit w #[] 0 hB (by unfold maxLen; omega) rfl
theorem rowV_ins {vs : List Value} {k : Nat} (p : Value) (h : k ≤ vs.length) (i : Nat) : rowV (insAt vs k p) i = if i < k then rowV vs i else if i = k then p else rowV vs (i - 1) := insAt_getD p _ h i
/-- rows kept, with one among them, behind a new header -/
theorem OwnLL.put {lo hi B : Nat} {w w' : World} {v v' p : Value} {vs : List Value} {ls : List (List Int)} {l : List Int} {k : Nat} (h : OwnLL lo hi w v vs ls) (hp : Own lo w p l)
    (ap : ∀ i, i < ls.length → ∀ k, p.ownBlock = some k → (rowV vs i).ownBlock ≠ some k) (hk : k ≤ ls.length)
    (hr : w'.ownsRow B 24 1 v' (ls.length + 1) (insAt vs k p)) (hB : lo ≤ B) (hb : Below w.heap.size w w') : OwnLL lo w'.heap.size w' v' (insAt vs k p) (insAt ls k l) := by
  have hlen := h.len
  have hkv : k ≤ vs.length := by omega
  have hl : (insAt ls k l).length = ls.length + 1 := insAt_length _ _ _
  have hpos : ∀ i, i < ls.length + 1 → (i < k ∧ i < ls.length) ∨ i = k ∨ (k < i ∧ i - 1 < ls.length) := fun i hi => by omega
  refine ⟨Nat.le_refl _, by rw [insAt_length, hl, hlen], ?_, fun i hi => ?_, fun j hj => ?_, fun i hi j hj => ?_, fun i j hi hj hne q hq hq' => ?_⟩
  · rw [hl]
    refine ⟨hr.1, ?_⟩
    rcases hr.2 with e | ⟨g, cap, cur, e, hB2, rest⟩
    · exact .inl e
    · exact .inr ⟨g, cap, cur, e, by omega, rest⟩
  · rw [hl] at hi
    rw [rowV_ins p hkv, insAt_getD l [] hk]
    rcases hpos i hi with ⟨h1, h2⟩ | h1 | ⟨h1, h2⟩
    · simp only [if_pos h1]; exact (h.own i h2).below hb
    · have h0 : ¬ i < k := by omega
      simp only [if_neg h0, if_pos h1]; exact hp.below hb
    · have h0 : ¬ i < k := by omega
      have h3 : ¬ i = k := by omega
      simp only [if_neg h0, if_neg h3]; exact (h.own _ h2).below hb
  · have := hr.lt j hj; omega
  · rw [hl] at hi
    rw [rowV_ins p hkv] at hj
    have hs := hb.size
    have he := h.ends
    rcases hpos i hi with ⟨h1, h2⟩ | h1 | ⟨h1, h2⟩
    · rw [if_pos h1] at hj; have := h.inr i h2 j hj; omega
    · rw [if_neg (by omega), if_pos h1] at hj; have := hp.lt j hj; omega
    · rw [if_neg (by omega), if_neg (by omega)] at hj; have := h.inr _ h2 j hj; omega
  · rw [hl] at hi hj
    rw [rowV_ins p hkv] at hq hq'
    rcases hpos i hi with ⟨h1, h2⟩ | h1 | ⟨h1, h2⟩
    · rw [if_pos h1] at hq
      rcases hpos j hj with ⟨h3, h4⟩ | h3 | ⟨h3, h4⟩
      · rw [if_pos h3] at hq'; exact h.apart i j h2 h4 hne q hq hq'
      · rw [if_neg (by omega), if_pos h3] at hq'; exact ap i h2 q hq' hq
      · rw [if_neg (by omega), if_neg (by omega)] at hq'; exact h.apart i _ h2 h4 (by omega) q hq hq'
    · rw [if_neg (by omega), if_pos h1] at hq
      rcases hpos j hj with ⟨h3, h4⟩ | h3 | ⟨h3, h4⟩
      · rw [if_pos h3] at hq'; exact ap j h4 q hq hq'
      · omega
      · rw [if_neg (by omega), if_neg (by omega)] at hq'; exact ap _ h4 q hq hq'
    · rw [if_neg (by omega), if_neg (by omega)] at hq
      rcases hpos j hj with ⟨h3, h4⟩ | h3 | ⟨h3, h4⟩
      · rw [if_pos h3] at hq'; exact h.apart _ j h2 h4 (by omega) q hq hq'
      · rw [if_neg (by omega), if_pos h3] at hq'; exact ap _ h2 q hq' hq
      · rw [if_neg (by omega), if_neg (by omega)] at hq'; exact h.apart _ _ h2 h4 (by omega) q hq hq'
theorem Own.keptLL {B B' n : Nat} {w w' : World} {u v : Value} {l : List Int} {xs : List Value} (h : Own B w u l) (hr : w.ownsRow B' 24 1 v n xs) (hg : w.grownBy w' v.ownBlock) : Own B w' u l :=
  World.ownsRow.kept h hg (by
    cases e : u.ownBlock with
    | none => exact .inl rfl
    | some k => exact .inr fun e' => own_apart h hr k e e'.symm)
/-- cells of a part of a slice of slices -/
theorem LL_part {lo hi n c : Nat} {a : Option Addr} {w : World} {vs : List Value} {ls : List (List Int)} (h : OwnLL lo hi w (.slice a n c) vs ls) (k m : Nat) (hkm : k + m ≤ ls.length) (hm : 0 < m) :
    ∃ g, a = some ⟨g, 0, none⟩ ∧ ∀ j u, ((vs.drop k).take m)[j]? = some u → w.cell? ⟨g, k + j, none⟩ = some u := by
  obtain ⟨g, ha, _, _, hc, _⟩ := h.at (by omega)
  refine ⟨g, ha, fun j u hj => ?_⟩
  have hlen := h.len
  have hjm : j < m := by
    have := (List.getElem?_eq_some_iff.1 hj).1
    rw [List.length_take] at this; omega
  rw [hc (k + j) (by omega)]
  rw [List.getElem?_take_of_lt hjm, List.getElem?_drop] at hj
  simp [rowV, List.getD, hj]
theorem LL_hc {lo hi n c g : Nat} {w w' : World} {vs : List Value} {ls : List (List Int)} (h : OwnLL lo hi w (.slice (some ⟨g, 0, none⟩) n c) vs ls) (hb : Below w.heap.size w w') (k m : Nat) (hkm : k + m ≤ ls.length) (c1 : Nat) :
    ((vs.drop k).take m = [] ∧ (some (⟨g, k, none⟩ : Addr) = none → c1 = 0)) ∨ ∃ g' off, some (⟨g, k, none⟩ : Addr) = some ⟨g', off, none⟩ ∧ ∀ j u, ((vs.drop k).take m)[j]? = some u → w'.cell? ⟨g', off + j, none⟩ = some u := by
  refine .inr ⟨g, k, rfl, fun j u hj => ?_⟩
  have hm : 0 < m := by
    have := (List.getElem?_eq_some_iff.1 hj).1
    rw [List.length_take] at this; omega
  obtain ⟨g', e, hc⟩ := LL_part h k m hkm hm
  simp only [Option.some.injEq, Addr.mk.injEq, and_true] at e
  subst e
  have := hc j u hj
  exact (hb.cell (p := ⟨g, k + j, none⟩) (World.block_lt_of_cell? w _ this)).trans this
theorem ones_part {lo hi : Nat} {w : World} {v : Value} {vs : List Value} {ls : List (List Int)} (h : OwnLL lo hi w v vs ls) (k m : Nat) : ∀ u ∈ (vs.drop k).take m, u.oneCell' = true :=
  fun u hu => h.ones u (List.mem_of_mem_drop (List.mem_of_mem_take hu))
theorem Own.one {B : Nat} {w : World} {v : Value} {l : List Int} (h : Own B w v l) : ∀ u ∈ [v], u.oneCell' = true := by
  intro u hu
  rw [List.mem_singleton] at hu
  subst hu
  rcases h.2 with ⟨e, _⟩ | ⟨g, cap, cur, e, _⟩ <;> rw [e] <;> rfl
theorem lit1_cells (w : World) (p : Value) (T : TypeId) : ∀ j u, ([p] : List Value)[j]? = some u → (w.alloc (.cells #[p] T)).cell? ⟨w.heap.size, 0 + j, none⟩ = some u := by
  intro j u hj
  have : j = 0 := by
    have := (List.getElem?_eq_some_iff.1 hj).1
    simpa using this
  subst this
  simp at hj
  subst hj
  exact cell_lit1 w p T
theorem put_chain {w w1 w2 : World} {A A' : Obj} (h1 : Below w.heap.size (w.alloc A) w1) (h2 : Below w.heap.size (w1.alloc A') w2) : Below w.heap.size w w2 :=
  (((Below.alloc1 w A).trans h1).alloc (by have := h1.size; simp at this; omega) A').trans h2
theorem ins_row {vs : List Value} {p : Value} {k n : Nat} (h : vs.length = n) : [] ++ (vs.drop 0).take k ++ [p] ++ (vs.drop k).take (n - k) = insAt vs k p := by
  have e : (vs.drop k).take (n - k) = vs.drop k := List.take_of_length_le (by rw [List.length_drop]; omega)
  rw [e, List.nil_append, List.drop_zero, List.append_assoc]
  rfl

end Go.Proofs.Ytogjclmmjdhfeac
