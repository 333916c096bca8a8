/- Slices of parts: as slices of slices of numbers. -/
import Derived.Test.YtgaaddfipkdlaaaLists
namespace Go.Proofs.Ytgaaddfipkdlaaa
open Go.RowKit
set_option linter.unusedSimpArgs false
set_option linter.unusedVariables false

theorem Try.info56 : (Try.prog.info? 56).map (fun i => (i.zero, i.size, i.bytes)) = some (some (.slice none 0 0), 1, 24) := by kernel_rfl
theorem tagsQ_apart : (56 : TypeId) ≠ 3 := by decide

/-- a slice of slices of numbers that the call made itself, all its blocks from lo on and before hi -/
structure OwnLP (lo hi : Nat) (w : World) (v : Value) (vs : List Value) (ls : List (List Int)) : Prop where
  ends : hi ≤ w.heap.size
  len : vs.length = ls.length
  row : w.ownsRow lo 56 1 v ls.length vs
  own : ∀ i, i < ls.length → Own lo w (rowV vs i) (ls.getD i [])
  inn : In v lo hi
  inr : ∀ i, i < ls.length → In (rowV vs i) lo hi
  apart : ∀ i j, i < ls.length → j < ls.length → i ≠ j → ∀ k, (rowV vs i).ownBlock = some k → (rowV vs j).ownBlock ≠ some k

/-- a row of numbers and a row of slices lie in different blocks -/
theorem own_apartQ {B B' n : Nat} {w : World} {u v : Value} {l : List Int} {xs : List Value} (h : Own B w u l) (hv : w.ownsRow B' 56 1 v n xs) : ∀ k, u.ownBlock = some k → v.ownBlock ≠ some k := by
  intro k hk hk'
  rcases h.2 with ⟨rfl, _⟩ | ⟨g, cap, cur, rfl, _, hg, _⟩
  · cases hk
  rcases hv.2 with ⟨rfl, _⟩ | ⟨g', cap', cur', rfl, _, hg', _⟩
  · cases hk'
  simp [Value.ownBlock] at hk hk'
  subst hk; subst hk'
  rw [hg] at hg'
  simp at hg'

theorem ownsRow_belowQ {B n : Nat} {T : TypeId} {w w' : World} {v : Value} {xs : List Value} (h : w.ownsRow B T 1 v n xs) (hb : Below w.heap.size w w') : w'.ownsRow B T 1 v n xs := by
  refine ⟨h.1, ?_⟩
  rcases h.2 with hn | ⟨g, cap, cur, hv, hB, hg, rest⟩
  · exact .inl hn
  · exact .inr ⟨g, cap, cur, hv, hB, (hb.block g (Array.getElem?_eq_some_iff.1 hg).1).trans hg, rest⟩

theorem OwnLP.below {lo hi : Nat} {w w' : World} {v : Value} {vs : List Value} {ls : List (List Int)} (h : OwnLP lo hi w v vs ls) (hb : Below w.heap.size w w') : OwnLP lo hi w' v vs ls :=
  ⟨Nat.le_trans h.ends hb.size, h.len, ownsRow_belowQ h.row hb, fun i hi => (h.own i hi).below hb, h.inn, h.inr, h.apart⟩

theorem OwnLP.grown {lo hi : Nat} {w w' : World} {v : Value} {vs : List Value} {ls : List (List Int)} {row : Option Nat} (h : OwnLP lo hi w v vs ls) (hg : w.grownBy w' row) (hr : ∀ k, row = some k → k < lo ∨ hi ≤ k) : OwnLP lo hi w' v vs ls := by
  have ap : ∀ u, In u lo hi → u.ownBlock = none ∨ u.ownBlock ≠ row := fun u hu => by
    cases e : u.ownBlock with
    | none => exact .inl rfl
    | some k => exact .inr fun e' => by have h1 := hr k e'.symm; have h2 := hu k e; omega
  exact ⟨Nat.le_trans h.ends hg.size, h.len, World.ownsRow.kept h.row hg (ap v h.inn), fun i hi => World.ownsRow.kept (h.own i hi) hg (ap _ (h.inr i hi)), h.inn, h.inr, h.apart⟩

theorem OwnLP.mono {lo lo' hi hi' : Nat} {w : World} {v : Value} {vs : List Value} {ls : List (List Int)} (h : OwnLP lo hi w v vs ls) (hl : lo' ≤ lo) (hh : hi ≤ hi') (he : hi' ≤ w.heap.size) : OwnLP lo' hi' w v vs ls := by
  refine ⟨he, h.len, ⟨h.row.1, ?_⟩, fun i hi => (h.own i hi).mono hl, fun k hk => ?_, fun i hi k hk => ?_, h.apart⟩
  · rcases h.row.2 with hn | ⟨g, cap, cur, hv, hB, rest⟩
    · exact .inl hn
    · exact .inr ⟨g, cap, cur, hv, by omega, rest⟩
  · have := h.inn k hk; omega
  · have := h.inr i hi k hk; omega

theorem OwnLP.nil (lo : Nat) (w : World) (h : lo ≤ w.heap.size) : OwnLP lo w.heap.size w (.slice none 0 0) [] [] :=
  ⟨Nat.le_refl _, rfl, World.ownsRow_nil w lo _ _, fun i hi => by simp at hi, fun k hk => by simp [Value.ownBlock] at hk, fun i hi => by simp at hi, fun i j hi => by simp at hi⟩

/-- '[][]int{p}' -/
theorem OwnLP.lit1 (lo : Nat) (w : World) (p : Value) (l : List Int) (hp : Own lo w p l) (hlo : lo ≤ w.heap.size) :
    OwnLP lo (w.heap.size + 1) (w.alloc (.cells #[p] 56)) (.slice (some ⟨w.heap.size, 0, none⟩) 1 1) [p] [l] := by
  have hb : Below w.heap.size w (w.alloc (.cells #[p] 56)) := Below.alloc1 _ _
  refine ⟨by simp, rfl, World.ownsRow_lit w #[p] 1 hlo (by unfold maxLen; omega) rfl, fun i hi => ?_, fun k hk => ?_, fun i hi k hk => ?_, fun i j hi hj hne => ?_⟩
  · obtain rfl : i = 0 := by simp at hi; exact hi
    exact hp.below hb
  · simp [Value.ownBlock] at hk; omega
  · obtain rfl : i = 0 := by simp at hi; exact hi
    have := hp.lt k hk; omega
  · simp at hi hj; omega

/-- a row more -/
theorem OwnLP.snoc {lo hi mid : Nat} {w w' : World} {v v' p : Value} {vs : List Value} {ls : List (List Int)} {l : List Int} (h : OwnLP lo hi w v vs ls) (hp : Own mid w p l) (hm : hi ≤ mid) (hlo : lo ≤ mid)
    (hr : w'.ownsRow lo 56 1 v' (ls.length + 1) (vs ++ [p])) (hg : w.grownBy w' v.ownBlock) : OwnLP lo w'.heap.size w' v' (vs ++ [p]) (ls ++ [l]) := by
  have ko : ∀ u m B, Own B w u m → Own B w' u m := fun u m B hu => World.ownsRow.kept hu hg (by
    cases e : u.ownBlock with
    | none => exact .inl rfl
    | some k => exact .inr fun e' => own_apartQ hu h.row k e e'.symm)
  have hsz := hg.size
  have hlen := h.len
  refine ⟨Nat.le_refl _, by simp [h.len], by simpa using hr, fun i hi => ?_, fun k hk => hr.lt k hk, fun i hi k hk => ?_, fun i j hi hj hne k hk hk' => ?_⟩
  · rw [List.length_append] at hi
    by_cases e : i < ls.length
    · rw [rowV_snoc_lt (by omega), getD_snoc_lt e]; exact ko _ _ _ (h.own i e)
    · obtain rfl : i = ls.length := by simp at hi; omega
      rw [getD_snoc_eq, ← hlen, rowV_snoc_eq]; exact (ko _ _ _ hp).mono hlo
  · rw [List.length_append] at hi
    by_cases e : i < ls.length
    · rw [rowV_snoc_lt (by omega)] at hk
      have := h.inr i e k hk; have := h.ends; omega
    · obtain rfl : i = ls.length := by simp at hi; omega
      rw [← hlen, rowV_snoc_eq] at hk
      have := hp.lt k hk; omega
  · rw [List.length_append] at hi hj
    by_cases e : i < ls.length
    · rw [rowV_snoc_lt (by omega)] at hk
      by_cases e2 : j < ls.length
      · rw [rowV_snoc_lt (by omega)] at hk'
        exact h.apart i j e e2 hne k hk hk'
      · obtain rfl : j = ls.length := by simp at hj; omega
        rw [← hlen, rowV_snoc_eq] at hk'
        have := h.inr i e k hk; have := hp.lt k hk'; omega
    · obtain rfl : i = ls.length := by simp at hi; omega
      rw [← hlen, rowV_snoc_eq] at hk
      have e2 : j < ls.length := by simp at hj; omega
      rw [rowV_snoc_lt (by omega)] at hk'
      have := h.inr j e2 k hk'; have := hp.lt k hk; omega

/-- 'append(v, p)': v the call's own, p a slice made after all of v -/
theorem wp_appendLP {ops : Array Oper} {rest : List Oper} {o : Oper} {a : Act} {Q : Exit → Act → World → Prop} (w : World)
    (hg : o.guard = none) (s x : Operand) (hop : o.op = Op.call { callee := Callee.builtin Builtin.append, args := #[s, x], argTypes := #[68, 68] })
    (lo hi mid g : Nat) (v p : Value) (vs : List Value) (ls : List (List Int)) (l : List Int) (hs : a.eval s = v) (hx : a.eval x = .slice (some ⟨g, 0, none⟩) 1 1) (hc : w.cell? ⟨g, 0, none⟩ = some p)
    (hown : OwnLP lo hi w v vs ls) (hp : Own mid w p l) (hm : hi ≤ mid) (hlo : lo ≤ mid) (hlen : ls.length ≤ 1000000000) (hB : lo ≤ w.heap.size)
    (hK : ∀ v' w', OwnLP lo w'.heap.size w' v' (vs ++ [p]) (ls ++ [l]) → w.grownBy w' v.ownBlock → Below lo w w' → (∀ k, v'.ownBlock = some k → v.ownBlock = some k ∨ w.heap.size ≤ k) → wpList Try.prog ops Q rest (a.put o.dst v') w') :
    wpList Try.prog ops Q (o :: rest) a w := by
  obtain ⟨i0, hi0, hz0, hz1, hz2⟩ := info_parts Try.info56
  have hone : p.oneCell' = true := by
    rcases hp.2 with ⟨rfl, _⟩ | ⟨g, cap, cur, rfl, _⟩ <;> rfl
  have hnews : ∀ j u, ([p] : List Value)[j]? = some u → w.cell? ((⟨g, 0, none⟩ : Addr).add j) = some u := by
    intro j y hj
    have : j = 0 := by
      have := (List.getElem?_eq_some_iff.1 hj).1
      simp at this; exact this
    subst this
    simp at hj; subst hj
    exact hc
  have hones : ∀ u ∈ ([p] : List Value), u.oneCell' = true := fun u hu => by simp at hu; rw [hu]; exact hone
  obtain ⟨v', w', hr, h1, h2, _⟩ := run_append_own (P := Try.prog) w lo 68 o.type 56 i0 (.slice none 0 0) 1 24 Try.underlying68 hi0 hz0 hz1 hz2 rfl (by decide) v ls.length vs hown.row ⟨g, 0, none⟩ 1 1 [p] rfl hnews hones (by unfold maxLen; omega) (by omega) hB
  have h3 := append_where w lo 68 o.type 56 i0 (.slice none 0 0) 1 24 Try.underlying68 hi0 hz0 hz1 hz2 rfl (by decide) v ls.length vs hown.row ⟨g, 0, none⟩ 1 1 [p] rfl hnews hones (by unfold maxLen; omega) (by omega) hB v' w' hr
  refine wpList_plain hg fun _ hK' => ?_
  unfold Oper.wp execOp
  simp only [hop, resolve, invoke, builtin, Sem.run_bind, Sem.run_pure, Result.andThen_ok, List.map_toArray, List.map_cons, List.map_nil, hs, hx, hr]
  exact hK' _ _ (hK v' w' (hown.snoc hp hm hlo h1 h2) h2 (below_grown h2 hB fun k hk => (hown.inn k hk).1) h3)

/-- what a call's own slice of slices is, and its cells -/
theorem OwnLP.shape {lo hi : Nat} {w : World} {v : Value} {vs : List Value} {ls : List (List Int)} (h : OwnLP lo hi w v vs ls) : (v = .slice none 0 0 ∧ ls = []) ∨ ∃ g c, v = .slice (some ⟨g, 0, none⟩) ls.length c ∧ lo ≤ g ∧ g < hi ∧ ls.length ≤ c ∧ c ≤ maxLen ∧
    (∀ i, i < ls.length → w.cell? ⟨g, i, none⟩ = some (rowV vs i)) ∧ ∀ i, w.frozen? ⟨g, i, none⟩ = false := by
  rcases h.row.2 with ⟨hv, hn⟩ | ⟨g, cap, cur, hv, hB, hg, hnc, hcm, _⟩
  · exact .inl ⟨hv, List.eq_nil_of_length_eq_zero hn⟩
  · refine .inr ⟨g, cap, hv, hB, ?_, hnc, hcm, fun i hi => ?_, fun i => ?_⟩
    · exact (h.inn g (by rw [hv]; rfl)).2
    · have hr := h.row
      rw [hv] at hr
      rw [World.ownsRow.cellAt hr i (by omega)]
      simp [rowV, List.getD, List.getElem?_eq_getElem (show i < vs.length by rw [h.len]; exact hi)]
    · have hr := h.row
      rw [hv] at hr
      exact World.ownsRow.frozenAt hr i

/-- the same, its header told whatever it is -/
theorem OwnLP.form {lo hi : Nat} {w : World} {v : Value} {vs : List Value} {ls : List (List Int)} (h : OwnLP lo hi w v vs ls) : ∃ a c, v = .slice a ls.length c ∧ ls.length ≤ c ∧ c ≤ maxLen := by
  rcases h.shape with ⟨rfl, rfl⟩ | ⟨g, c, rfl, _, _, h1, h2, _⟩
  · exact ⟨none, 0, rfl, Nat.le_refl _, by unfold maxLen; omega⟩
  · exact ⟨_, c, rfl, h1, h2⟩
theorem OwnLP.at {lo hi n c : Nat} {a : Option Addr} {w : World} {vs : List Value} {ls : List (List Int)} (h : OwnLP lo hi w (.slice a n c) vs ls) (hl : 0 < ls.length) :
    ∃ g, a = some ⟨g, 0, none⟩ ∧ lo ≤ g ∧ g < hi ∧ (∀ i, i < ls.length → w.cell? ⟨g, i, none⟩ = some (rowV vs i)) ∧ ∀ i, w.frozen? ⟨g, i, none⟩ = false := by
  rcases h.shape with ⟨_, rfl⟩ | ⟨g, c', hv, h0, h1, h2, h3, h4, h5⟩
  · simp at hl
  · simp at hv
    exact ⟨g, hv.1, h0, h1, h4, h5⟩
/-- what a function leaves that makes a slice of slices -/
def MadeLP (w : World) (ls : List (List Int)) (e : Ending) (w' : World) : Prop := ∃ v vs, e = .returned v ∧ OwnLP w.heap.size w'.heap.size w' v vs ls ∧ Below w.heap.size w w'

end Go.Proofs.Ytgaaddfipkdlaaa
