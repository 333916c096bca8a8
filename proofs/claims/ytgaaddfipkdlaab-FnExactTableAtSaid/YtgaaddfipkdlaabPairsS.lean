/- Slices of slices of pairs. -/
import Derived.Test.YtgaaddfipkdlaabPairs
import Derived.Test.YtgaaddfipkdlaabLists
namespace Go.Proofs.Ytgaaddfipkdlaab
open Go.RowKit
set_option linter.unusedSimpArgs false
set_option linter.unusedVariables false

theorem Try.info85 : (Try.prog.info? 85).map (fun i => (i.zero, i.size, i.bytes)) = some (some (.slice none 0 0), 1, 24) := by kernel_rfl
theorem tagsP_apart : (85 : TypeId) ≠ 52 := by decide

theorem getDP_snoc_lt {ls : List (List (List Int × List Int))} {l : List (List Int × List Int)} {i : Nat} (h : i < ls.length) : (ls ++ [l]).getD i [] = ls.getD i [] := by
  simp [List.getD, List.getElem?_append_left h]
theorem getDP_snoc_eq {ls : List (List (List Int × List Int))} {l : List (List Int × List Int)} : (ls ++ [l]).getD ls.length [] = l := by simp [List.getD]

/-- a slice of slices of numbers that the call made itself, all its blocks from lo on and before hi -/
structure OwnPP (lo hi : Nat) (w : World) (v : Value) (vs : List Value) (ls : List (List (List Int × List Int))) : Prop where
  ends : hi ≤ w.heap.size
  len : vs.length = ls.length
  row : w.ownsRow lo 85 1 v ls.length vs
  own : ∀ i, i < ls.length → OwnP lo w (rowV vs i) (ls.getD i [])
  inn : In v lo hi
  inr : ∀ i, i < ls.length → In (rowV vs i) lo hi
  apart : ∀ i j, i < ls.length → j < ls.length → i ≠ j → ∀ k, (rowV vs i).ownBlock = some k → (rowV vs j).ownBlock ≠ some k

/-- a row of numbers and a row of slices lie in different blocks -/
theorem ownP_apart {B B' n : Nat} {w : World} {u v : Value} {l : List (List Int × List Int)} {xs : List Value} (h : OwnP B w u l) (hv : w.ownsRow B' 85 1 v n xs) : ∀ k, u.ownBlock = some k → v.ownBlock ≠ some k := by
  intro k hk hk'
  rcases h.2 with ⟨rfl, _⟩ | ⟨g, cap, cur, rfl, _, hg, _⟩
  · cases hk
  rcases hv.2 with ⟨rfl, _⟩ | ⟨g', cap', cur', rfl, _, hg', _⟩
  · cases hk'
  simp [Value.ownBlock] at hk hk'
  subst hk; subst hk'
  rw [hg] at hg'
  simp at hg'

theorem OwnPP.below {lo hi : Nat} {w w' : World} {v : Value} {vs : List Value} {ls : List (List (List Int × List Int))} (h : OwnPP lo hi w v vs ls) (hb : Below w.heap.size w w') : OwnPP lo hi w' v vs ls :=
  ⟨Nat.le_trans h.ends hb.size, h.len, ownsRow_below h.row hb, fun i hi => (h.own i hi).below hb, h.inn, h.inr, h.apart⟩

theorem OwnPP.grown {lo hi : Nat} {w w' : World} {v : Value} {vs : List Value} {ls : List (List (List Int × List Int))} {row : Option Nat} (h : OwnPP lo hi w v vs ls) (hg : w.grownBy w' row) (hr : ∀ k, row = some k → k < lo ∨ hi ≤ k) : OwnPP lo hi w' v vs ls := by
  have ap : ∀ u, In u lo hi → u.ownBlock = none ∨ u.ownBlock ≠ row := fun u hu => by
    cases e : u.ownBlock with
    | none => exact .inl rfl
    | some k => exact .inr fun e' => by have h1 := hr k e'.symm; have h2 := hu k e; omega
  exact ⟨Nat.le_trans h.ends hg.size, h.len, World.ownsRow.kept h.row hg (ap v h.inn), fun i hi => World.ownsRow.kept (h.own i hi) hg (ap _ (h.inr i hi)), h.inn, h.inr, h.apart⟩

theorem OwnPP.mono {lo lo' hi hi' : Nat} {w : World} {v : Value} {vs : List Value} {ls : List (List (List Int × List Int))} (h : OwnPP lo hi w v vs ls) (hl : lo' ≤ lo) (hh : hi ≤ hi') (he : hi' ≤ w.heap.size) : OwnPP lo' hi' w v vs ls := by
  refine ⟨he, h.len, ⟨h.row.1, ?_⟩, fun i hi => (h.own i hi).mono hl, fun k hk => ?_, fun i hi k hk => ?_, h.apart⟩
  · rcases h.row.2 with hn | ⟨g, cap, cur, hv, hB, rest⟩
    · exact .inl hn
    · exact .inr ⟨g, cap, cur, hv, by omega, rest⟩
  · have := h.inn k hk; omega
  · have := h.inr i hi k hk; omega

theorem OwnPP.nil (lo : Nat) (w : World) (h : lo ≤ w.heap.size) : OwnPP lo w.heap.size w (.slice none 0 0) [] [] :=
  ⟨Nat.le_refl _, rfl, World.ownsRow_nil w lo _ _, fun i hi => by simp at hi, fun k hk => by simp [Value.ownBlock] at hk, fun i hi => by simp at hi, fun i j hi => by simp at hi⟩

/-- '[][]int{p}' -/
theorem OwnPP.lit1 (lo : Nat) (w : World) (p : Value) (l : List (List Int × List Int)) (hp : OwnP lo w p l) (hlo : lo ≤ w.heap.size) :
    OwnPP lo (w.heap.size + 1) (w.alloc (.cells #[p] 85)) (.slice (some ⟨w.heap.size, 0, none⟩) 1 1) [p] [l] := by
  have hb : Below w.heap.size w (w.alloc (.cells #[p] 85)) := Below.alloc1 _ _
  refine ⟨by simp, rfl, World.ownsRow_lit w #[p] 1 hlo (by unfold maxLen; omega) rfl, fun i hi => ?_, fun k hk => ?_, fun i hi k hk => ?_, fun i j hi hj hne => ?_⟩
  · obtain rfl : i = 0 := by simp at hi; exact hi
    exact hp.below hb
  · simp [Value.ownBlock] at hk; omega
  · obtain rfl : i = 0 := by simp at hi; exact hi
    have := hp.lt k hk; omega
  · simp at hi hj; omega

/-- a row more -/
theorem OwnPP.snoc {lo hi mid : Nat} {w w' : World} {v v' p : Value} {vs : List Value} {ls : List (List (List Int × List Int))} {l : List (List Int × List Int)} (h : OwnPP lo hi w v vs ls) (hp : OwnP mid w p l) (hm : hi ≤ mid) (hlo : lo ≤ mid)
    (hr : w'.ownsRow lo 85 1 v' (ls.length + 1) (vs ++ [p])) (hg : w.grownBy w' v.ownBlock) : OwnPP lo w'.heap.size w' v' (vs ++ [p]) (ls ++ [l]) := by
  have ko : ∀ u m B, OwnP B w u m → OwnP B w' u m := fun u m B hu => World.ownsRow.kept hu hg (by
    cases e : u.ownBlock with
    | none => exact .inl rfl
    | some k => exact .inr fun e' => ownP_apart hu h.row k e e'.symm)
  have hsz := hg.size
  have hlen := h.len
  refine ⟨Nat.le_refl _, by simp [h.len], by simpa using hr, fun i hi => ?_, fun k hk => hr.lt k hk, fun i hi k hk => ?_, fun i j hi hj hne k hk hk' => ?_⟩
  · rw [List.length_append] at hi
    by_cases e : i < ls.length
    · rw [rowV_snoc_lt (by omega), getDP_snoc_lt e]; exact ko _ _ _ (h.own i e)
    · obtain rfl : i = ls.length := by simp at hi; omega
      rw [getDP_snoc_eq, ← hlen, rowV_snoc_eq]; exact (ko _ _ _ hp).mono hlo
  · rw [List.length_append] at hi
    by_cases e : i < ls.length
    · rw [rowV_snoc_lt (by omega)] at hk
      have := h.inr i e k hk; have := h.ends; omega
    · obtain rfl : i = ls.length := by simp at hi; omega
      rw [← hlen, rowV_snoc_eq] at hk
      have := hp.lt k hk; omega
  · rw [List.length_append] at hi hj
    by_cases e : i < ls.length
    · rw [rowV_snoc_lt (by omega)] at hk
      by_cases e2 : j < ls.length
      · rw [rowV_snoc_lt (by omega)] at hk'
        exact h.apart i j e e2 hne k hk hk'
      · obtain rfl : j = ls.length := by simp at hj; omega
        rw [← hlen, rowV_snoc_eq] at hk'
        have := h.inr i e k hk; have := hp.lt k hk'; omega
    · obtain rfl : i = ls.length := by simp at hi; omega
      rw [← hlen, rowV_snoc_eq] at hk
      have e2 : j < ls.length := by simp at hj; omega
      rw [rowV_snoc_lt (by omega)] at hk'
      have := h.inr j e2 k hk'; have := hp.lt k hk; omega

/-- 'append(v, p)': v the call's own, p a slice made after all of v -/
theorem wp_appendPP {ops : Array Oper} {rest : List Oper} {o : Oper} {a : Act} {Q : Exit → Act → World → Prop} (w : World)
    (hg : o.guard = none) (s x : Operand) (hop : o.op = Op.call { callee := Callee.builtin Builtin.append, args := #[s, x], argTypes := #[54, 54] })
    (lo hi mid g : Nat) (v p : Value) (vs : List Value) (ls : List (List (List Int × List Int))) (l : List (List Int × List Int)) (hs : a.eval s = v) (hx : a.eval x = .slice (some ⟨g, 0, none⟩) 1 1) (hc : w.cell? ⟨g, 0, none⟩ = some p)
    (hown : OwnPP lo hi w v vs ls) (hp : OwnP mid w p l) (hm : hi ≤ mid) (hlo : lo ≤ mid) (hlen : ls.length ≤ 1000000000) (hB : lo ≤ w.heap.size)
    (hK : ∀ v' w', OwnPP lo w'.heap.size w' v' (vs ++ [p]) (ls ++ [l]) → w.grownBy w' v.ownBlock → Below lo w w' → (∀ k, v'.ownBlock = some k → v.ownBlock = some k ∨ w.heap.size ≤ k) → wpList Try.prog ops Q rest (a.put o.dst v') w') :
    wpList Try.prog ops Q (o :: rest) a w := by
  obtain ⟨i0, hi0, hz0, hz1, hz2⟩ := info_parts Try.info85
  have hone : p.oneCell' = true := by
    rcases hp.2 with ⟨rfl, _⟩ | ⟨g, cap, cur, rfl, _⟩ <;> rfl
  have hnews : ∀ j u, ([p] : List Value)[j]? = some u → w.cell? ((⟨g, 0, none⟩ : Addr).add j) = some u := by
    intro j y hj
    have : j = 0 := by
      have := (List.getElem?_eq_some_iff.1 hj).1
      simp at this; exact this
    subst this
    simp at hj; subst hj
    exact hc
  have hones : ∀ u ∈ ([p] : List Value), u.oneCell' = true := fun u hu => by simp at hu; rw [hu]; exact hone
  obtain ⟨v', w', hr, h1, h2, _⟩ := run_append_own (P := Try.prog) w lo 54 o.type 85 i0 (.slice none 0 0) 1 24 Try.underlying54 hi0 hz0 hz1 hz2 rfl (by decide) v ls.length vs hown.row ⟨g, 0, none⟩ 1 1 [p] rfl hnews hones (by unfold maxLen; omega) (by omega) hB
  have h3 := append_where w lo 54 o.type 85 i0 (.slice none 0 0) 1 24 Try.underlying54 hi0 hz0 hz1 hz2 rfl (by decide) v ls.length vs hown.row ⟨g, 0, none⟩ 1 1 [p] rfl hnews hones (by unfold maxLen; omega) (by omega) hB v' w' hr
  refine wpList_plain hg fun _ hK' => ?_
  unfold Oper.wp execOp
  simp only [hop, resolve, invoke, builtin, Sem.run_bind, Sem.run_pure, Result.andThen_ok, List.map_toArray, List.map_cons, List.map_nil, hs, hx, hr]
  exact hK' _ _ (hK v' w' (hown.snoc hp hm hlo h1 h2) h2 (below_grown h2 hB fun k hk => (hown.inn k hk).1) h3)


end Go.Proofs.Ytgaaddfipkdlaab
