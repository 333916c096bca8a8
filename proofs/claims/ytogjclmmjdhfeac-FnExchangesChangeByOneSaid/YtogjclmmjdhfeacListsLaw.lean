/- Slices of slices of numbers: what they read as, and what a call owns. -/
/- Contracts of the laws' own helpers on slices of slices of int. -/
import Derived.Test.YtogjclmmjdhfeacOwn
import Derived.Deep.QuietTactic
import Derived.BigQuiet
namespace Go.Proofs.Ytogjclmmjdhfeac
open Go.RowKit
set_option linter.unusedSimpArgs false
set_option linter.unusedVariables false

theorem Try.info24 : (Try.prog.info? 24).map (fun i => (i.zero, i.size, i.bytes)) = some (some (.slice none 0 0), 1, 24) := by kernel_rfl
theorem tags_apart : (24 : TypeId) ≠ 3 := by decide

def rowV (vs : List Value) (i : Nat) : Value := vs.getD i (.slice none 0 0)
theorem rowV_snoc_lt {vs : List Value} {p : Value} {i : Nat} (h : i < vs.length) : rowV (vs ++ [p]) i = rowV vs i := by
  simp [rowV, List.getD, List.getElem?_append_left h]
theorem rowV_snoc_eq {vs : List Value} {p : Value} : rowV (vs ++ [p]) vs.length = p := by simp [rowV, List.getD]
theorem getD_snoc_lt {ls : List (List Int)} {l : List Int} {i : Nat} (h : i < ls.length) : (ls ++ [l]).getD i [] = ls.getD i [] := by
  simp [List.getD, List.getElem?_append_left h]
theorem getD_snoc_eq {ls : List (List Int)} {l : List Int} : (ls ++ [l]).getD ls.length [] = l := by simp [List.getD]

/-- a slice of slices of numbers that the call made itself, all its blocks from lo on and before hi -/
structure OwnLL (lo hi : Nat) (w : World) (v : Value) (vs : List Value) (ls : List (List Int)) : Prop where
  ends : hi ≤ w.heap.size
  len : vs.length = ls.length
  row : w.ownsRow lo 24 1 v ls.length vs
  own : ∀ i, i < ls.length → Own lo w (rowV vs i) (ls.getD i [])
  inn : In v lo hi
  inr : ∀ i, i < ls.length → In (rowV vs i) lo hi
  apart : ∀ i j, i < ls.length → j < ls.length → i ≠ j → ∀ k, (rowV vs i).ownBlock = some k → (rowV vs j).ownBlock ≠ some k

/-- a row of numbers and a row of slices lie in different blocks -/
theorem own_apart {B B' n : Nat} {w : World} {u v : Value} {l : List Int} {xs : List Value} (h : Own B w u l) (hv : w.ownsRow B' 24 1 v n xs) : ∀ k, u.ownBlock = some k → v.ownBlock ≠ some k := by
  intro k hk hk'
  rcases h.2 with ⟨rfl, _⟩ | ⟨g, cap, cur, rfl, _, hg, _⟩
  · cases hk
  rcases hv.2 with ⟨rfl, _⟩ | ⟨g', cap', cur', rfl, _, hg', _⟩
  · cases hk'
  simp [Value.ownBlock] at hk hk'
  subst hk; subst hk'
  rw [hg] at hg'
  simp at hg'

theorem ownsRow_below {B n : Nat} {T : TypeId} {w w' : World} {v : Value} {xs : List Value} (h : w.ownsRow B T 1 v n xs) (hb : Below w.heap.size w w') : w'.ownsRow B T 1 v n xs := by
  refine ⟨h.1, ?_⟩
  rcases h.2 with hn | ⟨g, cap, cur, hv, hB, hg, rest⟩
  · exact .inl hn
  · exact .inr ⟨g, cap, cur, hv, hB, (hb.block g (Array.getElem?_eq_some_iff.1 hg).1).trans hg, rest⟩

theorem OwnLL.below {lo hi : Nat} {w w' : World} {v : Value} {vs : List Value} {ls : List (List Int)} (h : OwnLL lo hi w v vs ls) (hb : Below w.heap.size w w') : OwnLL lo hi w' v vs ls :=
  ⟨Nat.le_trans h.ends hb.size, h.len, ownsRow_below h.row hb, fun i hi => (h.own i hi).below hb, h.inn, h.inr, h.apart⟩

theorem OwnLL.grown {lo hi : Nat} {w w' : World} {v : Value} {vs : List Value} {ls : List (List Int)} {row : Option Nat} (h : OwnLL lo hi w v vs ls) (hg : w.grownBy w' row) (hr : ∀ k, row = some k → k < lo ∨ hi ≤ k) : OwnLL lo hi w' v vs ls := by
  have ap : ∀ u, In u lo hi → u.ownBlock = none ∨ u.ownBlock ≠ row := fun u hu => by
    cases e : u.ownBlock with
    | none => exact .inl rfl
    | some k => exact .inr fun e' => by have h1 := hr k e'.symm; have h2 := hu k e; omega
  exact ⟨Nat.le_trans h.ends hg.size, h.len, World.ownsRow.kept h.row hg (ap v h.inn), fun i hi => World.ownsRow.kept (h.own i hi) hg (ap _ (h.inr i hi)), h.inn, h.inr, h.apart⟩

theorem OwnLL.mono {lo lo' hi hi' : Nat} {w : World} {v : Value} {vs : List Value} {ls : List (List Int)} (h : OwnLL lo hi w v vs ls) (hl : lo' ≤ lo) (hh : hi ≤ hi') (he : hi' ≤ w.heap.size) : OwnLL lo' hi' w v vs ls := by
  refine ⟨he, h.len, ⟨h.row.1, ?_⟩, fun i hi => (h.own i hi).mono hl, fun k hk => ?_, fun i hi k hk => ?_, h.apart⟩
  · rcases h.row.2 with hn | ⟨g, cap, cur, hv, hB, rest⟩
    · exact .inl hn
    · exact .inr ⟨g, cap, cur, hv, by omega, rest⟩
  · have := h.inn k hk; omega
  · have := h.inr i hi k hk; omega

theorem OwnLL.nil (lo : Nat) (w : World) (h : lo ≤ w.heap.size) : OwnLL lo w.heap.size w (.slice none 0 0) [] [] :=
  ⟨Nat.le_refl _, rfl, World.ownsRow_nil w lo _ _, fun i hi => by simp at hi, fun k hk => by simp [Value.ownBlock] at hk, fun i hi => by simp at hi, fun i j hi => by simp at hi⟩

/-- '[][]int{p}' -/
theorem OwnLL.lit1 (lo : Nat) (w : World) (p : Value) (l : List Int) (hp : Own lo w p l) (hlo : lo ≤ w.heap.size) :
    OwnLL lo (w.heap.size + 1) (w.alloc (.cells #[p] 24)) (.slice (some ⟨w.heap.size, 0, none⟩) 1 1) [p] [l] := by
  have hb : Below w.heap.size w (w.alloc (.cells #[p] 24)) := Below.alloc1 _ _
  refine ⟨by simp, rfl, World.ownsRow_lit w #[p] 1 hlo (by unfold maxLen; omega) rfl, fun i hi => ?_, fun k hk => ?_, fun i hi k hk => ?_, fun i j hi hj hne => ?_⟩
  · obtain rfl : i = 0 := by simp at hi; exact hi
    exact hp.below hb
  · simp [Value.ownBlock] at hk; omega
  · obtain rfl : i = 0 := by simp at hi; exact hi
    have := hp.lt k hk; omega
  · simp at hi hj; omega

/-- a row more -/
theorem OwnLL.snoc {lo hi mid : Nat} {w w' : World} {v v' p : Value} {vs : List Value} {ls : List (List Int)} {l : List Int} (h : OwnLL lo hi w v vs ls) (hp : Own mid w p l) (hm : hi ≤ mid) (hlo : lo ≤ mid)
    (hr : w'.ownsRow lo 24 1 v' (ls.length + 1) (vs ++ [p])) (hg : w.grownBy w' v.ownBlock) : OwnLL lo w'.heap.size w' v' (vs ++ [p]) (ls ++ [l]) := by
  have ko : ∀ u m B, Own B w u m → Own B w' u m := fun u m B hu => World.ownsRow.kept hu hg (by
    cases e : u.ownBlock with
    | none => exact .inl rfl
    | some k => exact .inr fun e' => own_apart hu h.row k e e'.symm)
  have hsz := hg.size
  have hlen := h.len
  refine ⟨Nat.le_refl _, by simp [h.len], by simpa using hr, fun i hi => ?_, fun k hk => hr.lt k hk, fun i hi k hk => ?_, fun i j hi hj hne k hk hk' => ?_⟩
  · rw [List.length_append] at hi
    by_cases e : i < ls.length
    · rw [rowV_snoc_lt (by omega), getD_snoc_lt e]; exact ko _ _ _ (h.own i e)
    · obtain rfl : i = ls.length := by simp at hi; omega
      rw [getD_snoc_eq, ← hlen, rowV_snoc_eq]; exact (ko _ _ _ hp).mono hlo
  · rw [List.length_append] at hi
    by_cases e : i < ls.length
    · rw [rowV_snoc_lt (by omega)] at hk
      have := h.inr i e k hk; have := h.ends; omega
    · obtain rfl : i = ls.length := by simp at hi; omega
      rw [← hlen, rowV_snoc_eq] at hk
      have := hp.lt k hk; omega
  · rw [List.length_append] at hi hj
    by_cases e : i < ls.length
    · rw [rowV_snoc_lt (by omega)] at hk
      by_cases e2 : j < ls.length
      · rw [rowV_snoc_lt (by omega)] at hk'
        exact h.apart i j e e2 hne k hk hk'
      · obtain rfl : j = ls.length := by simp at hj; omega
        rw [← hlen, rowV_snoc_eq] at hk'
        have := h.inr i e k hk; have := hp.lt k hk'; omega
    · obtain rfl : i = ls.length := by simp at hi; omega
      rw [← hlen, rowV_snoc_eq] at hk
      have e2 : j < ls.length := by simp at hj; omega
      rw [rowV_snoc_lt (by omega)] at hk'
      have := h.inr j e2 k hk'; have := hp.lt k hk; omega

/-- 'append(v, p)': v the call's own, p a slice made after all of v -/
theorem wp_appendLL {ops : Array Oper} {rest : List Oper} {o : Oper} {a : Act} {Q : Exit → Act → World → Prop} (w : World)
    (hg : o.guard = none) (s x : Operand) (hop : o.op = Op.call { callee := Callee.builtin Builtin.append, args := #[s, x], argTypes := #[34, 34] })
    (lo hi mid g : Nat) (v p : Value) (vs : List Value) (ls : List (List Int)) (l : List Int) (hs : a.eval s = v) (hx : a.eval x = .slice (some ⟨g, 0, none⟩) 1 1) (hc : w.cell? ⟨g, 0, none⟩ = some p)
    (hown : OwnLL lo hi w v vs ls) (hp : Own mid w p l) (hm : hi ≤ mid) (hlo : lo ≤ mid) (hlen : ls.length ≤ 1000000000) (hB : lo ≤ w.heap.size)
    (hK : ∀ v' w', OwnLL lo w'.heap.size w' v' (vs ++ [p]) (ls ++ [l]) → w.grownBy w' v.ownBlock → Below lo w w' → (∀ k, v'.ownBlock = some k → v.ownBlock = some k ∨ w.heap.size ≤ k) → wpList Try.prog ops Q rest (a.put o.dst v') w') :
    wpList Try.prog ops Q (o :: rest) a w := by
  obtain ⟨i0, hi0, hz0, hz1, hz2⟩ := info_parts Try.info24
  have hone : p.oneCell' = true := by
    rcases hp.2 with ⟨rfl, _⟩ | ⟨g, cap, cur, rfl, _⟩ <;> rfl
  have hnews : ∀ j u, ([p] : List Value)[j]? = some u → w.cell? ((⟨g, 0, none⟩ : Addr).add j) = some u := by
    intro j y hj
    have : j = 0 := by
      have := (List.getElem?_eq_some_iff.1 hj).1
      simp at this; exact this
    subst this
    simp at hj; subst hj
    exact hc
  have hones : ∀ u ∈ ([p] : List Value), u.oneCell' = true := fun u hu => by simp at hu; rw [hu]; exact hone
  obtain ⟨v', w', hr, h1, h2, _⟩ := run_append_own (P := Try.prog) w lo 34 o.type 24 i0 (.slice none 0 0) 1 24 Try.underlying34 hi0 hz0 hz1 hz2 rfl (by decide) v ls.length vs hown.row ⟨g, 0, none⟩ 1 1 [p] rfl hnews hones (by unfold maxLen; omega) (by omega) hB
  have h3 := append_where w lo 34 o.type 24 i0 (.slice none 0 0) 1 24 Try.underlying34 hi0 hz0 hz1 hz2 rfl (by decide) v ls.length vs hown.row ⟨g, 0, none⟩ 1 1 [p] rfl hnews hones (by unfold maxLen; omega) (by omega) hB v' w' hr
  refine wpList_plain hg fun _ hK' => ?_
  unfold Oper.wp execOp
  simp only [hop, resolve, invoke, builtin, Sem.run_bind, Sem.run_pure, Result.andThen_ok, List.map_toArray, List.map_cons, List.map_nil, hs, hx, hr]
  exact hK' _ _ (hK v' w' (hown.snoc hp hm hlo h1 h2) h2 (below_grown h2 hB fun k hk => (hown.inn k hk).1) h3)

/-- row i put in the place of what was there -/
theorem rowV_set_eq {vs : List Value} {p : Value} {i : Nat} (h : i < vs.length) : rowV (vs.set i p) i = p := by simp [rowV, List.getD, h]
theorem rowV_set_ne {vs : List Value} {p : Value} {i j : Nat} (h : i ≠ j) : rowV (vs.set i p) j = rowV vs j := by simp [rowV, List.getD, h]
theorem getD_setL_eq {ls : List (List Int)} {l : List Int} {i : Nat} (h : i < ls.length) : (ls.set i l).getD i [] = l := by simp [List.getD, h]
theorem getD_setL_ne {ls : List (List Int)} {l : List Int} {i j : Nat} (h : i ≠ j) : (ls.set i l).getD j [] = ls.getD j [] := by simp [List.getD, h]

theorem OwnLL.stored {lo hi mid g n c : Nat} {w : World} {p : Value} {vs : List Value} {ls : List (List Int)} {l : List Int} (h : OwnLL lo hi w (.slice (some ⟨g, 0, none⟩) n c) vs ls) (hp : Own mid w p l) (hm : hi ≤ mid) (hlo : lo ≤ mid) (i : Nat) (hi : i < ls.length) :
    OwnLL lo w.heap.size (w.setCell ⟨g, i, none⟩ p) (.slice (some ⟨g, 0, none⟩) n c) (vs.set i p) (ls.set i l) := by
  have e : n = ls.length := by
    rcases h.row.2 with ⟨hv, _⟩ | ⟨g', cap, cur, hv, _⟩
    · cases hv
    · simp at hv; exact hv.2.1
  subst e
  have hst := World.ownsRow.stored h.row i p
  have hlen := h.len
  have ko : ∀ u m B, Own B w u m → Own B (w.setCell ⟨g, i, none⟩ p) u m := fun u m B hu => World.ownsRow.kept hu hst.2 (by
    cases e : u.ownBlock with
    | none => exact .inl rfl
    | some k => exact .inr fun e' => own_apart hu h.row k e e'.symm)
  refine ⟨by simp, by simp [h.len], by simpa using hst.1, fun j hj => ?_, fun k hk => ?_, fun j hj k hk => ?_, fun j j' hj hj' hne k hk hk' => ?_⟩
  · rw [List.length_set] at hj
    by_cases e : i = j
    · subst e
      rw [rowV_set_eq (by omega), getD_setL_eq hi]; exact (ko _ _ _ hp).mono hlo
    · rw [rowV_set_ne e, getD_setL_ne e]; exact ko _ _ _ (h.own j hj)
  · have := h.inn k hk; have := h.ends; omega
  · rw [List.length_set] at hj
    by_cases e : i = j
    · subst e
      rw [rowV_set_eq (by omega)] at hk
      have := hp.lt k hk; omega
    · rw [rowV_set_ne e] at hk
      have := h.inr j hj k hk; have := h.ends; omega
  · rw [List.length_set] at hj hj'
    by_cases e : i = j
    · subst e
      rw [rowV_set_eq (by omega)] at hk
      rw [rowV_set_ne hne] at hk'
      have := hp.lt k hk; have := h.inr j' hj' k hk'; omega
    · rw [rowV_set_ne e] at hk
      by_cases e2 : i = j'
      · subst e2
        rw [rowV_set_eq (by omega)] at hk'
        have := hp.lt k hk'; have := h.inr j hj k hk; omega
      · rw [rowV_set_ne e2] at hk'
        exact h.apart j j' hj hj' hne k hk hk'

/-- what a call's own slice of slices is, and its cells -/
theorem OwnLL.shape {lo hi : Nat} {w : World} {v : Value} {vs : List Value} {ls : List (List Int)} (h : OwnLL lo hi w v vs ls) : (v = .slice none 0 0 ∧ ls = []) ∨ ∃ g c, v = .slice (some ⟨g, 0, none⟩) ls.length c ∧ lo ≤ g ∧ g < hi ∧ ls.length ≤ c ∧ c ≤ maxLen ∧
    (∀ i, i < ls.length → w.cell? ⟨g, i, none⟩ = some (rowV vs i)) ∧ ∀ i, w.frozen? ⟨g, i, none⟩ = false := by
  rcases h.row.2 with ⟨hv, hn⟩ | ⟨g, cap, cur, hv, hB, hg, hnc, hcm, _⟩
  · exact .inl ⟨hv, List.eq_nil_of_length_eq_zero hn⟩
  · refine .inr ⟨g, cap, hv, hB, ?_, hnc, hcm, fun i hi => ?_, fun i => ?_⟩
    · exact (h.inn g (by rw [hv]; rfl)).2
    · have hr := h.row
      rw [hv] at hr
      rw [World.ownsRow.cellAt hr i (by omega)]
      simp [rowV, List.getD, List.getElem?_eq_getElem (show i < vs.length by rw [h.len]; exact hi)]
    · have hr := h.row
      rw [hv] at hr
      exact World.ownsRow.frozenAt hr i

/-- the same, its header told whatever it is -/
theorem OwnLL.form {lo hi : Nat} {w : World} {v : Value} {vs : List Value} {ls : List (List Int)} (h : OwnLL lo hi w v vs ls) : ∃ a c, v = .slice a ls.length c ∧ ls.length ≤ c ∧ c ≤ maxLen := by
  rcases h.shape with ⟨rfl, rfl⟩ | ⟨g, c, rfl, _, _, h1, h2, _⟩
  · exact ⟨none, 0, rfl, Nat.le_refl _, by unfold maxLen; omega⟩
  · exact ⟨_, c, rfl, h1, h2⟩
theorem OwnLL.at {lo hi n c : Nat} {a : Option Addr} {w : World} {vs : List Value} {ls : List (List Int)} (h : OwnLL lo hi w (.slice a n c) vs ls) (hl : 0 < ls.length) :
    ∃ g, a = some ⟨g, 0, none⟩ ∧ lo ≤ g ∧ g < hi ∧ (∀ i, i < ls.length → w.cell? ⟨g, i, none⟩ = some (rowV vs i)) ∧ ∀ i, w.frozen? ⟨g, i, none⟩ = false := by
  rcases h.shape with ⟨_, rfl⟩ | ⟨g, c', hv, h0, h1, h2, h3, h4, h5⟩
  · simp at hl
  · simp at hv
    exact ⟨g, hv.1, h0, h1, h4, h5⟩
theorem OwnLL.away {lo hi : Nat} {w : World} {v : Value} {vs : List Value} {ls : List (List Int)} (h : OwnLL lo hi w v vs ls) {b e : Nat} (hb : hi ≤ b) : Away v b e := fun k hk => by have := h.inn k hk; omega
theorem cell_lit1 (w : World) (p : Value) (T : TypeId) : (w.alloc (.cells #[p] T)).cell? ⟨w.heap.size, 0, none⟩ = some p := by
  rw [cell_of_row _ _ 0 _ _ _ (heap_alloc_new w _)]; rfl

/-- what is kept where a round makes a row and appends it to a slice of slices -/
theorem LL_round {lo : Nat} {wc wd we : World} {o o' : Value} {vs : List Value} {O : List (List Int)} (hown : OwnLL lo wc.heap.size wc o vs O) (hb : Below wc.heap.size wc wd) (hgr : wd.grownBy we o.ownBlock)
    (hwh : ∀ k, o'.ownBlock = some k → o.ownBlock = some k ∨ wd.heap.size ≤ k) :
    (∀ (b e : Nat) (v : Value) (us : List Value) (U : List (List Int)), OwnLL b e wc v us U → Away o b e → OwnLL b e we v us U) ∧ (∀ b e : Nat, Away o b e → e ≤ wc.heap.size → Away o' b e) ∧
    (∀ (B : Nat) (p : Value) (u : List Int), Own B wc p u → Own B we p u) ∧ wc.heap.size ≤ we.heap.size := by
  have hd := hown.below hb
  refine ⟨fun b e v us U hU ha => (hU.below hb).grown hgr (fun k hk => ha k hk), fun b e ha he k hk => ?_, fun B p u hp => ?_, Nat.le_trans hb.size hgr.size⟩
  · rcases hwh k hk with h | h
    · exact ha k h
    · have := hb.size; exact .inr (by omega)
  · exact World.ownsRow.kept (hp.below hb) hgr (by
      cases e : p.ownBlock with
      | none => exact .inl rfl
      | some k => exact .inr fun e' => own_apart (hp.below hb) hd.row k e e'.symm)

/-- what a function leaves that makes a slice of slices -/
def MadeLL (w : World) (ls : List (List Int)) (e : Ending) (w' : World) : Prop := ∃ v vs, e = .returned v ∧ OwnLL w.heap.size w'.heap.size w' v vs ls ∧ Below w.heap.size w w'
def GivesLL (w : World) (ls : List (List Int)) (ok : Bool) (e : Ending) (w' : World) : Prop := ∃ v vs, e = .returned (.tuple #[v, .bool ok]) ∧ OwnLL w.heap.size w'.heap.size w' v vs ls ∧ Below w.heap.size w w'

/-- 'make([][]int, n)' -/
theorem OwnLL.made {w w' : World} {n : Nat} (hr : w'.ownsRow w.heap.size 24 1 (.slice (some ⟨w.heap.size, 0, none⟩) n n) n (madeCells (Value.slice none 0 0).cells (n * 1)).toList) (hs : w.heap.size < w'.heap.size) :
    OwnLL w.heap.size w'.heap.size w' (.slice (some ⟨w.heap.size, 0, none⟩) n n) (List.replicate n (.slice none 0 0)) (List.replicate n []) := by
  have e : (madeCells (Value.slice none 0 0).cells (n * 1)).toList = List.replicate n (.slice none 0 0) := by
    rw [Nat.mul_one]; exact toList_madeCells_one (Value.slice none 0 0) n
  rw [e] at hr
  have hv : ∀ i, rowV (List.replicate n (.slice none 0 0)) i = .slice none 0 0 := by
    intro i; simp [rowV, List.getD, List.getElem?_replicate]; split <;> rfl
  refine ⟨Nat.le_refl _, by simp, by simpa using hr, fun i hi => ?_, fun k hk => hr.lt k hk, fun i hi k hk => ?_, fun i j hi hj hne k hk => ?_⟩
  · rw [hv, show (List.replicate n ([] : List Int)).getD i [] = [] by simp [List.getD, List.getElem?_replicate]; split <;> rfl]
    exact Own.nil _ _
  · rw [hv] at hk; cases hk
  · rw [hv] at hk; cases hk

theorem wp_makeLL {ops : Array Oper} {rest : List Oper} {o : Oper} {a : Act} {Q : Exit → Act → World → Prop} (w : World)
    (hg : o.guard = none) (l c : Operand) (hop : o.op = Op.makeSlice 34 l c) (n : Nat) (L C : Int) (hl : a.eval l = .int .i64 L) (hc : a.eval c = .int .i64 C) (hL : L = n) (hC : C = n) (hn : n ≤ 1000000000)
    (hK : ∀ w', OwnLL w.heap.size w'.heap.size w' (.slice (some ⟨w.heap.size, 0, none⟩) n n) (List.replicate n (.slice none 0 0)) (List.replicate n []) → Below w.heap.size w w' → w.heap.size < w'.heap.size → wpList Try.prog ops Q rest (a.put o.dst (.slice (some ⟨w.heap.size, 0, none⟩) n n)) w') :
    wpList Try.prog ops Q (o :: rest) a w := by
  obtain ⟨i0, hi, hz0, hz1, hz2⟩ := info_parts Try.info24
  refine wpList_make_full w hg l c 34 hop w.heap.size 24 i0 (.slice none 0 0) 1 Try.underlying34 hi hz0 hz1 .i64 .i64 L C n hl hc hL hC (by rw [hz2]; omega) (by unfold maxLen; omega) (Nat.le_refl _) ?_
  intro w1 hown hgrow
  have hs : w.heap.size < w1.heap.size := by
    have := (World.ownsRow.lt hown w.heap.size rfl).2
    exact this
  exact hK w1 (OwnLL.made hown hs) (below_grown hgrow (Nat.le_refl _) (by simp)) hs

/-- a row put behind others that it shares no memory with -/
theorem OwnLL.snocS {lo hi : Nat} {w w' : World} {v v' p : Value} {vs : List Value} {ls : List (List Int)} {l : List Int} (h : OwnLL lo hi w v vs ls) (hp : Own lo w p l)
    (ap : ∀ i, i < ls.length → ∀ k, p.ownBlock = some k → (rowV vs i).ownBlock ≠ some k)
    (hr : w'.ownsRow lo 24 1 v' (ls.length + 1) (vs ++ [p])) (hg : w.grownBy w' v.ownBlock) : OwnLL lo w'.heap.size w' v' (vs ++ [p]) (ls ++ [l]) := by
  have ko : ∀ u m B, Own B w u m → Own B w' u m := fun u m B hu => World.ownsRow.kept hu hg (by
    cases e : u.ownBlock with
    | none => exact .inl rfl
    | some k => exact .inr fun e' => own_apart hu h.row k e e'.symm)
  have hsz := hg.size
  have hlen := h.len
  refine ⟨Nat.le_refl _, by simp [h.len], by simpa using hr, fun i hi => ?_, fun k hk => hr.lt k hk, fun i hi k hk => ?_, fun i j hi hj hne k hk hk' => ?_⟩
  · rw [List.length_append] at hi
    by_cases e : i < ls.length
    · rw [rowV_snoc_lt (by omega), getD_snoc_lt e]; exact ko _ _ _ (h.own i e)
    · obtain rfl : i = ls.length := by simp at hi; omega
      rw [getD_snoc_eq, ← hlen, rowV_snoc_eq]; exact ko _ _ _ hp
  · rw [List.length_append] at hi
    by_cases e : i < ls.length
    · rw [rowV_snoc_lt (by omega)] at hk
      have := h.inr i e k hk; have := h.ends; omega
    · obtain rfl : i = ls.length := by simp at hi; omega
      rw [← hlen, rowV_snoc_eq] at hk
      have := hp.lt k hk; omega
  · rw [List.length_append] at hi hj
    by_cases e : i < ls.length
    · rw [rowV_snoc_lt (by omega)] at hk
      by_cases e2 : j < ls.length
      · rw [rowV_snoc_lt (by omega)] at hk'
        exact h.apart i j e e2 hne k hk hk'
      · obtain rfl : j = ls.length := by simp at hj; omega
        rw [← hlen, rowV_snoc_eq] at hk'
        exact ap i e k hk' hk
    · obtain rfl : i = ls.length := by simp at hi; omega
      rw [← hlen, rowV_snoc_eq] at hk
      have e2 : j < ls.length := by simp at hj; omega
      rw [rowV_snoc_lt (by omega)] at hk'
      exact ap j e2 k hk hk'

theorem wp_appendLS {ops : Array Oper} {rest : List Oper} {o : Oper} {a : Act} {Q : Exit → Act → World → Prop} (w : World)
    (hg : o.guard = none) (s x : Operand) (hop : o.op = Op.call { callee := Callee.builtin Builtin.append, args := #[s, x], argTypes := #[34, 34] })
    (lo hi g : Nat) (v p : Value) (vs : List Value) (ls : List (List Int)) (l : List Int) (hs : a.eval s = v) (hx : a.eval x = .slice (some ⟨g, 0, none⟩) 1 1) (hc : w.cell? ⟨g, 0, none⟩ = some p)
    (hown : OwnLL lo hi w v vs ls) (hp : Own lo w p l) (ap : ∀ i, i < ls.length → ∀ k, p.ownBlock = some k → (rowV vs i).ownBlock ≠ some k) (hlen : ls.length ≤ 1000000000) (hB : lo ≤ w.heap.size)
    (hK : ∀ v' w', OwnLL lo w'.heap.size w' v' (vs ++ [p]) (ls ++ [l]) → w.grownBy w' v.ownBlock → Below lo w w' → (∀ k, v'.ownBlock = some k → v.ownBlock = some k ∨ w.heap.size ≤ k) → wpList Try.prog ops Q rest (a.put o.dst v') w') :
    wpList Try.prog ops Q (o :: rest) a w := by
  obtain ⟨i0, hi0, hz0, hz1, hz2⟩ := info_parts Try.info24
  have hone : p.oneCell' = true := by
    rcases hp.2 with ⟨rfl, _⟩ | ⟨g, cap, cur, rfl, _⟩ <;> rfl
  have hnews : ∀ j u, ([p] : List Value)[j]? = some u → w.cell? ((⟨g, 0, none⟩ : Addr).add j) = some u := by
    intro j y hj
    have : j = 0 := by
      have := (List.getElem?_eq_some_iff.1 hj).1
      simp at this; exact this
    subst this
    simp at hj; subst hj
    exact hc
  have hones : ∀ u ∈ ([p] : List Value), u.oneCell' = true := fun u hu => by simp at hu; rw [hu]; exact hone
  obtain ⟨v', w', hr, h1, h2, _⟩ := run_append_own (P := Try.prog) w lo 34 o.type 24 i0 (.slice none 0 0) 1 24 Try.underlying34 hi0 hz0 hz1 hz2 rfl (by decide) v ls.length vs hown.row ⟨g, 0, none⟩ 1 1 [p] rfl hnews hones (by unfold maxLen; omega) (by omega) hB
  have h3 := append_where w lo 34 o.type 24 i0 (.slice none 0 0) 1 24 Try.underlying34 hi0 hz0 hz1 hz2 rfl (by decide) v ls.length vs hown.row ⟨g, 0, none⟩ 1 1 [p] rfl hnews hones (by unfold maxLen; omega) (by omega) hB v' w' hr
  refine wpList_plain hg fun _ hK' => ?_
  unfold Oper.wp execOp
  simp only [hop, resolve, invoke, builtin, Sem.run_bind, Sem.run_pure, Result.andThen_ok, List.map_toArray, List.map_cons, List.map_nil, hs, hx, hr]
  exact hK' _ _ (hK v' w' (hown.snocS hp ap h1 h2) h2 (below_grown h2 hB fun k hk => (hown.inn k hk).1) h3)

end Go.Proofs.Ytogjclmmjdhfeac

namespace Go.Proofs.Ytogjclmmjdhfeac
open Go.RowKit
set_option linter.unusedSimpArgs false
set_option linter.unusedVariables false

theorem OwnLL.within {b e lo hi : Nat} {w w' : World} {v : Value} {vs : List Value} {ls : List (List Int)} (h : OwnLL b e w v vs ls) (hw : Within lo hi w w') (ha : e ≤ lo ∨ hi ≤ b) : OwnLL b e w' v vs ls := by
  refine ⟨Nat.le_trans h.ends hw.size, h.len, ⟨h.row.1, ?_⟩, fun i hi => (h.own i hi).within hw (h.inr i hi) ha, h.inn, h.inr, h.apart⟩
  rcases h.row.2 with hn | ⟨g, cap, cur, rfl, hB, hg, rest⟩
  · exact .inl hn
  · refine .inr ⟨g, cap, cur, rfl, hB, (hw.block g (Array.getElem?_eq_some_iff.1 hg).1 ?_).trans hg, rest⟩
    have := h.inn g rfl; omega

def tot (ls : List (List Int)) : Nat := (ls.map List.length).sum
theorem tot_cons (l : List Int) (ls : List (List Int)) : tot (l :: ls) = l.length + tot ls := by simp [tot]
theorem tot_take_succ (ls : List (List Int)) (i : Nat) (h : i < ls.length) : tot (ls.take (i + 1)) = tot (ls.take i) + (ls.getD i []).length := by
  unfold tot
  rw [List.take_succ_eq_append_getElem h, List.map_append, List.sum_append_nat]
  simp [List.getD, h]
theorem tot_take_le (ls : List (List Int)) (i : Nat) : tot (ls.take i) ≤ tot ls := by
  have : tot ls = tot (ls.take i) + tot (ls.drop i) := by
    unfold tot
    rw [← List.sum_append_nat, ← List.map_append, List.take_append_drop]
  omega
theorem tot_le {K : Nat} : ∀ {ls : List (List Int)}, (∀ i, i < ls.length → (ls.getD i []).length ≤ K) → tot ls ≤ ls.length * K
  | [], _ => by simp [tot]
  | l :: r, h => by
    have h0 := h 0 (by simp)
    have h1 := tot_le (ls := r) (fun i hi => by have := h (i + 1) (by simpa using hi); simpa using this)
    rw [tot_cons, List.length_cons, Nat.add_mul]
    simp at h0
    omega
def marksLL (k : Int) : List (List Int) → List (List Int)
  | [] => []
  | l :: r => marks k l.length :: marksLL (k + (l.length : Int)) r
theorem marksLL_length : ∀ (k : Int) (ls : List (List Int)), (marksLL k ls).length = ls.length
  | k, [] => rfl
  | k, l :: r => by simp [marksLL, marksLL_length]
theorem marksLL_get : ∀ (ls : List (List Int)) (k : Int) (i : Nat), i < ls.length → (marksLL k ls).getD i [] = marks (k + (tot (ls.take i) : Int)) (ls.getD i []).length
  | [], k, i, h => by simp at h
  | l :: r, k, 0, h => by simp [marksLL, tot]
  | l :: r, k, i + 1, h => by
    have := marksLL_get r (k + (l.length : Int)) i (by simpa using h)
    simp only [marksLL, List.getD_cons_succ, this, List.take_succ_cons, tot_cons]
    congr 1
    push_cast; omega
theorem marksLL_tot : ∀ (k : Int) (ls : List (List Int)), tot (marksLL k ls) = tot ls
  | k, [] => rfl
  | k, l :: r => by rw [marksLL, tot_cons, tot_cons, marks_length, marksLL_tot]
/-- the first i rows marked -/
def curLL (k : Int) (ls : List (List Int)) (i : Nat) : List (List Int) := (marksLL k ls).take i ++ ls.drop i
theorem curLL_length (k : Int) (ls : List (List Int)) (i : Nat) : (curLL k ls i).length = ls.length := by
  simp [curLL, marksLL_length]; omega
theorem curLL_get (k : Int) (ls : List (List Int)) (i : Nat) (h : i < ls.length) : (curLL k ls i).getD i [] = ls.getD i [] := by
  have h1 : ((marksLL k ls).take i).length = i := by rw [List.length_take, marksLL_length]; omega
  rw [curLL, List.getD, List.getElem?_append_right (by omega), h1, Nat.sub_self]
  simp [List.getD]
theorem curLL_succ (k : Int) (ls : List (List Int)) (i : Nat) (h : i < ls.length) : (curLL k ls i).set i (marks (k + (tot (ls.take i) : Int)) (ls.getD i []).length) = curLL k ls (i + 1) := by
  have h1 : ((marksLL k ls).take i).length = i := by rw [List.length_take, marksLL_length]; omega
  have hm := marksLL_length k ls
  unfold curLL
  rw [List.set_append_right _ _ (by omega), h1, Nat.sub_self, List.drop_eq_getElem_cons h, List.set_cons_zero, List.take_succ_eq_append_getElem (show i < (marksLL k ls).length by omega), List.append_assoc, ← marksLL_get ls k i h]
  simp [List.getD, show i < (marksLL k ls).length by omega]

/-- a row marked -/
theorem OwnLL.marked {lo hi : Nat} {w w' : World} {v : Value} {vs : List Value} {ls : List (List Int)} {l : List Int} {i : Nat} (h : OwnLL lo hi w v vs ls) (hi' : i < ls.length) (hg : w.grownBy w' (rowV vs i).ownBlock) (hnew : Own lo w' (rowV vs i) l) :
    OwnLL lo hi w' v vs (ls.set i l) := by
  refine ⟨Nat.le_trans h.ends hg.size, by simp [h.len], ?_, fun j hj => ?_, h.inn, fun j hj => ?_, fun j j' hj hj' => ?_⟩
  · rw [List.length_set]
    exact World.ownsRow.kept h.row hg (by
      cases e : v.ownBlock with
      | none => exact .inl rfl
      | some k => exact .inr fun e' => own_apart (h.own i hi') h.row k e'.symm e)
  · rw [List.length_set] at hj
    by_cases e : i = j
    · subst e; rw [getD_setL_eq hi']; exact hnew
    · rw [getD_setL_ne e]
      exact World.ownsRow.kept (h.own j hj) hg (by
        cases e1 : (rowV vs j).ownBlock with
        | none => exact .inl rfl
        | some k => exact .inr fun e' => h.apart j i hj hi' (fun x => e x.symm) k e1 e'.symm)
  · rw [List.length_set] at hj; exact h.inr j hj
  · rw [List.length_set] at hj hj'; exact h.apart j j' hj hj'

def MarkedLL (lo hi : Nat) (w : World) (v : Value) (vs : List Value) (k : Int) (ls : List (List Int)) (e : Ending) (w' : World) : Prop :=
  e = .returned (.int .i64 (k + (tot ls : Int))) ∧ OwnLL lo hi w' v vs (marksLL k ls) ∧ Within lo hi w w'

theorem Own.get {B n c : Nat} {w : World} {a : Option Addr} {l : List Int} (h : Own B w (.slice a n c) l) (k : Nat) (hk : k < l.length) : ∃ g, a = some ⟨g, 0, none⟩ ∧ w.cell? ⟨g, k, none⟩ = some (.int .i64 (l.getD k 0)) := by
  rcases h.shape with ⟨_, rfl⟩ | ⟨g, c', hv, _⟩
  · simp at hk
  · simp only [Value.slice.injEq] at hv
    obtain ⟨rfl, rfl, rfl⟩ := hv
    exact ⟨g, rfl, h.cellAt k hk⟩

end Go.Proofs.Ytogjclmmjdhfeac
