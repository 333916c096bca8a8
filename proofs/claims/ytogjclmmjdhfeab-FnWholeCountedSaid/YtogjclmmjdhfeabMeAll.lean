/- meAll: the model's list of meanders. CountMeanders. -/
import Derived.Test.YtogjclmmjdhfeabCountComp
import Derived.Test.YtogjclmmjdhfeabFlip
namespace Go.Proofs.Ytogjclmmjdhfeab
open Go.RowKit
set_option linter.unusedSimpArgs false
set_option linter.unusedVariables false

def clN (n : Nat) (p : List Int) : List (List Int) := (allL n).filter (closeB p 1)
def mcJ (n : Nat) (L : List (List Int)) : List (List Int × List Int) := L.flatMap (fun p => (clN n p).map (fun q => (p, q)))
theorem mcJ_succ (n : Nat) (L : List (List Int)) (k : Nat) (hk : k < L.length) : mcJ n (L.take (k + 1)) = mcJ n (L.take k) ++ (clN n (L.getD k [])).map (fun q => (L.getD k [], q)) := by
  unfold mcJ
  rw [List.take_add_one, List.flatMap_append]
  simp [List.getElem?_eq_getElem hk, List.getD]
theorem among_pairsN (n : Nat) : amongL (pairsN n) = mcJ n (allL n) := by
  unfold amongL pairsN upJ mcJ clN
  rw [List.filter_flatMap]
  congr 1
  funext p
  rw [List.filter_map]
  congr 1
  refine List.filter_congr fun q _ => ?_
  show decide (compsL p q = 1) = (((compsL p q : Nat) : Int) == 1)
  rw [Bool.eq_iff_iff]
  simp
  omega
theorem mcJ_le (n : Nat) (hn : n ≤ 4) : ∀ L : List (List Int), (mcJ n L).length ≤ L.length * 14
  | [] => by simp [mcJ]
  | p :: r => by
    have h1 := mcJ_le n hn r
    have h2 : (clN n p).length ≤ 14 := Nat.le_trans (List.length_filter_le _ _) (allL_14 hn)
    unfold mcJ at h1 ⊢
    simp only [List.flatMap_cons, List.length_append, List.length_map, List.length_cons]
    rw [Nat.succ_mul]; omega

/-- a slice of pairs of lists, all of it the call's own -/
def cellsML (es : List (Value × Value)) : List Value := es.flatMap (fun e => [e.1, e.2])
theorem cellsML_len : ∀ es : List (Value × Value), (cellsML es).length = es.length * 2
  | [] => rfl
  | e :: r => by
    have := cellsML_len r
    unfold cellsML at this ⊢
    simp only [List.flatMap_cons, List.length_append, List.length_cons, List.length_nil]; omega
def noV : Value × Value := (.slice none 0 0, .slice none 0 0)
def OwnML (lo : Nat) (w : World) (v : Value) (es : List (Value × Value)) (ps : List (List Int × List Int)) : Prop :=
  w.ownsRow lo 26 2 v ps.length (cellsML es) ∧ es.length = ps.length ∧ ∀ i, i < ps.length → Own lo w (es.getD i noV).1 (ps.getD i ([], [])).1 ∧ Own lo w (es.getD i noV).2 (ps.getD i ([], [])).2 ∧ ApartV (es.getD i noV).1 (es.getD i noV).2
theorem OwnML.nil (lo : Nat) (w : World) : OwnML lo w (.slice none 0 0) [] [] := ⟨World.ownsRow_nil w lo _ _, rfl, fun i hi => by simp at hi⟩
theorem OwnML.below {lo : Nat} {w w' : World} {v : Value} {es : List (Value × Value)} {ps : List (List Int × List Int)} (h : OwnML lo w v es ps) (hb : Below w.heap.size w w') : OwnML lo w' v es ps := by
  refine ⟨⟨h.1.1, ?_⟩, h.2.1, fun i hi => ⟨(h.2.2 i hi).1.below hb, (h.2.2 i hi).2.1.below hb, (h.2.2 i hi).2.2⟩⟩
  rcases h.1.2 with hn | ⟨g, cap, cur, hv, hB, hg, rest⟩
  · exact .inl hn
  · exact .inr ⟨g, cap, cur, hv, hB, (hb.block g (Array.getElem?_eq_some_iff.1 hg).1).trans hg, rest⟩
theorem OwnML.form {lo : Nat} {w : World} {v : Value} {es : List (Value × Value)} {ps : List (List Int × List Int)} (h : OwnML lo w v es ps) : ∃ a c, v = .slice a ps.length c ∧ ps.length ≤ c ∧ c ≤ maxLen := by
  rcases h.1.2 with ⟨rfl, hn⟩ | ⟨g, cap, cur, hv, hB, hg, hnc, hcm, _⟩
  · exact ⟨none, 0, by rw [hn], by omega, by unfold maxLen; omega⟩
  · exact ⟨_, cap, hv, hnc, hcm⟩
theorem own_apartM {B B' n : Nat} {w : World} {u v : Value} {l : List Int} {xs : List Value} (h : Own B w u l) (hv : w.ownsRow B' 26 2 v n xs) : ∀ k, u.ownBlock = some k → v.ownBlock ≠ some k := by
  intro k hk hk'
  rcases h.2 with ⟨rfl, _⟩ | ⟨g, cap, cur, rfl, _, hg, _⟩
  · cases hk
  rcases hv.2 with ⟨rfl, _⟩ | ⟨g', cap', cur', rfl, _, hg', _⟩
  · cases hk'
  simp [Value.ownBlock] at hk hk'
  subst hk; subst hk'
  rw [hg] at hg'
  simp at hg'
theorem OwnML.snoc {lo : Nat} {w w' : World} {v v' u1 u2 : Value} {es : List (Value × Value)} {ps : List (List Int × List Int)} {l1 l2 : List Int} (h : OwnML lo w v es ps) (h1 : Own lo w u1 l1) (h2 : Own lo w u2 l2) (ha : ApartV u1 u2)
    (hr : w'.ownsRow lo 26 2 v' (ps.length + 1) (cellsML es ++ [u1, u2])) (hg : w.grownBy w' v.ownBlock) : OwnML lo w' v' (es ++ [(u1, u2)]) (ps ++ [(l1, l2)]) := by
  have ko : ∀ u m B, Own B w u m → Own B w' u m := fun u m B hu => World.ownsRow.kept hu hg (by
    cases e : u.ownBlock with
    | none => exact .inl rfl
    | some k => exact .inr fun e' => own_apartM hu h.1 k e e'.symm)
  refine ⟨?_, by simp [h.2.1], fun i hi => ?_⟩
  · have : cellsML (es ++ [(u1, u2)]) = cellsML es ++ [u1, u2] := by simp [cellsML]
    rw [this, List.length_append]
    exact hr
  · rw [List.length_append] at hi
    have hl := h.2.1
    by_cases e : i < ps.length
    · have e1 : (es ++ [(u1, u2)]).getD i noV = es.getD i noV := by simp [List.getD, List.getElem?_append_left (show i < es.length by omega)]
      have e2 : (ps ++ [(l1, l2)]).getD i ([], []) = ps.getD i ([], []) := by simp [List.getD, List.getElem?_append_left e]
      rw [e1, e2]
      have := h.2.2 i e
      exact ⟨ko _ _ _ this.1, ko _ _ _ this.2.1, this.2.2⟩
    · have hi' : i = ps.length := by simp at hi; omega
      have e1 : (es ++ [(u1, u2)]).getD i noV = (u1, u2) := by rw [hi', ← hl]; simp [List.getD]
      have e2 : (ps ++ [(l1, l2)]).getD i ([], []) = (l1, l2) := by rw [hi']; simp [List.getD]
      rw [e1, e2]
      exact ⟨ko _ _ _ h1, ko _ _ _ h2, ha⟩

theorem mea_zero : (Try.prog.info? 26).map (fun i => (i.zero, i.size, i.bytes)) = some (some (.agg #[.slice none 0 0, .slice none 0 0]), 2, 48) := by kernel_rfl

theorem wp_appendML {ops : Array Oper} {rest : List Oper} {o : Oper} {a : Act} {Q : Exit → Act → World → Prop} (w : World)
    (hg : o.guard = none) (s x : Operand) (hop : o.op = Op.call { callee := Callee.builtin Builtin.append, args := #[s, x], argTypes := #[84, 84] })
    (lo g : Nat) (v u1 u2 : Value) (es : List (Value × Value)) (ps : List (List Int × List Int)) (l1 l2 : List Int) (hs : a.eval s = v) (hx : a.eval x = .slice (some ⟨g, 0, none⟩) 1 1) (hc0 : w.cell? ⟨g, 0, none⟩ = some u1) (hc1 : w.cell? ⟨g, 1, none⟩ = some u2)
    (hown : OwnML lo w v es ps) (h1 : Own lo w u1 l1) (h2 : Own lo w u2 l2) (ha : ApartV u1 u2) (hlen : ps.length ≤ 1000000) (hB : lo ≤ w.heap.size)
    (hK : ∀ v' w', OwnML lo w' v' (es ++ [(u1, u2)]) (ps ++ [(l1, l2)]) → w.grownBy w' v.ownBlock → Below lo w w' → (∀ k, v'.ownBlock = some k → v.ownBlock = some k ∨ w.heap.size ≤ k) → wpList Try.prog ops Q rest (a.put o.dst v') w') :
    wpList Try.prog ops Q (o :: rest) a w := by
  obtain ⟨i0, hi0, hz0, hz1, hz2⟩ := info_parts mea_zero
  have one : ∀ (u : Value) (l : List Int), Own lo w u l → u.oneCell' = true := by
    intro u l hu
    rcases hu.2 with ⟨rfl, _⟩ | ⟨g, cap, cur, rfl, _⟩ <;> rfl
  have hnews : ∀ j u, ([u1, u2] : List Value)[j]? = some u → w.cell? ((⟨g, 0, none⟩ : Addr).add j) = some u := by
    intro j u hj
    rw [Addr.add_mid, Nat.zero_add]
    have hlt : j < 2 := (List.getElem?_eq_some_iff.1 hj).1
    have : j = 0 ∨ j = 1 := by omega
    rcases this with rfl | rfl
    · simp at hj; subst hj; exact hc0
    · simp at hj; subst hj; exact hc1
  have hones : ∀ u ∈ ([u1, u2] : List Value), u.oneCell' = true := fun u hu => by
    simp at hu
    rcases hu with rfl | rfl
    · exact one _ _ h1
    · exact one _ _ h2
  obtain ⟨v', w', hr, r1, r2, _⟩ := run_append_own (P := Try.prog) w lo 84 o.type 26 i0 _ 2 48 Try.underlying84 hi0 hz0 hz1 hz2 rfl (by decide) v ps.length (cellsML es) hown.1 ⟨g, 0, none⟩ 1 1 [u1, u2] rfl hnews hones (by unfold maxLen; omega) (by omega) hB
  have h3 := append_where w lo 84 o.type 26 i0 _ 2 48 Try.underlying84 hi0 hz0 hz1 hz2 rfl (by decide) v ps.length (cellsML es) hown.1 ⟨g, 0, none⟩ 1 1 [u1, u2] rfl hnews hones (by unfold maxLen; omega) (by omega) hB v' w' hr
  refine wpList_plain hg fun _ hK' => ?_
  unfold Oper.wp execOp
  simp only [hop, resolve, invoke, builtin, Sem.run_bind, Sem.run_pure, Result.andThen_ok, List.map_toArray, List.map_cons, List.map_nil, hs, hx, hr]
  exact hK' _ _ (hK v' w' (hown.snoc h1 h2 ha r1 r2) r2 (below_grown r2 hB fun k hk => (hown.1.lt k hk).1) h3)

end Go.Proofs.Ytogjclmmjdhfeab
