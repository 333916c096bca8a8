/- The model's lists with a stamp more: stListLess, spPut, spAdded. -/
import Derived.Test.YtnkkgbecdckigaaSpFold
import Derived.Test.YtnkkgbecdckigaaAddMath
import Derived.Test.YtnkkgbecdckigaaListsLaw
namespace Go.Proofs.Ytnkkgbecdckigaa
open Go.RowKit
set_option linter.unusedSimpArgs false
set_option linter.unusedVariables false

/-- 'append(v, u...)' on slices of slices: v the call's own header, u whatever lies there -/
theorem wp_appendV {ops : Array Oper} {rest : List Oper} {o : Oper} {a : Act} {Q : Exit → Act → World → Prop} (w : World)
    (hg : o.guard = none) (s x : Operand) (hop : o.op = Op.call { callee := Callee.builtin Builtin.append, args := #[s, x], argTypes := #[28, 28] })
    (B n m c : Nat) (v : Value) (xs ys : List Value) (ad : Option Addr) (hs : a.eval s = v) (hx : a.eval x = .slice ad m c) (hown : w.ownsRow B 22 1 v n xs)
    (hm : m = ys.length) (hc : ys = [] ∧ (ad = none → c = 0) ∨ ∃ g off, ad = some ⟨g, off, none⟩ ∧ ∀ j u, ys[j]? = some u → w.cell? ⟨g, off + j, none⟩ = some u) (hone : ∀ u ∈ ys, u.oneCell' = true) (hlen : n + m ≤ 1000000000) (hB : B ≤ w.heap.size)
    (hK : ∀ v' w', w'.ownsRow B 22 1 v' (n + m) (xs ++ ys) → w.grownBy w' v.ownBlock → Below B w w' → wpList Try.prog ops Q rest (a.put o.dst v') w') :
    wpList Try.prog ops Q (o :: rest) a w := by
  obtain ⟨i0, hi, hz0, hz1, hz2⟩ := info_parts Try.info22
  subst hm
  have fin : ∀ v' w', w'.ownsRow B 22 1 v' (n + ys.length) (xs ++ ys) → w.grownBy w' v.ownBlock → wpList Try.prog ops Q rest (a.put o.dst v') w' :=
    fun v' w' h1 h2 => hK v' w' h1 h2 (below_grown h2 hB fun k hk => (hown.lt k hk).1)
  cases ad with
  | none =>
    have hy : ys = [] ∧ c = 0 := by
      rcases hc with ⟨h, h2⟩ | ⟨g, off, h, _⟩
      · exact ⟨h, h2 rfl⟩
      · cases h
    obtain ⟨rfl, rfl⟩ := hy
    refine wpList_append_own_none hg s x 28 hop B 22 i0 1 Try.underlying28 hi v n xs hs hown hx ?_
    exact fin v w (by simpa using hown) (World.grownBy.refl _ _)
  | some x0 =>
    refine wpList_append_own w hg s x 28 hop B 22 i0 (.slice none 0 0) 1 24 Try.underlying28 hi hz0 hz1 hz2 rfl (by decide) v n xs hs hown x0 ys.length c ys hx (by simp) ?_ hone (by unfold maxLen; omega) (by omega) hB (fun v' w' h1 h2 _ => fin v' w' h1 h2)
    intro j y hj
    rcases hc with ⟨rfl, _⟩ | ⟨g, off, h1, h2⟩
    · simp at hj
    · simp at h1
      subst h1
      rw [Addr.add_lit]
      exact h2 j y hj

theorem LL_lit0 (B : Nat) (w : World) (hB : B ≤ w.heap.size) : (w.alloc (.cells #[] 22)).ownsRow B 22 1 (.slice (some ⟨w.heap.size, 0, none⟩) 0 0) 0 [] :=
  World.ownsRow_lit w #[] 0 hB (by unfold maxLen; omega) rfl

theorem OwnLL.ones {lo hi : Nat} {w : World} {v : Value} {vs : List Value} {ls : List (List Int)} (h : OwnLL lo hi w v vs ls) : ∀ u ∈ vs, u.oneCell' = true := by
  intro u hu
  obtain ⟨i, hi, rfl⟩ := List.mem_iff_getElem.1 hu
  have := h.own i (by rw [← h.len]; exact hi)
  rw [show rowV vs i = vs[i] by simp [rowV, List.getD, hi]] at this
  rcases this.2 with ⟨e, _⟩ | ⟨g, cap, cur, e, _⟩ <;> rw [e] <;> rfl

/-- rows kept, with one ahead of them, behind another header -/
theorem OwnLL.cons {lo hi B : Nat} {w w' : World} {v nv v' p : Value} {vs : List Value} {ls : List (List Int)} {l : List Int} {n : Nat} {xs : List Value} (h : OwnLL lo hi w v vs ls) (hp : Own lo w p l)
    (ap : ∀ i, i < ls.length → ∀ k, p.ownBlock = some k → (rowV vs i).ownBlock ≠ some k) (hn : w.ownsRow B 22 1 nv n xs)
    (hr : w'.ownsRow B 22 1 v' (ls.length + 1) (p :: vs)) (hg : w.grownBy w' nv.ownBlock) (hB : lo ≤ B) : OwnLL lo w'.heap.size w' v' (p :: vs) (l :: ls) := by
  have ko : ∀ u m C, Own C w u m → Own C w' u m := fun u m C hu => World.ownsRow.kept hu hg (by
    cases e : u.ownBlock with
    | none => exact .inl rfl
    | some k => exact .inr fun e' => own_apart hu hn k e e'.symm)
  have hsz := hg.size
  have hlen := h.len
  refine ⟨Nat.le_refl _, by simp [h.len], ⟨hr.1, ?_⟩, fun i hi => ?_, fun k hk => ?_, fun i hi k hk => ?_, fun i j hi hj hne k hk hk' => ?_⟩
  · rcases hr.2 with e | ⟨g, cap, cur, e, hB2, rest⟩
    · exact .inl e
    · exact .inr ⟨g, cap, cur, e, by omega, rest⟩
  · cases i with
    | zero => exact ko _ _ _ hp
    | succ i => exact ko _ _ _ (h.own i (by simpa using hi))
  · have := hr.lt k hk; omega
  · cases i with
    | zero => have := hp.lt k hk; omega
    | succ i => have := h.inr i (by simpa using hi) k hk; have := h.ends; omega
  · cases i with
    | zero =>
      cases j with
      | zero => exact hne rfl
      | succ j => exact ap j (by simpa using hj) k hk hk'
    | succ i =>
      cases j with
      | zero => exact ap i (by simpa using hi) k hk' hk
      | succ j => exact h.apart i j (by simpa using hi) (by simpa using hj) (by omega) k hk hk'

theorem lessL_nil (b : List Int) : lessL [] b = -(b.length : Int) := by cases b <;> rfl
theorem lessL_end {a b : List Int} {k : Nat} (ha : k = a.length) (hb : k ≤ b.length) : lessL (a.drop k) (b.drop k) = (a.length : Int) - (b.length : Int) := by
  rw [ha, List.drop_length, lessL_nil, List.length_drop]; omega
theorem lessL_out {a b : List Int} {k : Nat} (ha : k < a.length) (hb : b.length ≤ k) : lessL (a.drop k) (b.drop k) = 1 := by
  rw [List.drop_of_length_le hb, List.drop_eq_getElem_cons ha]
  rfl
theorem lessL_two {a b : List Int} {k : Nat} (ha : k < a.length) (hb : k < b.length) : lessL (a.drop k) (b.drop k) = if a.getD k 0 = b.getD k 0 then lessL (a.drop (k + 1)) (b.drop (k + 1)) else a.getD k 0 - b.getD k 0 := by
  rw [List.drop_eq_getElem_cons ha, List.drop_eq_getElem_cons hb, lessL]
  simp [List.getD, ha, hb]

set_option maxHeartbeats 1000000 in
theorem stListLess_any (u v : Value) (a b : List Int) (w : World) (ha : Rd w u a) (hb : Rd w v b) (hal : a.length ≤ 1000) (hbl : b.length ≤ 1000)
    (hax : ∀ k, k < a.length → -1000 ≤ a.getD k 0 ∧ a.getD k 0 ≤ 1000) (hbx : ∀ k, k < b.length → -1000 ≤ b.getD k 0 ∧ b.getD k 0 ≤ 1000) :
    Calls Try.prog 66 #[u, v] w fun e w' => e = .returned (.int .i64 (lessL a b)) ∧ w = w' := by
  obtain ⟨ad1, c1, rfl, hlc1, hcm1, hn1, hc1⟩ := ha
  obtain ⟨ad2, c2, rfl, hlc2, hcm2, hn2, hc2⟩ := hb
  unfold maxLen at hcm1 hcm2
  have HC1 := Lib.hid hc1; have HC2 := Lib.hid hc2; have HAX := Lib.hid hax; have HBX := Lib.hid hbx
  have HE := Lib.hid (fun k => @lessL_end a b k); have HO := Lib.hid (fun k => @lessL_out a b k); have HT := Lib.hid (fun k => @lessL_two a b k)
  clear hc1 hc2 hax hbx hn1 hn2
  have h0 : Hid (lessL a b = lessL (a.drop 0) (b.drop 0)) := Lib.hid rfl
  go_enter Try.func66, Try.ntmps66
  go_wp2
  go_loop [9] (fun i => ∃ k : Nat, k ≤ a.length ∧ k ≤ b.length ∧ i = .int .i64 k ∧ Hid (lessL a b = lessL (a.drop k) (b.drop k))) (fun i => a.length - (intOf i).toNat)
  case atStart => exact ⟨0, by omega, by omega, rfl, h0⟩
  case round =>
    clear h0
    obtain ⟨k, hk, hkb, rfl, he⟩ := hrel
    replace he := he.out
    by_cases hlt : k < a.length
    · obtain ⟨g1, off1, rfl, hr1⟩ : ∃ g off, ad1 = some ⟨g, off, none⟩ ∧ ∀ k, k < a.length → w.cell? ⟨g, off + k, none⟩ = some (.int .i64 (a.getD k 0)) := by
        rcases HC1.out with rfl | ⟨g, off, h1, h2⟩
        · simp at hlt
        · exact ⟨g, off, h1, h2⟩
      have hx1 := hr1 k hlt
      have hax := HAX.out k hlt
      by_cases hlb : k < b.length
      · obtain ⟨g2, off2, rfl, hr2⟩ : ∃ g off, ad2 = some ⟨g, off, none⟩ ∧ ∀ k, k < b.length → w.cell? ⟨g, off + k, none⟩ = some (.int .i64 (b.getD k 0)) := by
          rcases HC2.out with rfl | ⟨g, off, h1, h2⟩
          · simp at hlb
          · exact ⟨g, off, h1, h2⟩
        have hx2 := hr2 k hlb
        have hbx := HBX.out k hlb
        have ht := HT.out k hlt hlb
        rw [ht] at he
        clear hr1 hr2 ht
        generalize a.getD k 0 = x at *
        generalize b.getD k 0 = y at *
        have hw : IntKind.i64.wrap (x - y) = x - y := IntWalk.i64_in _ (by omega)
        by_cases e : x = y
        · rw [if_pos e] at he
          have HEQ := Lib.hid he
          clear he
          subst e
          go_wp2
          go_round
          case rel => exact ⟨k + 1, by omega, by omega, by go_num, HEQ⟩
          case measure => simp [intOf]; omega
        · rw [if_neg e] at he
          have HEQ := Lib.hid he
          clear he
          have hne : (x != y) = true := by simpa using e
          clear e
          go_wp2
          go_ret
          exact ⟨by rw [HEQ.out]; rfl, rfl⟩
      · have ho := HO.out k hlt (by omega)
        rw [ho] at he
        have HEQ := Lib.hid he
        clear he hr1
        go_wp2
        go_ret
        exact ⟨by rw [HEQ.out]; rfl, rfl⟩
    · obtain rfl : k = a.length := by omega
      have ho := HE.out a.length rfl hkb
      rw [ho] at he
      have HEQ := Lib.hid he
      clear he
      have hw : IntKind.i64.wrap ((a.length : Int) - (b.length : Int)) = (a.length : Int) - (b.length : Int) := IntWalk.i64_in _ (by omega)
      go_wp2
      go_ret
      exact ⟨by rw [HEQ.out]; rfl, rfl⟩

end Go.Proofs.Ytnkkgbecdckigaa
