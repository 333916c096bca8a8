/- slices.Concat of two rows of numbers. -/
import Derived.Test.YtgaaddfipkdlaaaShift
import Derived.Test.YtgaaddfipkdlaaaLayGrowP
namespace Go.Proofs.Ytgaaddfipkdlaaa
open Go.RowKit
set_option linter.unusedSimpArgs false
set_option linter.unusedVariables false

/-- 'append(v, u...)': v the call's own, u whatever reads as a list -/
theorem wp_appendP {ops : Array Oper} {rest : List Oper} {o : Oper} {a : Act} {Q : Exit → Act → World → Prop} (w : World)
    (hg : o.guard = none) (s x : Operand) (hop : o.op = Op.call { callee := Callee.builtin Builtin.append, args := #[s, x], argTypes := #[56, 56] })
    (B : Nat) (v u : Value) (xs ys : List Int) (hs : a.eval s = v) (hx : a.eval x = u) (hown : Own B w v xs) (hrd : Rd w u ys) (hlen : xs.length + ys.length ≤ 1000000000) (hB : B ≤ w.heap.size)
    (hK : ∀ v' w', Own B w' v' (xs ++ ys) → w.grownBy w' v.ownBlock → Below B w w' → wpList Try.prog ops Q rest (a.put o.dst v') w') :
    wpList Try.prog ops Q (o :: rest) a w := by
  obtain ⟨i0, hi, hz0, hz1, hz2⟩ := info_parts Try.info3
  obtain ⟨ad, c, rfl, hlc, hcm, hn, hc⟩ := hrd
  have fin : ∀ v' w', w'.ownsRow B 3 1 v' (xs.length + ys.length) (ints xs ++ ints ys) → w.grownBy w' v.ownBlock → wpList Try.prog ops Q rest (a.put o.dst v') w' := by
    intro v' w' h1 h2
    have h3 : Own B w' v' (xs ++ ys) := by
      unfold Own ints
      rw [List.length_append, List.map_append]
      exact h1
    exact hK v' w' h3 h2 (below_grown h2 hB fun k hk => (hown.lt k hk).1)
  cases ad with
  | none =>
    obtain rfl := hn rfl
    have hy : ys = [] := List.eq_nil_of_length_eq_zero (by omega)
    subst hy
    refine wpList_append_own_none hg s x 56 hop B 3 i0 1 Try.underlying56 hi v xs.length (ints xs) hs hown hx ?_
    exact fin v w (by simpa [ints, Own] using hown) (World.grownBy.refl _ _)
  | some x0 =>
    refine wpList_append_own w hg s x 56 hop B 3 i0 (.int .i64 0) 1 8 Try.underlying56 hi hz0 hz1 hz2 rfl (by decide) v xs.length (ints xs) hs hown x0 ys.length c (ints ys) hx (by simp [ints]) ?_ (ints_oneCell _ _) (by unfold maxLen; omega) (by omega) hB (fun v' w' h1 h2 _ => fin v' w' h1 h2)
    intro j y hj
    rcases hc with rfl | ⟨b, off, h1, h2⟩
    · simp [ints] at hj
    · simp at h1
      subst h1
      have hjl : j < ys.length := by
        have := (List.getElem?_eq_some_iff.1 hj).1
        simpa [ints] using this
      rw [Addr.add_lit, h2 j hjl]
      simp [ints, List.getElem?_eq_getElem hjl] at hj
      simp [List.getD, List.getElem?_eq_getElem hjl, hj]

theorem growP_any (z : Int) (n : Nat) (w : World) (hz : z = n) (hn : n ≤ 100000) : Calls Try.prog 62 #[.slice none 0 0, .int .i64 z] w (Made w []) := by
  subst hz
  obtain ⟨i0, hi, hz0, hz1, hz2⟩ := info_parts Try.info3
  by_cases h0 : n = 0
  · subst h0
    exact (Go.Proofs.Any8.slices_Grow_room layGrowP none 0 0 0 w (Nat.le_refl _) (by omega) (by omega) (Nat.le_refl _)).mono fun e w' ⟨h1, h2⟩ => ⟨_, h1, by rw [h2]; exact Own.nil _ _, by rw [h2]; exact Below.refl _ _⟩
  · have hc := Go.Proofs.Any8.slices_Grow_grow layGrowP i0 (.int .i64 0) hi hz0 (by rw [hz1]; omega) none 0 0 n [] w (Nat.le_refl _) (by omega) (by rw [hz2]; omega) (by omega) (by simp) (fun _ => rfl) (fun a h => by cases h)
    rw [show layGrowP_ren.t 25 = 3 from rfl] at hc
    refine hc.mono fun e w' ⟨h1, h2⟩ => ⟨_, h1, ?_, ?_⟩
    · rw [h2]
      have hG : 0 + n ≤ grownCap w (0 + n) 0 3 := grownCap_ge w _ _ _
      have hM := grownCap_le_maxLen w (0 + n) 0 3 (by unfold maxLen; omega)
      refine ⟨rfl, .inr ⟨w.heap.size, _, _, rfl, Nat.le_refl _, heap_alloc_new w.drew _, by simp, hM, ?_, by simp [ints]⟩⟩
      simp only [List.size_toArray, List.length_nil, Array.size_append]
      rw [size_zeroCells, size_zeroCells]
      simp only [Value.cells]
      show 0 + (0 + n - 0) * 1 + (_ - (0 + n)) * 1 = _ * 1
      omega
    · rw [h2]
      exact ((Below.refl _ w).drew).alloc (Nat.le_refl _) _

def lens2 (m n k : Nat) : Int := if k = 0 then 0 else if k = 1 then m else m + n
def rows2 (l1 l2 : List Int) (k : Nat) : List Int := if k = 0 then [] else if k = 1 then l1 else l1 ++ l2
set_option maxHeartbeats 2000000 in
set_option maxRecDepth 100000 in
theorem concatP_any (b : Nat) (u1 u2 : Value) (l1 l2 : List Int) (w : World) (hc0 : w.cell? ⟨b, 0, none⟩ = some u1) (hc1 : w.cell? ⟨b, 1, none⟩ = some u2) (h1 : Rd w u1 l1) (h2 : Rd w u2 l2) (m1 : l1.length ≤ 1000) (m2 : l2.length ≤ 1000) :
    Calls Try.prog 57 #[.slice (some ⟨b, 0, none⟩) 2 2] w (Made w (l1 ++ l2)) := by
  have H1 := Lib.hid h1; have H2 := Lib.hid h2; have M1 := Lib.hid m1; have M2 := Lib.hid m2
  obtain ⟨a1, c1, rfl, hl1, hm1⟩ : ∃ a c, u1 = .slice a l1.length c ∧ l1.length ≤ c ∧ c ≤ maxLen := by obtain ⟨a, c, rfl, x, y, _⟩ := h1; exact ⟨a, c, rfl, x, y⟩
  obtain ⟨a2, c2, rfl, hl2, hm2⟩ : ∃ a c, u2 = .slice a l2.length c ∧ l2.length ≤ c ∧ c ≤ maxLen := by obtain ⟨a, c, rfl, x, y, _⟩ := h2; exact ⟨a, c, rfl, x, y⟩
  unfold maxLen at hm1 hm2
  obtain ⟨n1, hn1⟩ : ∃ n, n = l1.length := ⟨_, rfl⟩
  obtain ⟨n2, hn2⟩ : ∃ n, n = l2.length := ⟨_, rfl⟩
  rw [← hn1] at H1 m1 hl1 hc0; rw [← hn2] at H2 m2 hl2 hc1
  have HN1 := Lib.hid hn1; have HN2 := Lib.hid hn2
  clear h1 h2 hn1 hn2
  have hp0 := World.block_lt_of_cell? w _ hc0
  have HC0 := Lib.hid hc0; have HC1 := Lib.hid hc1
  go_enter Try.func57, Try.ntmps57
  go_wp2
  go_loop [3, 11] (fun s i => ∃ k : Nat, k ≤ 2 ∧ i = .int .i64 k ∧ s = .int .i64 (lens2 n1 n2 k)) (fun _ i => 2 - (intOf i).toNat)
  case atStart => exact ⟨0, by omega, rfl, rfl⟩
  case round =>
    obtain ⟨k, hk, rfl, rfl⟩ := hrel
    have e3 : k = 0 ∨ k = 1 ∨ k = 2 := by omega
    rcases e3 with rfl | rfl | rfl
    · simp only [lens2, if_true]
      go_wp2
      go_round
      case rel => exact ⟨1, by omega, by go_num, by simp [lens2]⟩
      case measure => simp [intOf]
    · simp only [lens2, if_true, if_neg (show ¬ (1 = 0) by omega)]
      go_wp2
      go_round
      case rel => exact ⟨2, by omega, by go_num, by simp [lens2]⟩
      case measure => simp [intOf]
    · simp only [lens2, if_neg (show ¬ (2 = 0) by omega), if_neg (show ¬ (2 = 1) by omega)]
      have HG := Lib.hid (growP_any ((n1 : Int) + (n2 : Int)) (n1 + n2) w (by omega) (by omega))
      clear hc0 hc1
      go_wp2_with (go_at_call 62; ((with_reducible refine HG.out.mono ?_); rintro e w1 ⟨v1, rfl, ho1, hb1⟩))
      go_loopw [6, 27] (fun o i wr => ∃ k : Nat, k ≤ 2 ∧ i = .int .i64 k ∧ Own w.heap.size wr o (rows2 l1 l2 k) ∧ Below w.heap.size w wr) (fun _ i _ => 2 - (intOf i).toNat)
      case atStart => exact ⟨0, by omega, rfl, ho1, hb1⟩
      case round =>
        obtain ⟨k, hk, rfl, hown, hbel⟩ := hrel
        have d0 := (hbel.cell (p := ⟨b, 0, none⟩) hp0).trans HC0.out
        have d1 := (hbel.cell (p := ⟨b, 1, none⟩) hp0).trans HC1.out
        have hsz := hbel.size
        have e3 : k = 0 ∨ k = 1 ∨ k = 2 := by omega
        rcases e3 with rfl | rfl | rfl
        · go_wp2_with (at_builtin; refine wp_appendP _ rfl _ _ rfl w.heap.size _ _ [] l1 rfl rfl hown (H1.out.below hbel) (by have := M1.out; simp only [List.length_nil]; omega) hsz ?_; intro v' w2 hown1 hgr hbel1)
          go_roundw
          case rel => exact ⟨1, by omega, by go_num, by simpa [rows2] using hown1, hbel.trans hbel1⟩
          case measure => simp [intOf]
        · go_wp2_with (at_builtin; refine wp_appendP _ rfl _ _ rfl w.heap.size _ _ l1 l2 rfl rfl hown (H2.out.below hbel) (by have := M1.out; have := M2.out; omega) hsz ?_; intro v' w2 hown1 hgr hbel1)
          go_roundw
          case rel => exact ⟨2, by omega, by go_num, by simpa [rows2] using hown1, hbel.trans hbel1⟩
          case measure => simp [intOf]
        · go_wp2
          go_ret
          exact ⟨_, rfl, hown, hbel⟩
end Go.Proofs.Ytgaaddfipkdlaaa
