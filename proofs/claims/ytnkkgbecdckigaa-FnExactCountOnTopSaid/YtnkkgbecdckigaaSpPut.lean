/- The model's spPut: a list put into an ordered one. -/
import Derived.Test.YtnkkgbecdckigaaSpAdd
import Derived.Test.YtnkkgbecdckigaaPutMath
namespace Go.Proofs.Ytnkkgbecdckigaa
open Go.RowKit
set_option linter.unusedSimpArgs false
set_option linter.unusedVariables false

theorem rowV_ins {vs : List Value} {k : Nat} (p : Value) (h : k ≤ vs.length) (i : Nat) : rowV (insAt vs k p) i = if i < k then rowV vs i else if i = k then p else rowV vs (i - 1) := insAt_getD p _ h i

/-- rows kept, with one among them, behind a new header -/
theorem OwnLL.put {lo hi B : Nat} {w w' : World} {v v' p : Value} {vs : List Value} {ls : List (List Int)} {l : List Int} {k : Nat} (h : OwnLL lo hi w v vs ls) (hp : Own lo w p l)
    (ap : ∀ i, i < ls.length → ∀ k, p.ownBlock = some k → (rowV vs i).ownBlock ≠ some k) (hk : k ≤ ls.length)
    (hr : w'.ownsRow B 22 1 v' (ls.length + 1) (insAt vs k p)) (hB : lo ≤ B) (hb : Below w.heap.size w w') : OwnLL lo w'.heap.size w' v' (insAt vs k p) (insAt ls k l) := by
  have hlen := h.len
  have hkv : k ≤ vs.length := by omega
  have hl : (insAt ls k l).length = ls.length + 1 := insAt_length _ _ _
  have hpos : ∀ i, i < ls.length + 1 → (i < k ∧ i < ls.length) ∨ i = k ∨ (k < i ∧ i - 1 < ls.length) := fun i hi => by omega
  refine ⟨Nat.le_refl _, by rw [insAt_length, hl, hlen], ?_, fun i hi => ?_, fun j hj => ?_, fun i hi j hj => ?_, fun i j hi hj hne q hq hq' => ?_⟩
  · rw [hl]
    refine ⟨hr.1, ?_⟩
    rcases hr.2 with e | ⟨g, cap, cur, e, hB2, rest⟩
    · exact .inl e
    · exact .inr ⟨g, cap, cur, e, by omega, rest⟩
  · rw [hl] at hi
    rw [rowV_ins p hkv, insAt_getD l [] hk]
    rcases hpos i hi with ⟨h1, h2⟩ | h1 | ⟨h1, h2⟩
    · simp only [if_pos h1]; exact (h.own i h2).below hb
    · have h0 : ¬ i < k := by omega
      simp only [if_neg h0, if_pos h1]; exact hp.below hb
    · have h0 : ¬ i < k := by omega
      have h3 : ¬ i = k := by omega
      simp only [if_neg h0, if_neg h3]; exact (h.own _ h2).below hb
  · have := hr.lt j hj; omega
  · rw [hl] at hi
    rw [rowV_ins p hkv] at hj
    have hs := hb.size
    have he := h.ends
    rcases hpos i hi with ⟨h1, h2⟩ | h1 | ⟨h1, h2⟩
    · rw [if_pos h1] at hj; have := h.inr i h2 j hj; omega
    · rw [if_neg (by omega), if_pos h1] at hj; have := hp.lt j hj; omega
    · rw [if_neg (by omega), if_neg (by omega)] at hj; have := h.inr _ h2 j hj; omega
  · rw [hl] at hi hj
    rw [rowV_ins p hkv] at hq hq'
    rcases hpos i hi with ⟨h1, h2⟩ | h1 | ⟨h1, h2⟩
    · rw [if_pos h1] at hq
      rcases hpos j hj with ⟨h3, h4⟩ | h3 | ⟨h3, h4⟩
      · rw [if_pos h3] at hq'; exact h.apart i j h2 h4 hne q hq hq'
      · rw [if_neg (by omega), if_pos h3] at hq'; exact ap i h2 q hq' hq
      · rw [if_neg (by omega), if_neg (by omega)] at hq'; exact h.apart i _ h2 h4 (by omega) q hq hq'
    · rw [if_neg (by omega), if_pos h1] at hq
      rcases hpos j hj with ⟨h3, h4⟩ | h3 | ⟨h3, h4⟩
      · rw [if_pos h3] at hq'; exact ap j h4 q hq hq'
      · omega
      · rw [if_neg (by omega), if_neg (by omega)] at hq'; exact ap _ h4 q hq hq'
    · rw [if_neg (by omega), if_neg (by omega)] at hq
      rcases hpos j hj with ⟨h3, h4⟩ | h3 | ⟨h3, h4⟩
      · rw [if_pos h3] at hq'; exact h.apart _ j h2 h4 (by omega) q hq hq'
      · rw [if_neg (by omega), if_pos h3] at hq'; exact ap _ h2 q hq' hq
      · rw [if_neg (by omega), if_neg (by omega)] at hq'; exact h.apart _ _ h2 h4 (by omega) q hq hq'

def Small (l : List Int) : Prop := l.length ≤ 1000 ∧ ∀ k, k < l.length → -1000 ≤ l.getD k 0 ∧ l.getD k 0 ≤ 1000
theorem lessS_any (u v : Value) (a b : List Int) (w : World) (ha : Rd w u a) (hb : Rd w v b) (sa : Small a) (sb : Small b) :
    Calls Try.prog 66 #[u, v] w fun e w' => e = .returned (.int .i64 (lessL a b)) ∧ w = w' := stListLess_any u v a b w ha hb sa.1 sb.1 sa.2 sb.2

/-- cells of a part of a slice of slices -/
theorem LL_part {lo hi n c : Nat} {a : Option Addr} {w : World} {vs : List Value} {ls : List (List Int)} (h : OwnLL lo hi w (.slice a n c) vs ls) (k m : Nat) (hkm : k + m ≤ ls.length) (hm : 0 < m) :
    ∃ g, a = some ⟨g, 0, none⟩ ∧ ∀ j u, ((vs.drop k).take m)[j]? = some u → w.cell? ⟨g, k + j, none⟩ = some u := by
  obtain ⟨g, ha, _, _, hc, _⟩ := h.at (by omega)
  refine ⟨g, ha, fun j u hj => ?_⟩
  have hlen := h.len
  have hjm : j < m := by
    have := (List.getElem?_eq_some_iff.1 hj).1
    rw [List.length_take] at this; omega
  rw [hc (k + j) (by omega)]
  rw [List.getElem?_take_of_lt hjm, List.getElem?_drop] at hj
  simp [rowV, List.getD, hj]

theorem LL_hc {lo hi n c g : Nat} {w w' : World} {vs : List Value} {ls : List (List Int)} (h : OwnLL lo hi w (.slice (some ⟨g, 0, none⟩) n c) vs ls) (hb : Below w.heap.size w w') (k m : Nat) (hkm : k + m ≤ ls.length) (c1 : Nat) :
    ((vs.drop k).take m = [] ∧ (some (⟨g, k, none⟩ : Addr) = none → c1 = 0)) ∨ ∃ g' off, some (⟨g, k, none⟩ : Addr) = some ⟨g', off, none⟩ ∧ ∀ j u, ((vs.drop k).take m)[j]? = some u → w'.cell? ⟨g', off + j, none⟩ = some u := by
  refine .inr ⟨g, k, rfl, fun j u hj => ?_⟩
  have hm : 0 < m := by
    have := (List.getElem?_eq_some_iff.1 hj).1
    rw [List.length_take] at this; omega
  obtain ⟨g', e, hc⟩ := LL_part h k m hkm hm
  simp only [Option.some.injEq, Addr.mk.injEq, and_true] at e
  subst e
  have := hc j u hj
  exact (hb.cell (p := ⟨g, k + j, none⟩) (World.block_lt_of_cell? w _ this)).trans this
theorem ones_part {lo hi : Nat} {w : World} {v : Value} {vs : List Value} {ls : List (List Int)} (h : OwnLL lo hi w v vs ls) (k m : Nat) : ∀ u ∈ (vs.drop k).take m, u.oneCell' = true :=
  fun u hu => h.ones u (List.mem_of_mem_drop (List.mem_of_mem_take hu))
theorem Own.one {B : Nat} {w : World} {v : Value} {l : List Int} (h : Own B w v l) : ∀ u ∈ [v], u.oneCell' = true := by
  intro u hu
  rw [List.mem_singleton] at hu
  subst hu
  rcases h.2 with ⟨e, _⟩ | ⟨g, cap, cur, e, _⟩ <;> rw [e] <;> rfl

theorem lit1_cells (w : World) (p : Value) (T : TypeId) : ∀ j u, ([p] : List Value)[j]? = some u → (w.alloc (.cells #[p] T)).cell? ⟨w.heap.size, 0 + j, none⟩ = some u := by
  intro j u hj
  have : j = 0 := by
    have := (List.getElem?_eq_some_iff.1 hj).1
    simpa using this
  subst this
  simp at hj
  subst hj
  exact cell_lit1 w p T
theorem put_chain {w w1 w2 : World} {A A' : Obj} (h1 : Below w.heap.size (w.alloc A) w1) (h2 : Below w.heap.size (w1.alloc A') w2) : Below w.heap.size w w2 :=
  (((Below.alloc1 w A).trans h1).alloc (by have := h1.size; simp at this; omega) A').trans h2
theorem ins_row {vs : List Value} {p : Value} {k n : Nat} (h : vs.length = n) : [] ++ (vs.drop 0).take k ++ [p] ++ (vs.drop k).take (n - k) = insAt vs k p := by
  have e : (vs.drop k).take (n - k) = vs.drop k := List.take_of_length_le (by rw [List.length_drop]; omega)
  rw [e, List.nil_append, List.drop_zero, List.append_assoc]
  rfl

def PutIn (lo : Nat) (w : World) (p : Value) (vs : List Value) (ls : List (List Int)) (l : List Int) (e : Ending) (w' : World) : Prop :=
  ∃ v', e = .returned v' ∧ OwnLL lo w'.heap.size w' v' (insAt vs (putK ls l) p) (putL ls l) ∧ In v' w.heap.size w'.heap.size ∧ Below w.heap.size w w'
theorem put_done {lo hi k : Nat} {w w2 w3 : World} {v p v3 : Value} {vs : List Value} {ls : List (List Int)} {l : List Int} (h : OwnLL lo hi w v vs ls) (hp : Own lo w p l) (hlo : lo ≤ w.heap.size)
    (ap : ∀ i, i < ls.length → ∀ k, p.ownBlock = some k → (rowV vs i).ownBlock ≠ some k) (hk : k ≤ ls.length) (hN : putK ls l = k)
    (hr : w3.ownsRow w.heap.size 22 1 v3 (0 + k + 1 + (ls.length - k)) ([] ++ (vs.drop 0).take k ++ [p] ++ (vs.drop k).take (ls.length - k))) (h2 : Below w.heap.size w w2) (h3 : Below w.heap.size w2 w3) : PutIn lo w p vs ls l (.returned v3) w3 := by
  rw [ins_row h.len, show 0 + k + 1 + (ls.length - k) = ls.length + 1 by omega] at hr
  refine ⟨_, rfl, ?_, fun k hk => hr.lt k hk, h2.trans h3⟩
  unfold putL
  rw [hN]
  exact h.put hp ap hk hr hlo (h2.trans h3)

set_option maxHeartbeats 4000000 in
set_option maxRecDepth 100000 in
theorem spPut_row (lo hi g c0 : Nat) (p : Value) (vs : List Value) (ls : List (List Int)) (l : List Int) (w : World) (h : OwnLL lo hi w (.slice (some ⟨g, 0, none⟩) ls.length c0) vs ls) (hp : Own lo w p l) (hlo : lo ≤ w.heap.size)
    (hlc : ls.length ≤ c0) (hcm : c0 ≤ maxLen)
    (ap : ∀ i, i < ls.length → ∀ k, p.ownBlock = some k → (rowV vs i).ownBlock ≠ some k) (hn : ls.length ≤ 100000) (hs : ∀ i, i < ls.length → Small (ls.getD i [])) (hsl : Small l) :
    Calls Try.prog 45 #[.slice (some ⟨g, 0, none⟩) ls.length c0, p] w (PutIn lo w p vs ls l) := by
  unfold maxLen at hcm
  obtain ⟨p1, p2, p3, rfl⟩ := hp.form'
  have HLESS := Lib.hid (fun k (hk : k < ls.length) hr => lessS_any (rowV vs k) (.slice p1 p2 p3) (ls.getD k []) l w (h.own k hk).rd hr (hs k hk) hsl)
  have HPK := Lib.hid (fun k => @putK_of ls l k)
  have HP := Lib.hid hp; have H := Lib.hid h; have HAP := Lib.hid ap; have HLEN := Lib.hid h.len
  clear hs hsl ap hp h
  go_enter Try.func45, Try.ntmps45
  go_wp2
  go_loop [5] (fun i => ∃ k : Nat, k ≤ ls.length ∧ i = .int .i64 k ∧ Hid (∀ j, j < k → lessL (ls.getD j []) l < 0)) (fun i => ls.length - (intOf i).toNat)
  case atStart => exact ⟨0, by omega, rfl, Lib.hid (fun j hj => absurd hj (Nat.not_lt_zero _))⟩
  case round =>
    obtain ⟨k, hk, rfl, HB⟩ := hrel
    by_cases hlt : k < ls.length
    · obtain ⟨g', e', _, _, hcell, _⟩ := H.out.at (by omega)
      simp only [Option.some.injEq, Addr.mk.injEq, and_true] at e'
      subst e'
      have hck := hcell k hlt
      have hcall := HLESS.out k hlt HP.out.rd
      have hpk := HPK.out k hk HB.out
      have hst : lessL (ls.getD k []) l < 0 → Hid (∀ j, j < k + 1 → lessL (ls.getD j []) l < 0) := fun h j hj => by
        by_cases e : j < k
        · exact HB.out j e
        · obtain rfl : j = k := by omega
          exact h
      generalize lessL (ls.getD k []) l = x at *
      have HC := Lib.hid hcall; have HST := Lib.hid hst; have HPK2 := Lib.hid hpk
      clear hcell hcall hst hpk
      by_cases hx : x < 0
      · have HN := Lib.hid (HST.out hx)
        go_wp2_with (go_at_call 66; refine HC.out.mono ?_; rintro e w' ⟨rfl, rfl⟩)
        go_round
        case rel => exact ⟨k + 1, by omega, by go_num, HN⟩
        case measure => simp [intOf]; omega
      · have HN := Lib.hid (HPK2.out (.inr (by omega)))
        have h1 := Lib.hid (LL_hc H.out (w' := w.alloc (.cells #[] 22)) (Below.alloc1 _ _) 0 k (by omega) c0)
        have hl1 : k = ((vs.drop 0).take k).length := by rw [List.length_take, List.length_drop, HLEN.out]; omega
        have HL1 := Lib.hid hl1; clear hl1
        have hl2 : ls.length - k = ((vs.drop k).take (ls.length - k)).length := by rw [List.length_take, List.length_drop, HLEN.out]; omega
        have HL2 := Lib.hid hl2; clear hl2
        have hck2 : ¬ c0 = k := by omega
        have h2 := Lib.hid (fun w' hb => LL_hc H.out (w' := w') hb k (ls.length - k) (by omega) (c0 - k))
        go_wp2_with (first
          | (go_at_call 66; refine HC.out.mono ?_; rintro e w' ⟨rfl, rfl⟩)
          | (at_builtin; refine wp_appendV _ rfl (.tmp 26) (.tmp 28) rfl w.heap.size (0 + k) 1 1 v1 ([] ++ (vs.drop 0).take k) [.slice p1 p2 p3] (some ⟨w1.heap.size, 0, none⟩) rfl rfl (ownsRow_below hr1.out (Below.alloc1 _ _)) rfl (.inr ⟨w1.heap.size, 0, rfl, lit1_cells w1 _ _⟩) (Own.one HP.out) (by omega) (by have := hb1.out.size; simp at this ⊢; omega) ?_; intro v2 w2 hr2 hg2 hb2; replace hr2 := Lib.hid hr2; replace hb2 := Lib.hid hb2; clear hg2)
          | (at_builtin; refine wp_appendV _ rfl (.tmp 30) (.tmp 33) rfl w.heap.size (0 + k + 1) (ls.length - k) (c0 - k) v2 ([] ++ (vs.drop 0).take k ++ [.slice p1 p2 p3]) ((vs.drop k).take (ls.length - k)) (some ⟨g, k, none⟩) rfl rfl hr2.out HL2.out (h2.out _ (put_chain hb1.out hb2.out)) (ones_part H.out k _) (by omega) (by have := (put_chain hb1.out hb2.out).size; omega) ?_; intro v3 w3 hr3 hg3 hb3; replace hr3 := Lib.hid hr3; replace hb3 := Lib.hid hb3; clear hg3)
          | (at_builtin; refine wp_appendV _ rfl (.tmp 22) (.tmp 25) rfl w.heap.size 0 k c0 _ [] ((vs.drop 0).take k) (some ⟨g, 0, none⟩) rfl rfl (LL_lit0 _ w (Nat.le_refl _)) HL1.out h1.out (ones_part H.out 0 k) (by omega) (by simp) ?_; intro v1 w1 hr1 hg1 hb1; replace hr1 := Lib.hid hr1; replace hb1 := Lib.hid hb1; clear hg1)
          | fail)
        go_ret
        exact put_done H.out HP.out hlo HAP.out hk HN.out hr3.out (put_chain hb1.out hb2.out) hb3.out
    · have HN := Lib.hid (HPK.out k hk HB.out (.inl (by omega)))
      have hk2 : k = ls.length := by omega
      have HK2 := Lib.hid hk2
      by_cases hck2 : c0 = k
      · obtain rfl : c0 = k := hck2
        clear hk2
        have h1 := Lib.hid (LL_hc H.out (w' := w.alloc (.cells #[] 22)) (Below.alloc1 _ _) 0 c0 (by omega) c0)
        have hl1 : c0 = ((vs.drop 0).take c0).length := by rw [List.length_take, List.length_drop, HLEN.out]; omega
        have HL1 := Lib.hid hl1; clear hl1
        have hl2 : 0 = ((vs.drop c0).take (ls.length - c0)).length := by rw [List.length_take, List.length_drop, HLEN.out]; omega
        have HL2 := Lib.hid hl2; clear hl2
        have h2 : Hid (∀ w' : World, Below w.heap.size w w' → ((vs.drop c0).take (ls.length - c0) = [] ∧ (some (⟨g, 0, none⟩ : Addr) = none → (0 : Nat) = 0)) ∨ ∃ g' off, some (⟨g, 0, none⟩ : Addr) = some ⟨g', off, none⟩ ∧ ∀ j u, ((vs.drop c0).take (ls.length - c0))[j]? = some u → w'.cell? ⟨g', off + j, none⟩ = some u) :=
          fun w' hb => .inl ⟨by rw [HK2.out, Nat.sub_self, List.take_zero], fun h => by cases h⟩
        go_wp2_with (first
          | (at_builtin; refine wp_appendV _ rfl (.tmp 26) (.tmp 28) rfl w.heap.size (0 + c0) 1 1 v1 ([] ++ (vs.drop 0).take c0) [.slice p1 p2 p3] (some ⟨w1.heap.size, 0, none⟩) rfl rfl (ownsRow_below hr1.out (Below.alloc1 _ _)) rfl (.inr ⟨w1.heap.size, 0, rfl, lit1_cells w1 _ _⟩) (Own.one HP.out) (by omega) (by have := hb1.out.size; simp at this ⊢; omega) ?_; intro v2 w2 hr2 hg2 hb2; replace hr2 := Lib.hid hr2; replace hb2 := Lib.hid hb2; clear hg2)
          | (at_builtin; refine wp_appendV _ rfl (.tmp 30) (.tmp 33) rfl w.heap.size (0 + c0 + 1) 0 0 v2 ([] ++ (vs.drop 0).take c0 ++ [.slice p1 p2 p3]) ((vs.drop c0).take (ls.length - c0)) (some ⟨g, 0, none⟩) rfl rfl hr2.out HL2.out (h2.out _ (put_chain hb1.out hb2.out)) (ones_part H.out c0 _) (by omega) (by have := (put_chain hb1.out hb2.out).size; omega) ?_; intro v3 w3 hr3 hg3 hb3; replace hr3 := Lib.hid hr3; replace hb3 := Lib.hid hb3; clear hg3)
          | (at_builtin; refine wp_appendV _ rfl (.tmp 22) (.tmp 25) rfl w.heap.size 0 c0 c0 _ [] ((vs.drop 0).take c0) (some ⟨g, 0, none⟩) rfl rfl (LL_lit0 _ w (Nat.le_refl _)) HL1.out h1.out (ones_part H.out 0 c0) (by omega) (by simp) ?_; intro v1 w1 hr1 hg1 hb1; replace hr1 := Lib.hid hr1; replace hb1 := Lib.hid hb1; clear hg1)
          | fail)
        go_ret
        exact put_done H.out HP.out hlo HAP.out hk HN.out (by have h := hr3.out; rwa [show 0 + c0 + 1 + 0 = 0 + c0 + 1 + (ls.length - c0) by omega] at h) (put_chain hb1.out hb2.out) hb3.out
      · clear hk2
        have h1 := Lib.hid (LL_hc H.out (w' := w.alloc (.cells #[] 22)) (Below.alloc1 _ _) 0 k (by omega) c0)
        have hl1 : k = ((vs.drop 0).take k).length := by rw [List.length_take, List.length_drop, HLEN.out]; omega
        have HL1 := Lib.hid hl1; clear hl1
        have hl2 : ls.length - k = ((vs.drop k).take (ls.length - k)).length := by rw [List.length_take, List.length_drop, HLEN.out]; omega
        have HL2 := Lib.hid hl2; clear hl2
        have h2 := Lib.hid (fun w' hb => LL_hc H.out (w' := w') hb k (ls.length - k) (by omega) (c0 - k))
        go_wp2_with (first
          | (at_builtin; refine wp_appendV _ rfl (.tmp 26) (.tmp 28) rfl w.heap.size (0 + k) 1 1 v1 ([] ++ (vs.drop 0).take k) [.slice p1 p2 p3] (some ⟨w1.heap.size, 0, none⟩) rfl rfl (ownsRow_below hr1.out (Below.alloc1 _ _)) rfl (.inr ⟨w1.heap.size, 0, rfl, lit1_cells w1 _ _⟩) (Own.one HP.out) (by omega) (by have := hb1.out.size; simp at this ⊢; omega) ?_; intro v2 w2 hr2 hg2 hb2; replace hr2 := Lib.hid hr2; replace hb2 := Lib.hid hb2; clear hg2)
          | (at_builtin; refine wp_appendV _ rfl (.tmp 30) (.tmp 33) rfl w.heap.size (0 + k + 1) (ls.length - k) (c0 - k) v2 ([] ++ (vs.drop 0).take k ++ [.slice p1 p2 p3]) ((vs.drop k).take (ls.length - k)) (some ⟨g, k, none⟩) rfl rfl hr2.out HL2.out (h2.out _ (put_chain hb1.out hb2.out)) (ones_part H.out k _) (by omega) (by have := (put_chain hb1.out hb2.out).size; omega) ?_; intro v3 w3 hr3 hg3 hb3; replace hr3 := Lib.hid hr3; replace hb3 := Lib.hid hb3; clear hg3)
          | (at_builtin; refine wp_appendV _ rfl (.tmp 22) (.tmp 25) rfl w.heap.size 0 k c0 _ [] ((vs.drop 0).take k) (some ⟨g, 0, none⟩) rfl rfl (LL_lit0 _ w (Nat.le_refl _)) HL1.out h1.out (ones_part H.out 0 k) (by omega) (by simp) ?_; intro v1 w1 hr1 hg1 hb1; replace hr1 := Lib.hid hr1; replace hb1 := Lib.hid hb1; clear hg1)
          | fail)
        go_ret
        exact put_done H.out HP.out hlo HAP.out hk HN.out hr3.out (put_chain hb1.out hb2.out) hb3.out

set_option maxHeartbeats 4000000 in
set_option maxRecDepth 100000 in
theorem spPut_nil (lo : Nat) (p : Value) (l : List Int) (w : World) (hp : Own lo w p l) (hlo : lo ≤ w.heap.size) :
    Calls Try.prog 45 #[.slice none 0 0, p] w (PutIn lo w p [] [] l) := by
  obtain ⟨p1, p2, p3, rfl⟩ := hp.form'
  have H : Hid (OwnLL lo w.heap.size w (.slice none 0 0) [] []) := OwnLL.nil lo w hlo
  have HP := Lib.hid hp
  clear hp
  go_enter Try.func45, Try.ntmps45
  go_wp2
  go_loop [5] (fun i => i = .int .i64 0) (fun i => 0)
  case atStart => rfl
  case round =>
    subst hrel
    go_wp2_with (first
      | (at_builtin; refine wp_appendV _ rfl (.tmp 26) (.tmp 28) rfl w.heap.size (0 + 0) 1 1 v1 ([] ++ []) [.slice p1 p2 p3] (some ⟨w1.heap.size, 0, none⟩) rfl rfl (ownsRow_below hr1.out (Below.alloc1 _ _)) rfl (.inr ⟨w1.heap.size, 0, rfl, lit1_cells w1 _ _⟩) (Own.one HP.out) (by omega) (by have := hb1.out.size; simp at this ⊢; omega) ?_; intro v2 w2 hr2 hg2 hb2; replace hr2 := Lib.hid hr2; replace hb2 := Lib.hid hb2; clear hg2)
      | (at_builtin; refine wp_appendV _ rfl (.tmp 30) (.tmp 33) rfl w.heap.size (0 + 0 + 1) 0 0 v2 ([] ++ [] ++ [.slice p1 p2 p3]) [] none rfl rfl hr2.out rfl (.inl ⟨rfl, fun _ => rfl⟩) (fun u hu => by simp at hu) (by omega) (by have := (put_chain hb1.out hb2.out).size; omega) ?_; intro v3 w3 hr3 hg3 hb3; replace hr3 := Lib.hid hr3; replace hb3 := Lib.hid hb3; clear hg3)
      | (at_builtin; refine wp_appendV _ rfl (.tmp 22) (.tmp 25) rfl w.heap.size 0 0 0 _ [] [] none rfl rfl (LL_lit0 _ w (Nat.le_refl _)) rfl (.inl ⟨rfl, fun _ => rfl⟩) (fun u hu => by simp at hu) (by omega) (by simp) ?_; intro v1 w1 hr1 hg1 hb1; replace hr1 := Lib.hid hr1; replace hb1 := Lib.hid hb1; clear hg1)
      | fail)
    go_ret
    exact put_done (vs := []) (ls := []) (k := 0) H.out HP.out hlo (fun i hi => absurd hi (Nat.not_lt_zero _)) (Nat.le_refl _) rfl hr3.out (put_chain hb1.out hb2.out) hb3.out

theorem spPut_any (lo hi : Nat) (v p : Value) (vs : List Value) (ls : List (List Int)) (l : List Int) (w : World) (h : OwnLL lo hi w v vs ls) (hp : Own lo w p l) (hlo : lo ≤ w.heap.size)
    (ap : ∀ i, i < ls.length → ∀ k, p.ownBlock = some k → (rowV vs i).ownBlock ≠ some k) (hn : ls.length ≤ 100000) (hs : ∀ i, i < ls.length → Small (ls.getD i [])) (hsl : Small l) :
    Calls Try.prog 45 #[v, p] w (PutIn lo w p vs ls l) := by
  rcases h.shape with ⟨rfl, rfl⟩ | ⟨g, c, rfl, _, _, h1, h2, _⟩
  · obtain rfl : vs = [] := List.eq_nil_of_length_eq_zero (by rw [h.len]; rfl)
    exact spPut_nil lo p l w hp hlo
  · exact spPut_row lo hi g c p vs ls l w h hp hlo h1 h2 ap hn hs hsl

end Go.Proofs.Ytnkkgbecdckigaa
