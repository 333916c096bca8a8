/- ExchangeAt and CountExchanges on both sides. -/
import Derived.Test.YteeoepbbocdchaaExPairs
import Derived.Test.YteeoepbbocdchaaShift
import Derived.Test.YteeoepbbocdchaaExCh
namespace Go.Proofs.Yteeoepbbocdchaa
open Go.RowKit
set_option linter.unusedSimpArgs false
set_option linter.unusedVariables false

def okE (l : List Int) (i j : Int) : Bool := decide (0 ≤ i ∧ i < j ∧ j < (l.length : Int)) && shareB l i j
def ok_ExchangeAt (l : List Int) (i j : Int) : Bool := goodB l && okE l i j
def res_ExchangeAt (l : List Int) (i j : Int) : List Int := if goodB l && okE l i j then exL l i j else []
theorem len_ExchangeAt (l : List Int) (i j : Int) : (res_ExchangeAt l i j).length ≤ 1000000 := by
  unfold res_ExchangeAt
  split
  · next h =>
    rw [Bool.and_eq_true] at h
    rw [exL_length]; have := good_len' h.1; omega
  · simp
theorem okE_mem {l : List Int} {i j : Int} : okE l i j = true ↔ [i, j] ∈ pairsL l := by
  unfold okE
  rw [pairs_mem, Bool.and_eq_true, decide_eq_true_eq]
  constructor
  · rintro ⟨⟨h0, h1, h2⟩, h3⟩
    obtain ⟨i, rfl⟩ := Int.eq_ofNat_of_zero_le h0
    obtain ⟨j, rfl⟩ := Int.eq_ofNat_of_zero_le (show 0 ≤ j by omega)
    exact ⟨i, j, by omega, by omega, h3, rfl⟩
  · rintro ⟨i', j', h1, h2, h3, h4⟩
    simp only [List.cons.injEq, and_true] at h4
    obtain ⟨rfl, rfl⟩ := h4
    exact ⟨⟨by omega, by omega, by omega⟩, h3⟩
theorem exL_nat (l : List Int) (i j a b : Nat) (ha : l.getD i 0 = (a : Int)) (hb : l.getD j 0 = (b : Int)) :
    exL l (i : Int) (j : Int) = if a < j then (((l.set i (b : Int)).set b (i : Int)).set a (j : Int)).set j (a : Int) else (((l.set i (j : Int)).set j (i : Int)).set b (a : Int)).set a (b : Int) := by
  unfold exL setJ
  simp only [Int.toNat_natCast, ha, hb]
  by_cases h : a < j
  · rw [if_pos h, if_pos (by omega)]
  · rw [if_neg h, if_neg (by omega)]

set_option maxHeartbeats 4000000 in
set_option maxRecDepth 100000 in
theorem exAt_any (l : List Int) (i j : Nat) (w : World) (u : Value) (h : Rd w u l) (hg : goodB l = true) (hij : i < j) (hj : j < l.length) :
    Calls Try.prog 46 #[u, .int .i64 (i : Int), .int .i64 (j : Int)] w (Made w (exL l (i : Int) (j : Int))) := by
  have hl := good_len' hg
  have f1 := (good_facts hg).2.2.1 i (by omega)
  have f2 := (good_facts hg).2.2.1 j hj
  obtain ⟨a, ha⟩ := Int.eq_ofNat_of_zero_le f1.1
  obtain ⟨b, hb⟩ := Int.eq_ofNat_of_zero_le f2.1
  have hal : a < l.length := by omega
  have hbl : b < l.length := by omega
  rw [exL_nat l i j a b ha hb]
  obtain ⟨RES, hRES⟩ : ∃ RES, (if a < j then (((l.set i (b : Int)).set b (i : Int)).set a (j : Int)).set j (a : Int) else (((l.set i (j : Int)).set j (i : Int)).set b (a : Int)).set a (b : Int)) = RES := ⟨_, rfl⟩
  rw [hRES]
  have HRES := Lib.hid hRES
  clear hRES
  have HO := Lib.hid (l1Own_any u l w h (by omega))
  obtain ⟨ga, off, c, rfl, hc1, hc2, hcell⟩ := h.at (by omega)
  have hsrc : ∀ wq, Below w.heap.size w wq → wq.cell? ⟨ga, off + i, none⟩ = some (.int .i64 (a : Int)) ∧ wq.cell? ⟨ga, off + j, none⟩ = some (.int .i64 (b : Int)) := by
    intro wq hq
    have c1 := hcell i (by omega)
    have c2 := hcell j hj
    rw [ha] at c1
    rw [hb] at c2
    exact ⟨(hq.cell (p := ⟨ga, off + i, none⟩) (World.block_lt_of_cell? w _ c1)).trans c1, (hq.cell (p := ⟨ga, off + j, none⟩) (World.block_lt_of_cell? w _ c2)).trans c2⟩
  obtain ⟨n, hn⟩ : ∃ n, n = l.length := ⟨_, rfl⟩
  rw [← hn] at hl hj hal hbl hc1 HO ⊢
  have HN := Lib.hid hn; have HS := Lib.hid hsrc
  unfold maxLen at hc2
  clear hn hcell hsrc f1 f2 ha hb hg h
  go_enter Try.func46, Try.ntmps46
  go_wp2_with (go_at_call 80; ((with_reducible refine HO.out.mono ?_); rintro e w1 ⟨v1, rfl, ho1, hb1⟩))
  obtain ⟨p1, cc, rfl, _, hcc⟩ := ho1.form
  obtain ⟨g, rfl, _⟩ := ho1.get 0 (by rw [← HN.out]; omega)
  have hsz : w.heap.size ≤ g := (ho1.lt g rfl).1
  have hgl := (ho1.lt g rfl).2
  have c1 := (HS.out w1.drew (Below.drew hb1)).1
  have c2 := (HS.out w1.drew (Below.drew hb1)).2
  rw [← HN.out] at ho1 ⊢
  have HO1 : Hid (Own w.heap.size w1.drew (.slice (some ⟨g, 0, none⟩) n cc) l) := Lib.hid ho1
  have HB1 := Lib.hid (Below.drew hb1)
  unfold maxLen at hcc
  clear hb1 ho1
  go_region
  clear c1 c2
  have HB1' := HB1
  generalize w1.drew = w1d at *
  by_cases hq : a < j
  · have hE := HRES.out
    rw [if_pos hq] at hE
    have HE := Lib.hid hE
    clear hE HRES
    go_wp2_with (first
      | ((with_reducible refine wp_storeOwn rfl (.tmp 26) (.tmp 25) rfl w.heap.size g i n cc l (b : Int) rfl rfl HO1.out (by rw [← HN.out]; omega) ?_); intro w2 ho2 hg2; have HO2 := Lib.hid ho2; have HB2 := Lib.hid (HB1.out.grown hg2 HB1.out.size (by intro k hk; simp at hk; omega)); clear ho2 hg2)
      | ((with_reducible refine wp_storeOwn rfl (.tmp 30) (.tmp 29) rfl w.heap.size g b n cc _ (i : Int) rfl rfl HO2.out (by simp only [List.length_set]; rw [← HN.out]; omega) ?_); intro w3 ho3 hg3; have HO3 := Lib.hid ho3; have HB3 := Lib.hid (HB2.out.grown hg3 HB2.out.size (by intro k hk; simp at hk; omega)); clear ho3 hg3)
      | ((with_reducible refine wp_storeOwn rfl (.tmp 34) (.tmp 33) rfl w.heap.size g a n cc _ (j : Int) rfl rfl HO3.out (by simp only [List.length_set]; rw [← HN.out]; omega) ?_); intro w4 ho4 hg4; have HO4 := Lib.hid ho4; have HB4 := Lib.hid (HB3.out.grown hg4 HB3.out.size (by intro k hk; simp at hk; omega)); clear ho4 hg4)
      | ((with_reducible refine wp_storeOwn rfl (.tmp 38) (.tmp 37) rfl w.heap.size g j n cc _ (a : Int) rfl rfl HO4.out (by simp only [List.length_set]; rw [← HN.out]; omega) ?_); intro w5 ho5 hg5; have HO5 := Lib.hid ho5; have HB5 := Lib.hid (HB4.out.grown hg5 HB4.out.size (by intro k hk; simp at hk; omega)); clear ho5 hg5))
    go_ret
    exact ⟨_, rfl, by rw [← HE.out]; exact HO5.out, HB5.out⟩
  · have hE := HRES.out
    rw [if_neg hq] at hE
    have HE := Lib.hid hE
    clear hE HRES
    go_wp2_with (first
      | ((with_reducible refine wp_storeOwn rfl (.tmp 42) (.tmp 41) rfl w.heap.size g i n cc l (j : Int) rfl rfl HO1.out (by rw [← HN.out]; omega) ?_); intro w2 ho2 hg2; have HO2 := Lib.hid ho2; have HB2 := Lib.hid (HB1.out.grown hg2 HB1.out.size (by intro k hk; simp at hk; omega)); clear ho2 hg2)
      | ((with_reducible refine wp_storeOwn rfl (.tmp 46) (.tmp 45) rfl w.heap.size g j n cc _ (i : Int) rfl rfl HO2.out (by simp only [List.length_set]; rw [← HN.out]; omega) ?_); intro w3 ho3 hg3; have HO3 := Lib.hid ho3; have HB3 := Lib.hid (HB2.out.grown hg3 HB2.out.size (by intro k hk; simp at hk; omega)); clear ho3 hg3)
      | ((with_reducible refine wp_storeOwn rfl (.tmp 50) (.tmp 49) rfl w.heap.size g b n cc _ (a : Int) rfl rfl HO3.out (by simp only [List.length_set]; rw [← HN.out]; omega) ?_); intro w4 ho4 hg4; have HO4 := Lib.hid ho4; have HB4 := Lib.hid (HB3.out.grown hg4 HB3.out.size (by intro k hk; simp at hk; omega)); clear ho4 hg4)
      | ((with_reducible refine wp_storeOwn rfl (.tmp 54) (.tmp 53) rfl w.heap.size g a n cc _ (b : Int) rfl rfl HO4.out (by simp only [List.length_set]; rw [← HN.out]; omega) ?_); intro w5 ho5 hg5; have HO5 := Lib.hid ho5; have HB5 := Lib.hid (HB4.out.grown hg5 HB4.out.size (by intro k hk; simp at hk; omega)); clear ho5 hg5))
    go_ret
    exact ⟨_, rfl, by rw [← HE.out]; exact HO5.out, HB5.out⟩



/-! ### CountExchanges -/
def ok_CountExchanges (l : List Int) : Bool := goodB l
def res_CountExchanges (l : List Int) : Int := if goodB l then ((pairsL l).length : Int) else 0



end Go.Proofs.Yteeoepbbocdchaa
