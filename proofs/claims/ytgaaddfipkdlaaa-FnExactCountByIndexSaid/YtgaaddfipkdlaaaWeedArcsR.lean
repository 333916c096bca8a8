/- Arcs of parts, by the program and by the model; ArcsOf. -/
import Derived.Test.YtgaaddfipkdlaaaWeedRead
namespace Go.Proofs.Ytgaaddfipkdlaaa
open Go.RowKit
set_option linter.unusedSimpArgs false
set_option linter.unusedVariables false

theorem arcs_lens {l : List Int} (h : partsB l = true) : ∀ k, k ≤ l.length → ((arcsL (l.take k)).length : Int) = (l.take k).sum :=
  fun k _ => arcsFrom_length _ 0 fun x hx => (parts_facts h).1 x (List.mem_of_mem_take hx)
theorem arc_snoc (A : List Int) (s p : Int) (j : Nat) : A ++ arcBlock s p (j + 1) = (A ++ arcBlock s p j) ++ [s + (p - 1 - j)] := by rw [arcBlock_succ, List.append_assoc]

theorem placeW_any (n i : Int) (w : World) (h0 : 0 ≤ n) (h1 : n ≤ 1000) (h2 : 0 ≤ i) (h3 : i ≤ 1000) :
    Calls Try.prog 63 #[.agg #[.int .i64 n], .int .i64 i] w fun e w' => e = .returned (.int .i64 (n - 1 - i)) ∧ Below w.heap.size w w' := by
  go_enter Try.func63, Try.ntmps63
  go_wp2
  go_ret
  exact ⟨rfl, Below.alloc1 _ _⟩

set_option maxHeartbeats 2000000 in
theorem partsArcs_any (v : Value) (l : List Int) (w : World) (h : Rd w v l) (hp : partsB l = true) : Calls Try.prog 60 #[v] w (Made w (arcsL l)) := by
  have hat : ∀ k, k < l.length → 1 ≤ l.getD k 0 ∧ (l.take k).sum + l.getD k 0 ≤ l.sum ∧ 0 ≤ (l.take k).sum ∧ l.sum ≤ 20 := fun k hk => parts_at hp hk
  have hle := arcs_lens hp
  obtain ⟨a, c, rfl, hlc, hcm, _, hrd⟩ := h
  have hl20 := (parts_facts hp).2.2.1
  obtain ⟨n, hn⟩ : ∃ n, n = l.length := ⟨_, rfl⟩
  rw [← hn] at hrd hlc hat hle hl20 ⊢
  unfold maxLen at hcm
  have HN := Lib.hid hn; have HC := Lib.hid hrd; have HAT := Lib.hid hat; have HLE := Lib.hid hle
  clear hn hrd hat hle hp
  go_enter Try.func60, Try.ntmps60
  go_wp2
  go_loopw [3, 10] (fun o i wr => ∃ k : Nat, k ≤ n ∧ i = .int .i64 k ∧ Own w.heap.size wr o (arcsL (l.take k)) ∧ Below w.heap.size w wr) (fun _ i _ => n - (intOf i).toNat)
  case atStart => exact ⟨0, by omega, rfl, Own.nil _ _, Below.refl _ _⟩
  case round =>
    obtain ⟨k, hk, rfl, hown, hbel⟩ := hrel
    by_cases hlt : k < n
    · rcases HC.out with h0 | ⟨b, off, rfl, hcell⟩
      · exfalso; rw [HN.out, h0] at hlt; simp at hlt
      have hsrc : wr.cell? ⟨b, off + k, none⟩ = some (.int .i64 (l.getD k 0)) := by
        have := hcell k hlt
        exact (hbel.cell (p := ⟨b, off + k, none⟩) (World.block_lt_of_cell? w _ this)).trans this
      have ha := HAT.out k hlt
      have hs := HLE.out k hk
      have HSU := Lib.hid (arcs_take_succ l k (by rw [← HN.out]; exact hlt))
      have hsz := hbel.size
      obtain ⟨oa, oc, rfl, _, _⟩ := hown.form
      obtain ⟨m, hm⟩ : ∃ m, m = (arcsL (l.take k)).length := ⟨_, rfl⟩
      rw [← hm] at hs hown ⊢
      rw [← hs] at HSU ha
      have HM := Lib.hid hm; clear hm hs hcell
      generalize arcsL (l.take k) = L at *
      generalize l.getD k 0 = p at *
      obtain ⟨q, rfl⟩ := Int.eq_ofNat_of_zero_le (show 0 ≤ p by omega)
      have HO := Lib.hid hown; have HB := Lib.hid hbel; clear hown hbel
      go_wp2
      go_loopw [3, 17] (fun o i wr2 => ∃ j : Nat, j ≤ q ∧ i = .int .i64 j ∧ Own w.heap.size wr2 o (L ++ arcBlock m q j) ∧ Below w.heap.size w wr2) (fun _ i _ => q - (intOf i).toNat)
      case atStart => exact ⟨0, by omega, rfl, by simpa [arcBlock] using HO.out, HB.out⟩
      case round =>
        obtain ⟨j, hj, rfl, hown, hbel⟩ := hrel
        by_cases hjl : j < q
        · have HSN := Lib.hid (arc_snoc L m q j)
          have HL : Hid ((L ++ arcBlock m q j).length ≤ 1000) := by show _ ≤ 1000; rw [List.length_append, arcBlock_length, ← HM.out]; omega
          have HO2 := Lib.hid hown; have HB2 := Lib.hid hbel; clear hown hbel
          go_wp2_with (first
            | (go_at_call 63; ((with_reducible refine (placeW_any _ _ _ (by omega) (by omega) (by omega) (by omega)).mono ?_); rintro e w1 ⟨rfl, hb1⟩; have HO3 := Lib.hid (Own.below HO2.out hb1); have HB3 := Lib.hid (HB2.out.trans (hb1.mono HB2.out.size)); clear hb1))
            | (at_builtin; refine wp_append _ rfl _ _ rfl w.heap.size _ _ (L ++ arcBlock m q j) [(m : Int) + ((q : Int) - 1 - (j : Int))] rfl rfl (Own.below HO3.out (Below.alloc1 _ _)) (Own.rd (Own.lit1 _ _ _ (Nat.le_refl _))) (by have := HL.out; simp only [List.length_cons, List.length_nil]; omega) (by have := HB3.out.size; simp; omega) ?_; intro v' w2 hown2 hgr hbel2; rw [← HSN.out] at hown2; have hbel3 := (HB3.out.alloc HB3.out.size _).trans hbel2; clear hgr hbel2))
          go_roundw
          case rel => exact ⟨j + 1, by omega, by go_num, hown2, hbel3⟩
          case measure => simp [intOf]; omega
        · obtain rfl : j = q := by omega
          have HE := Lib.hid HSU.out
          rw [show ((j : Int)).toNat = j from Int.toNat_natCast j] at HE
          go_wp2
          go_roundw
          case rel => exact ⟨k + 1, by omega, by go_num, by rw [HE.out]; exact hown, hbel⟩
          case measure => simp [intOf]; omega
    · obtain rfl : k = n := by omega
      go_wp2
      go_ret
      refine ⟨_, rfl, ?_, hbel⟩
      rw [HN.out, List.take_length] at hown
      exact hown

set_option maxHeartbeats 2000000 in
theorem swArcs_any (v : Value) (l : List Int) (w : World) (h : Rd w v l) (hp : partsB l = true) : Calls Try.prog 51 #[v] w (Made w (arcsL l)) := by
  have hat : ∀ k, k < l.length → 1 ≤ l.getD k 0 ∧ (l.take k).sum + l.getD k 0 ≤ l.sum ∧ 0 ≤ (l.take k).sum ∧ l.sum ≤ 20 := fun k hk => parts_at hp hk
  have hle := arcs_lens hp
  obtain ⟨a, c, rfl, hlc, hcm, _, hrd⟩ := h
  have hl20 := (parts_facts hp).2.2.1
  obtain ⟨n, hn⟩ : ∃ n, n = l.length := ⟨_, rfl⟩
  rw [← hn] at hrd hlc hat hle hl20 ⊢
  unfold maxLen at hcm
  have HN := Lib.hid hn; have HC := Lib.hid hrd; have HAT := Lib.hid hat; have HLE := Lib.hid hle
  clear hn hrd hat hle hp
  go_enter Try.func51, Try.ntmps51
  go_wp2
  go_loopw [3, 4, 10] (fun o f i wr => ∃ k : Nat, k ≤ n ∧ i = .int .i64 k ∧ f = .int .i64 (l.take k).sum ∧ Own w.heap.size wr o (arcsL (l.take k)) ∧ Below w.heap.size w wr) (fun _ _ i _ => n - (intOf i).toNat)
  case atStart => exact ⟨0, by omega, rfl, by simp, Own.nil _ _, Below.refl _ _⟩
  case round =>
    obtain ⟨k, hk, rfl, rfl, hown, hbel⟩ := hrel
    by_cases hlt : k < n
    · rcases HC.out with h0 | ⟨b, off, rfl, hcell⟩
      · exfalso; rw [HN.out, h0] at hlt; simp at hlt
      have hsrc : wr.cell? ⟨b, off + k, none⟩ = some (.int .i64 (l.getD k 0)) := by
        have := hcell k hlt
        exact (hbel.cell (p := ⟨b, off + k, none⟩) (World.block_lt_of_cell? w _ this)).trans this
      have ha := HAT.out k hlt
      have hs := HLE.out k hk
      have HSU := Lib.hid (arcs_take_succ l k (by rw [← HN.out]; exact hlt))
      have HSS := Lib.hid (sum_take_succ l k (by rw [← HN.out]; exact hlt))
      have hsz := hbel.size
      have HM := Lib.hid hs
      clear hcell hs
      generalize arcsL (l.take k) = L at *
      generalize l.getD k 0 = p at *
      generalize (l.take k).sum = s at *
      obtain ⟨q, rfl⟩ := Int.eq_ofNat_of_zero_le (show 0 ≤ p by omega)
      have HO := Lib.hid hown; have HB := Lib.hid hbel; clear hown hbel
      go_wp2
      go_loopw [3, 7] (fun o i wr2 => ∃ j : Nat, j ≤ q ∧ i = .int .i64 j ∧ Own w.heap.size wr2 o (L ++ arcBlock s q j) ∧ Below w.heap.size w wr2) (fun _ i _ => q - (intOf i).toNat)
      case atStart => exact ⟨0, by omega, rfl, by simpa [arcBlock] using HO.out, HB.out⟩
      case round =>
        obtain ⟨j, hj, rfl, hown, hbel⟩ := hrel
        by_cases hjl : j < q
        · have hsn := arc_snoc L s q j
          rw [show s + ((q : Int) - 1 - (j : Int)) = s + (q : Int) - 1 - (j : Int) by omega] at hsn
          have HSN := Lib.hid hsn; clear hsn
          have HL : Hid ((L ++ arcBlock s q j).length ≤ 1000) := by show _ ≤ 1000; rw [List.length_append, arcBlock_length]; have := HM.out; omega
          have HO2 := Lib.hid hown; have HB2 := Lib.hid hbel; clear hown hbel
          go_wp2_with (at_builtin; refine wp_append _ rfl _ _ rfl w.heap.size _ _ (L ++ arcBlock s q j) [s + (q : Int) - 1 - (j : Int)] rfl rfl (Own.below HO2.out (Below.alloc1 _ _)) (Own.rd (Own.lit1 _ _ _ (Nat.le_refl _))) (by have := HL.out; simp only [List.length_cons, List.length_nil]; omega) (by have := HB2.out.size; simp; omega) ?_; intro v' w2 hown2 hgr hbel2; rw [← HSN.out] at hown2; have hbel3 := (HB2.out.alloc HB2.out.size _).trans hbel2; clear hgr hbel2)
          go_roundw
          case rel => exact ⟨j + 1, by omega, by go_num, hown2, hbel3⟩
          case measure => simp [intOf]; omega
        · obtain rfl : j = q := by omega
          have HE := Lib.hid HSU.out
          rw [show ((j : Int)).toNat = j from Int.toNat_natCast j] at HE
          go_wp2
          go_roundw
          case rel => exact ⟨k + 1, by omega, by go_num, by rw [HSS.out], by rw [HE.out]; exact hown, hbel⟩
          case measure => simp [intOf]; omega
    · obtain rfl : k = n := by omega
      go_wp2
      go_ret
      refine ⟨_, rfl, ?_, hbel⟩
      rw [HN.out, List.take_length] at hown
      exact hown

/-! ArcsOf -/
def ok_ArcsOf (l : List Int) : Bool := partsB l
def res_ArcsOf (l : List Int) : List Int := if partsB l then arcsL l else []
theorem len_ArcsOf (l : List Int) : (res_ArcsOf l).length ≤ 1000000 := by
  unfold res_ArcsOf; split
  · next h => have := arcs_length h; have := (parts_facts h).2.1; omega
  · simp
end Go.Proofs.Ytgaaddfipkdlaaa
