/- A first part replaced by others: the model's way. -/
import Derived.Test.YtllhdmpnjcemkabAppStep
import Derived.Test.YtllhdmpnjcemkabWeedBeh
namespace Go.Proofs.Ytllhdmpnjcemkab
open Go.RowKit
set_option linter.unusedSimpArgs false
set_option linter.unusedVariables false

set_option maxHeartbeats 600000 in
theorem swPut_any (u s : Value) (l xs : List Int) (w : World) (h : Rd w u l) (hs : Rd w s xs) (h0 : 0 < l.length) (hl : l.length ≤ 1000) (hx : xs.length ≤ 1000) :
    Calls Try.prog 53 #[u, s] w (Made w (xs ++ l.tail)) := by
  obtain ⟨b, off, c, rfl, hlc, hcm, hcell⟩ := h.at h0
  obtain ⟨n, hn⟩ : ∃ n, l.length = n + 1 := ⟨l.length - 1, by omega⟩
  have ht := Rd.tail hn hlc hcm hcell
  have HS := Lib.hid hs; have HX := Lib.hid hx
  have HL : Hid (l.tail.length ≤ 1000) := by show l.tail.length ≤ 1000; rw [List.length_tail]; omega
  obtain ⟨sa, sc, rfl, _⟩ := hs
  rw [hn] at hlc ⊢
  unfold maxLen at hcm
  have HT := Lib.hid ht
  clear ht hcell h hx
  have i1 : (1 : Int) ≤ (n : Int) + 1 := by omega
  have i2 : (n : Int) + 1 ≤ (c : Int) := by omega
  have i3 : (1 : Int) ≤ (c : Int) := by omega
  have i4 : (0 : Int) ≤ (n : Int) + 1 := by omega
  have i5 : (0 : Int) ≤ (c : Int) := by omega
  have HB0 := Lib.hid (Below.alloc1 w (.cells #[] 3))
  by_cases hd2 : c = 1
  · have HT2 := Lib.hid (tail_one HT.out hd2)
    obtain rfl : n = 0 := by omega
    clear HT i2 hlc
    subst hd2
    go_enter Try.func53, Try.ntmps53
    go_wp2_with fail
    go_region_held3 (fun w' => Hid (Below w.heap.size w w'))
      (first | assumption | exact (Below.refl _ w).drew | exact HB0.out.drew | exact HB2.out | exact HB1.out)
      (first
        | ((refine step_appendI _ (by rfl) (.tmp 5) (.tmp 6) (by rfl) w.heap.size (.slice (some ⟨w.heap.size, 0, none⟩) 0 0) (.slice sa xs.length sc) [] xs (by rfl) (by rfl) (Own.litD0 _ w (Nat.le_refl _)) (HS.out.below HB0.out.drew) (by have := HX.out; simp; omega) HB0.out.size ?_); intro v1 w1 ho1 hg1 hb1; have HB1 := Lib.hid (HB0.out.drew.trans hb1); have HO1 := Lib.hid ho1; clear ho1 hg1 hb1)
        | ((refine step_appendI _ (by rfl) (.tmp 7) (.tmp 9) (by rfl) w.heap.size _ _ ([] ++ xs) l.tail (by rfl) (by rfl) HO1.out (HT2.out.below HB1.out) (by have := HX.out; have := HL.out; simp; omega) HB1.out.size ?_); intro v2 w2 ho2 hg2 hb2; have HB2 := Lib.hid (HB1.out.trans hb2); have HO2 := Lib.hid ho2; clear ho2 hg2 hb2))
    go_wp2
    go_ret
    exact ⟨_, rfl, HO2.out, HB2.out⟩
  · have HT2 := Lib.hid (tail_more HT.out hd2)
    clear HT
    go_enter Try.func53, Try.ntmps53
    go_wp2_with fail
    go_region_held3 (fun w' => Hid (Below w.heap.size w w'))
      (first | assumption | exact (Below.refl _ w).drew | exact HB0.out.drew | exact HB2.out | exact HB1.out)
      (first
        | ((refine step_appendI _ (by rfl) (.tmp 5) (.tmp 6) (by rfl) w.heap.size (.slice (some ⟨w.heap.size, 0, none⟩) 0 0) (.slice sa xs.length sc) [] xs (by rfl) (by rfl) (Own.litD0 _ w (Nat.le_refl _)) (HS.out.below HB0.out.drew) (by have := HX.out; simp; omega) HB0.out.size ?_); intro v1 w1 ho1 hg1 hb1; have HB1 := Lib.hid (HB0.out.drew.trans hb1); have HO1 := Lib.hid ho1; clear ho1 hg1 hb1)
        | ((refine step_appendI _ (by rfl) (.tmp 7) (.tmp 9) (by rfl) w.heap.size _ _ ([] ++ xs) l.tail (by rfl) (by rfl) HO1.out (HT2.out.below HB1.out) (by have := HX.out; have := HL.out; simp; omega) HB1.out.size ?_); intro v2 w2 ho2 hg2 hb2; have HB2 := Lib.hid (HB1.out.trans hb2); have HO2 := Lib.hid ho2; clear ho2 hg2 hb2))
    go_wp2
    go_ret
    exact ⟨_, rfl, HO2.out, HB2.out⟩
end Go.Proofs.Ytllhdmpnjcemkab
