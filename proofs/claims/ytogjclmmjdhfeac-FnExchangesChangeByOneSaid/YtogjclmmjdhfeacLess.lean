/- The laws' order of lists. -/
import Derived.Test.YtogjclmmjdhfeacShift
import Derived.Test.YtogjclmmjdhfeacPutMath
import Derived.RegionTactic
import Derived.Deep.RegionWith
namespace Go.Proofs.Ytogjclmmjdhfeac
open Go.RowKit
set_option linter.unusedSimpArgs false
set_option linter.unusedVariables false

theorem less_two {a b : List Int} {k : Nat} (ha : k < a.length) (hb : k < b.length) : ltL (a.drop k) (b.drop k) = if a.getD k 0 = b.getD k 0 then ltL (a.drop (k + 1)) (b.drop (k + 1)) else decide (a.getD k 0 < b.getD k 0) := by
  rw [List.drop_eq_getElem_cons ha, List.drop_eq_getElem_cons hb, ltL_cons]
  have e1 : a.getD k 0 = a[k] := by simp [List.getD, ha]
  have e2 : b.getD k 0 = b[k] := by simp [List.getD, hb]
  rw [e1, e2]
  by_cases h : a[k] = b[k]
  · rw [if_pos h, h]; simp
  · rw [if_neg h]; simp [h]
theorem less_end {a b : List Int} (h : a.length = b.length) : ltL (a.drop a.length) (b.drop a.length) = false := by
  rw [List.drop_length, h, List.drop_length]; rfl

set_option maxHeartbeats 4000000 in
set_option maxRecDepth 100000 in
theorem sLess_any (u v : Value) (a b : List Int) (w : World) (ha : Rd w u a) (hb : Rd w v b) (hl : a.length = b.length) :
    Calls Try.prog 31 #[u, v] w fun e w' => e = .returned (.bool (ltL a b)) ∧ Below w.heap.size w w' := by
  obtain ⟨ad1, c1, rfl, hlc1, hcm1, hn1, hc1⟩ := ha
  obtain ⟨ad2, c2, rfl, hlc2, hcm2, hn2, hc2⟩ := hb
  unfold maxLen at hcm1 hcm2
  have HC1 := Lib.hid hc1; have HC2 := Lib.hid hc2
  have HT := Lib.hid (fun k => @less_two a b k); have HE := Lib.hid (less_end hl)
  rw [← hl] at hlc2
  rw [← hl]
  have HL := Lib.hid hl
  clear hc1 hc2 hn1 hn2 hl
  have h0 : Hid (ltL a b = ltL (a.drop 0) (b.drop 0)) := Lib.hid rfl
  go_enter Try.func31, Try.ntmps31
  go_wp2
  go_loopw [8] (fun i wr => ∃ k : Nat, k ≤ a.length ∧ i = .int .i64 (k : Int) ∧ Hid (ltL a b = ltL (a.drop k) (b.drop k)) ∧ Below w.heap.size w wr) (fun i _ => a.length - (intOf i).toNat)
  case atStart => exact ⟨0, by omega, rfl, h0, Below.refl _ _⟩
  case round =>
    clear h0
    obtain ⟨k, hk, rfl, he, hbel⟩ := hrel
    generalize wr = wc at *
    replace he := he.out
    by_cases hlt : k < a.length
    · obtain ⟨g1, off1, rfl, hr1⟩ : ∃ g off, ad1 = some ⟨g, off, none⟩ ∧ ∀ k, k < a.length → w.cell? ⟨g, off + k, none⟩ = some (.int .i64 (a.getD k 0)) := by
        rcases HC1.out with rfl | ⟨g, off, h1, h2⟩
        · simp at hlt
        · exact ⟨g, off, h1, h2⟩
      obtain ⟨g2, off2, rfl, hr2⟩ : ∃ g off, ad2 = some ⟨g, off, none⟩ ∧ ∀ k, k < b.length → w.cell? ⟨g, off + k, none⟩ = some (.int .i64 (b.getD k 0)) := by
        rcases HC2.out with rfl | ⟨g, off, h1, h2⟩
        · rw [HL.out] at hlt; simp at hlt
        · exact ⟨g, off, h1, h2⟩
      have hx1 := hr1 k hlt
      have hx2 := hr2 k (by rw [← HL.out]; exact hlt)
      have hb1 := World.block_lt_of_cell? w _ hx1
      have hb2 := World.block_lt_of_cell? w _ hx2
      have ht := HT.out k hlt (by rw [← HL.out]; exact hlt)
      rw [ht] at he
      clear hr1 hr2 ht
      generalize a.getD k 0 = x at *
      generalize b.getD k 0 = y at *
      have hy1 : wc.cell? ⟨g1, off1 + k, none⟩ = some (.int .i64 x) := (hbel.cell hb1).trans hx1
      have hy2 : wc.cell? ⟨g2, off2 + k, none⟩ = some (.int .i64 y) := (hbel.cell hb2).trans hx2
      have hz1 : wc.drew.cell? ⟨g1, off1 + k, none⟩ = some (.int .i64 x) := hy1
      have hz2 : wc.drew.cell? ⟨g2, off2 + k, none⟩ = some (.int .i64 y) := hy2
      have hq1 : wc.drew.drew.cell? ⟨g1, off1 + k, none⟩ = some (.int .i64 x) := hy1
      have hq2 : wc.drew.drew.cell? ⟨g2, off2 + k, none⟩ = some (.int .i64 y) := hy2
      have HBE := Lib.hid hbel
      clear hx1 hx2 hb1 hb2 hbel
      by_cases e : x = y
      · rw [if_pos e] at he
        have HEQ := Lib.hid he
        clear he
        subst e
        go_wp2_with fail
        go_region_with fail
        all_goals
          go_wp2_with fail
          go_roundw
          case rel => exact ⟨k + 1, by omega, by go_num, HEQ, HBE.out.drew⟩
          case measure => simp [intOf]; omega
      · rw [if_neg e] at he
        have HEQ := Lib.hid he
        clear he
        have hne : (x != y) = true := by simpa using e
        clear e
        go_wp2_with fail
        go_region_with fail
        all_goals
          go_wp2_with fail
          go_region_with fail
          all_goals
            go_wp2_with fail
            go_ret
            exact ⟨by rw [HEQ.out]; first | done | rfl, HBE.out.drew.drew⟩
    · obtain rfl : k = a.length := by omega
      rw [HE.out] at he
      have HEQ := Lib.hid he; have HBE := Lib.hid hbel
      clear he hbel
      go_wp2_with fail
      go_ret
      exact ⟨by rw [HEQ.out]; first | done | rfl, HBE.out⟩

end Go.Proofs.Ytogjclmmjdhfeac
