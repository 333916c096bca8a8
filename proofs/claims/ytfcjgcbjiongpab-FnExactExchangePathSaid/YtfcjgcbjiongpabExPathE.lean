/- ExchangePath on both sides. -/
import Derived.Test.YtfcjgcbjiongpabExPathS
namespace Go.Proofs.Ytfcjgcbjiongpab
open Go.RowKit
set_option linter.unusedSimpArgs false
set_option linter.unusedVariables false

def ok_ExchangePath (t b : List Int) : Bool := pairOk t b
def res_ExchangePath (t b : List Int) : List (List Int) := if pairOk t b then t :: tailF b 1 12 t else []
theorem path_small (b : List Int) (by_ : Int) {t : List Int} (gt : goodB t = true) : (t :: tailF b by_ 12 t).length ≤ 13 ∧ ∀ k, k < (t :: tailF b by_ 12 t).length → ((t :: tailF b by_ 12 t).getD k []).length ≤ 12 := by
  have hf := tailF_facts b by_ 12 t gt
  have l12 := good_len' gt
  refine ⟨by simp; exact hf.2, fun k hk => ?_⟩
  have hm : (t :: tailF b by_ 12 t).getD k [] ∈ t :: tailF b by_ 12 t := by simp only [List.getD, List.getElem?_eq_getElem hk, Option.getD_some]; exact List.getElem_mem hk
  rcases List.mem_cons.1 hm with h | h
  · rw [h]; exact l12
  · rw [(hf.1 _ h).2]; exact l12
theorem len_ExchangePath (t b : List Int) : tot (res_ExchangePath t b) ≤ 1000000 ∧ ∀ i, i < (res_ExchangePath t b).length → ((res_ExchangePath t b).getD i []).length ≤ 1000000 := by
  unfold res_ExchangePath
  split
  · next h =>
    have hf := path_small b 1 (pairOk_facts h).1
    have := tot_le (K := 12) hf.2
    exact ⟨by omega, fun i hi => Nat.le_trans (hf.2 i hi) (by omega)⟩
  · exact ⟨by simp [tot], fun i hi => by simp at hi⟩

set_option maxHeartbeats 600000 in
set_option maxRecDepth 100000 in
theorem impl_ExchangePath (t b : List Int) (w : World) (u1 u2 : Value) (h1 : Rd w u1 t) (h2 : Rd w u2 b) (m1 : t.length ≤ 1048576) (m2 : b.length ≤ 1048576) :
    Calls Try.prog 12 #[u1, u2] w (GivesLL w (res_ExchangePath t b) (ok_ExchangePath t b)) := by
  unfold res_ExchangePath ok_ExchangePath
  have hrd := readBoth_any t b w u1 u2 h1 h2
  obtain ⟨a1, c1, rfl, _⟩ := h1
  obtain ⟨a2, c2, rfl, _⟩ := h2
  clear m1 m2
  cases h : pairOk t b with
  | false =>
    rw [h] at hrd
    simp only [Bool.false_eq_true, if_false] at hrd ⊢
    have HR := Lib.hid hrd; clear hrd h
    go_enter Try.func12, Try.ntmps12
    go_wp2_with (first
      | (go_at_call 40; ((with_reducible refine HR.out.mono ?_); rintro e w1 ⟨rfl, hb1⟩; have HB1 := Lib.hid hb1; clear hb1))
      | ((with_reducible refine wp_storePairN rfl (.tmp 6) (.tmp 12) rfl [] [] rfl rfl ?_); intro w2 hs2 hb2; have HB2 := Lib.hid (Below.step HB1.out hb2); clear hs2 hb2))
    go_ret2
    exact ⟨_, [], rfl, OwnLL.nil _ _ HB2.out.size, HB2.out⟩
  | true =>
    rw [h] at hrd
    obtain ⟨gt, gb, hl⟩ := pairOk_facts h
    simp only [if_true] at hrd ⊢
    have hm0 : meas b 1 t ≤ 12 := by unfold meas; rw [if_pos rfl]; omega
    obtain ⟨hp13, hp12⟩ := path_small b 1 gt
    have hmap : ∀ T : List (List Int), (([] ++ [(t, b)] ++ T.map fun q => (q, b)) : List (List Int × List Int)) = (t :: T).map fun q => (q, b) := fun T => by simp
    have HEX : Hid (∀ (w2 : World), Calls Try.prog 43 #[.int .i64 1, .slice (some ⟨w2.heap.size, 0, none⟩) 1 1] (w2.alloc (.cells (pairC t b) 55)) (PathOut w2.heap.size (w2.alloc (.cells (pairC t b) 55)) ((t :: tailF b 1 12 t).map fun q => (q, b)))) := by
      intro w2
      have ho := OwnP.lit1 w2.heap.size w2 t b (Nat.le_refl _)
      have hB : w2.heap.size ≤ (w2.alloc (.cells (pairC t b) 55)).heap.size := by rw [World.size_alloc]; exact Nat.le_succ _
      have := extended_any b 1 (.inl rfl) gb 12 t [] w2.heap.size (w2.alloc (.cells (pairC t b) 55)) (.slice (some ⟨w2.heap.size, 0, none⟩) 1 1) gt hl hm0 (by simp) (by rw [List.nil_append]; exact ho) hB
      rw [hmap] at this
      exact this
    clear hmap
    generalize t :: tailF b 1 12 t = R at *
    have hfst : (R.map fun q => (q, b)).map (·.1) = R := by rw [List.map_map]; exact List.map_id _
    have HTO := Lib.hid (fun B w v ho => topsOn_any (R.map fun q => (q, b)) (fun k hk => by rw [List.length_map] at hk; have := hp12 k hk; simp [List.getD, hk] at this ⊢; exact this) (by rw [List.length_map]; omega) B w v ho)
    rw [hfst] at HTO
    have HLI := Lib.hid (fun B w v ho => listsSys_any R hp12 (by omega) B w v ho)
    have HR := Lib.hid hrd
    clear hrd h gt gb hl hm0 hp13 hp12 hfst
    go_enter Try.func12, Try.ntmps12
    go_wp2_with (first
      | (go_at_call 40; ((with_reducible refine HR.out.mono ?_); rintro e w1 ⟨rfl, hb1⟩; have HB1 := Lib.hid hb1; clear hb1))
      | ((with_reducible refine wp_storePairN rfl (.tmp 6) (.tmp 12) rfl t b rfl rfl ?_); intro w2 hs2 hb2; have HQ2 := Lib.hid hs2; have HB2 := Lib.hid (Below.step HB1.out hb2); clear hs2 hb2)
      | (with_reducible refine wp_loadPair rfl (.tmp 6) rfl w1.heap.size t b rfl HQ2.out ?_)
      | (with_reducible refine wp_buildP1 _ rfl (.tmp 16) rfl t b rfl ?_)
      | (go_at_call 43; ((with_reducible refine (HEX.out w2).mono ?_); rintro e w4 ⟨v4, rfl, ho4, hb4⟩; obtain ⟨x4, y4, hv4, _⟩ := ho4.form; rw [List.length_map] at hv4; subst hv4; have HO4 := Lib.hid ho4; have HB4 := Lib.hid (Below.step HB2.out ((Below.alloc1 w2 (.cells (pairC t b) 55)).trans hb4)); clear ho4 hb4))
      | (go_at_call 42; ((refine (HTO.out _ _ _ HO4.out).mono ?_); rintro e w5 ⟨v5, rfl, ho5, hb5⟩; obtain ⟨x5, y5, rfl, _⟩ := ho5.form; have HO5 := Lib.hid ho5; have HB5 := Lib.hid (Below.step HB4.out hb5); clear ho5 hb5))
      | (go_at_call 41; ((refine (HLI.out _ _ _ HO5.out).mono ?_); rintro e w6 ⟨v6, vs6, rfl, ho6, hb6⟩; have HO6 := Lib.hid ho6; have HB6 := Lib.hid (Below.step HB5.out hb6); clear ho6 hb6)))
    go_ret2
    exact ⟨_, vs6, rfl, HO6.out.mono HB5.out.size (Nat.le_refl _) (Nat.le_refl _), HB6.out⟩

set_option maxHeartbeats 2000000 in
set_option maxRecDepth 100000 in
theorem spec_ExchangePath (t b : List Int) (w : World) (u1 u2 : Value) (h1 : Rd w u1 t) (h2 : Rd w u2 b) (m1 : t.length ≤ 1048576) (m2 : b.length ≤ 1048576) :
    Calls Try.prog 10 #[u1, u2] w (GivesLL w (res_ExchangePath t b) (ok_ExchangePath t b)) := by
  unfold res_ExchangePath ok_ExchangePath
  have hrd := exPair_any t b w u1 u2 h1 h2 m1 m2
  have H1 := Lib.hid h1; have H2 := Lib.hid h2
  cases h : pairOk t b with
  | false =>
    rw [h] at hrd
    simp only [Bool.false_eq_true, if_false]
    have HR := Lib.hid hrd; clear hrd h
    obtain ⟨a1, c1, rfl, _⟩ := h1
    obtain ⟨a2, c2, rfl, _⟩ := h2
    clear m1 m2
    go_enter Try.func10, Try.ntmps10
    go_wp2_with (go_at_call 38; ((with_reducible refine HR.out.mono ?_); rintro e w1 ⟨rfl, hb1⟩; have HB1 := Lib.hid hb1; clear hb1))
    go_ret2
    exact ⟨_, [], rfl, OwnLL.nil _ _ HB1.out.size, HB1.out⟩
  | true =>
    rw [h] at hrd
    obtain ⟨gt, gb, hl⟩ := pairOk_facts h
    simp only [if_true]
    have HR := Lib.hid hrd
    have HP := Lib.hid (fun (w : World) (h1 : Rd w u1 t) (h2 : Rd w u2 b) => exPath_any t b 1 (.inl rfl) gt gb hl w u1 u2 h1 h2)
    generalize t :: tailF b 1 12 t = R at *
    obtain ⟨a1, c1, rfl, _⟩ := h1
    obtain ⟨a2, c2, rfl, _⟩ := h2
    clear hrd h gt gb hl m1 m2
    go_enter Try.func10, Try.ntmps10
    go_wp2_with (first
      | (go_at_call 38; ((with_reducible refine HR.out.mono ?_); rintro e w1 ⟨rfl, hb1⟩; have HX1 := Lib.hid (H1.out.below hb1); have HX2 := Lib.hid (H2.out.below hb1); have HB1 := Lib.hid hb1; clear hb1))
      | (go_at_call 39; ((refine (HP.out _ HX1.out HX2.out).mono ?_); rintro e w2 ⟨v2, vs2, rfl, ho2, hb2⟩; obtain ⟨x2, y2, rfl, _⟩ := ho2.form; have HO2 := Lib.hid ho2; have HB2 := Lib.hid (Below.step HB1.out hb2); clear ho2 hb2)))
    go_ret2
    exact ⟨_, vs2, rfl, HO2.out.mono HB1.out.size (Nat.le_refl _) (Nat.le_refl _), HB2.out⟩

end Go.Proofs.Ytfcjgcbjiongpab
