/- What the laws on pairs say, in terms of the functions' results (pure). -/
import Derived.Test.YtbinpefogecgmabCompF
import Derived.Test.YtbinpefogecgmabTextF
import Derived.Test.YtbinpefogecgmabTurnM
import Derived.Test.YtbinpefogecgmabMirrorM
import Derived.Test.YtbinpefogecgmabFlip
import Derived.Test.YtbinpefogecgmabJoinM
namespace Go.Proofs.Ytbinpefogecgmab
set_option linter.unusedSimpArgs false
set_option linter.unusedVariables false

theorem pairOk_of {t b : List Int} (h1 : goodB t = true) (h2 : goodB b = true) (hl : t.length = b.length) : pairOk t b = true := by
  simp [pairOk, h1, h2, hl]
theorem pairOk_flip {t b : List Int} (h : pairOk t b = true) : pairOk b t = true := by
  obtain ⟨g1, g2, hl⟩ := pairOk_facts h; exact pairOk_of g2 g1 hl.symm
theorem pairOk_mirror {t b : List Int} (h : pairOk t b = true) : pairOk (mirrorL t) (mirrorL b) = true := by
  obtain ⟨g1, g2, hl⟩ := pairOk_facts h; exact pairOk_of (mirror_facts g1).1 (mirror_facts g2).1 (by rw [mirrorL_length, mirrorL_length]; exact hl)
theorem pairOk_turn {t b : List Int} (h : pairOk t b = true) (x : Int) : pairOk (turnL t x) (turnL b x) = true := by
  obtain ⟨g1, g2, hl⟩ := pairOk_facts h; exact pairOk_of (turn_facts g1 x).1 (turn_facts g2 x).1 (by rw [turnL_length, turnL_length]; exact hl)
theorem law_flip {t b : List Int} (h : ok_FlipMeander t b = true) : ok_ComponentsOf t b = true ∧ ok_ComponentsOf (res1_FlipMeander t b) (res2_FlipMeander t b) = true ∧ ok_ComponentsOf (res1_MirrorMeander t b) (res2_MirrorMeander t b) = true ∧
    ok_FlipMeander (res1_FlipMeander t b) (res2_FlipMeander t b) = true ∧ ok_MirrorMeander (res1_MirrorMeander t b) (res2_MirrorMeander t b) = true ∧
    res_ComponentsOf (res1_FlipMeander t b) (res2_FlipMeander t b) = res_ComponentsOf t b ∧ res_ComponentsOf (res1_MirrorMeander t b) (res2_MirrorMeander t b) = res_ComponentsOf t b ∧
    res1_FlipMeander (res1_FlipMeander t b) (res2_FlipMeander t b) = t ∧ res2_FlipMeander (res1_FlipMeander t b) (res2_FlipMeander t b) = b ∧
    res1_MirrorMeander (res1_MirrorMeander t b) (res2_MirrorMeander t b) = t ∧ res2_MirrorMeander (res1_MirrorMeander t b) (res2_MirrorMeander t b) = b := by
  unfold ok_FlipMeander at h
  obtain ⟨g1, g2, hl⟩ := pairOk_facts h
  have e1 : res1_FlipMeander t b = b := by unfold res1_FlipMeander; rw [h]; rfl
  have e2 : res2_FlipMeander t b = t := by unfold res2_FlipMeander; rw [h]; rfl
  have e3 : res1_MirrorMeander t b = mirrorL t := by unfold res1_MirrorMeander; rw [h]; rfl
  have e4 : res2_MirrorMeander t b = mirrorL b := by unfold res2_MirrorMeander; rw [h]; rfl
  have hf := pairOk_flip h
  have hm := pairOk_mirror h
  rw [e1, e2, e3, e4]
  unfold ok_ComponentsOf ok_FlipMeander ok_MirrorMeander res_ComponentsOf res1_FlipMeander res2_FlipMeander res1_MirrorMeander res2_MirrorMeander
  rw [h, hf, hm, comps_flip g1 g2 hl, comps_mirror g1 g2 hl]
  exact ⟨rfl, rfl, rfl, rfl, rfl, rfl, rfl, rfl, rfl, (mirror_facts g1).2, (mirror_facts g2).2⟩
theorem law_turnM {t b : List Int} {x : Int} (h : ok_TurnMeander t b x = true) : ok_ComponentsOf (res1_TurnMeander t b x) (res2_TurnMeander t b x) = true ∧ ok_TurnMeander (res1_TurnMeander t b x) (res2_TurnMeander t b x) (-x) = true ∧
    res_ComponentsOf (res1_TurnMeander t b x) (res2_TurnMeander t b x) = res_ComponentsOf t b ∧ res1_TurnMeander (res1_TurnMeander t b x) (res2_TurnMeander t b x) (-x) = t ∧ res2_TurnMeander (res1_TurnMeander t b x) (res2_TurnMeander t b x) (-x) = b := by
  have e1 : res1_TurnMeander t b x = turnL t x := by unfold res1_TurnMeander; rw [h]; rfl
  have e2 : res2_TurnMeander t b x = turnL b x := by unfold res2_TurnMeander; rw [h]; rfl
  unfold ok_TurnMeander at h
  rw [Bool.and_eq_true] at h
  obtain ⟨g1, g2, hl⟩ := pairOk_facts h.1
  have hn : inB (-x) (-100) 100 = true := by have := h.2; rw [inB_iff] at this ⊢; omega
  have ho : ok_TurnMeander (turnL t x) (turnL b x) (-x) = true := by unfold ok_TurnMeander; rw [pairOk_turn h.1 x, hn]; rfl
  rw [e1, e2]
  refine ⟨pairOk_turn h.1 x, ho, ?_, ?_, ?_⟩
  · unfold res_ComponentsOf; rw [pairOk_turn h.1 x, h.1, comps_turn g1 g2 hl]
  · unfold res1_TurnMeander; rw [ho]; exact (turn_facts g1 x).2.1
  · unfold res2_TurnMeander; rw [ho]; exact (turn_facts g2 x).2.1
theorem law_joinM {t b p q : List Int} (h : ok_JoinMeanders t b p q = true) : ok_ComponentsOf t b = true ∧ ok_ComponentsOf p q = true ∧ ok_ComponentsOf (res1_JoinMeanders t b p q) (res2_JoinMeanders t b p q) = true ∧
    res_ComponentsOf (res1_JoinMeanders t b p q) (res2_JoinMeanders t b p q) = res_ComponentsOf t b + res_ComponentsOf p q := by
  have e1 : res1_JoinMeanders t b p q = joinL t p := by unfold res1_JoinMeanders; rw [h]; rfl
  have e2 : res2_JoinMeanders t b p q = joinL b q := by unfold res2_JoinMeanders; rw [h]; rfl
  unfold ok_JoinMeanders at h
  simp only [Bool.and_eq_true, decide_eq_true_eq] at h
  obtain ⟨⟨h1, h2⟩, h3⟩ := h
  obtain ⟨g1, g2, hl⟩ := pairOk_facts h1
  obtain ⟨g3, g4, hl2⟩ := pairOk_facts h2
  have hj : pairOk (joinL t p) (joinL b q) = true := pairOk_of (join_facts g1 g3 h3).1 (join_facts g2 g4 (by omega)).1 (by rw [joinL_length, joinL_length]; omega)
  rw [e1, e2]
  refine ⟨h1, h2, hj, ?_⟩
  unfold res_ComponentsOf
  rw [hj, h1, h2, comps_join g1 g2 hl g3 g4 hl2 h3]
  simp
theorem law_parseM {s : ByteArray} (h : ok_ParseMeander s = true) : ok_MeanderText (res1_ParseMeander s) (res2_ParseMeander s) = true ∧ res_MeanderText (res1_ParseMeander s) (res2_ParseMeander s) = s := by
  unfold ok_ParseMeander at h
  obtain ⟨⟨t, b⟩, hq⟩ := Option.isSome_iff_exists.1 h
  have hb := pair_back hq
  unfold res1_ParseMeander res2_ParseMeander ok_MeanderText res_MeanderText
  rw [hq]
  simp only [Option.getD_some]
  rw [hb.1]
  exact ⟨rfl, hb.2⟩
theorem law_textM {t b : List Int} (h : ok_MeanderText t b = true) : ok_ParseMeander (res_MeanderText t b) = true ∧ res1_ParseMeander (res_MeanderText t b) = t ∧ res2_ParseMeander (res_MeanderText t b) = b := by
  unfold ok_MeanderText at h
  have e : res_MeanderText t b = pairT t b := by unfold res_MeanderText; rw [h]; rfl
  have hq := pair_read h
  rw [e]
  unfold ok_ParseMeander res1_ParseMeander res2_ParseMeander
  rw [hq]
  exact ⟨rfl, rfl, rfl⟩
theorem pairText_size (t b : List Int) : (res_MeanderText t b).size ≤ 25 := by
  unfold res_MeanderText
  cases h : pairOk t b with
  | true =>
    obtain ⟨g1, g2, hl⟩ := pairOk_facts h
    have h1 := good_len' g1
    have h2 := good_len' g2
    rw [if_pos rfl]
    unfold pairT
    rw [ByteArray.size_append, ByteArray.size_append, textT_size, textT_size]
    have : (⟨#[124]⟩ : ByteArray).size = 1 := rfl
    omega
  | false => rw [if_neg (by simp)]; decide
theorem res_Comp_bd (t b : List Int) : 0 ≤ res_ComponentsOf t b ∧ res_ComponentsOf t b ≤ 12 := by
  unfold res_ComponentsOf
  cases h : pairOk t b with
  | true =>
    have h1 := good_len' (pairOk_facts h).1
    have h2 := compsL_le t b
    rw [if_pos rfl]; omega
  | false => rw [if_neg (by simp)]; omega

end Go.Proofs.Ytbinpefogecgmab
