/- What the law FnExchangesChangeByOne says, by the functions' results (pure). -/
import Derived.Test.YtogjclmmjdhfeacExF
import Derived.Test.YtogjclmmjdhfeacExAll
import Derived.Test.YtogjclmmjdhfeacExDist
import Derived.Test.YtogjclmmjdhfeacSign
namespace Go.Proofs.Ytogjclmmjdhfeac
set_option linter.unusedSimpArgs false
set_option linter.unusedVariables false

theorem exs_sorted {l : List Int} (h : goodB l = true) : ∀ k, k + 1 < (putAll (exsL l)).length → ltL ((putAll (exsL l)).getD k []) ((putAll (exsL l)).getD (k + 1) []) = true := by
  intro k hk
  obtain ⟨h1, h2⟩ := foldl_put (exsL l) [] srtL_nil
  have hne : (putAll (exsL l)).Pairwise (fun x y => x ≠ y) := (List.Perm.pairwise_iff (fun h e => h e.symm) (by simpa [putAll] using h2)).2 (exs_apart h)
  have e1 : (putAll (exsL l)).getD k [] = (putAll (exsL l))[k]'(by omega) := by simp [List.getD, (show k < (putAll (exsL l)).length by omega)]
  have e2 : (putAll (exsL l)).getD (k + 1) [] = (putAll (exsL l))[k + 1]'hk := by simp [List.getD, hk]
  rw [e1, e2]
  have h1' : (putAll (exsL l)).Pairwise (fun a b => ltL b a = false) := h1
  have a1 := List.pairwise_iff_getElem.1 h1' k (k + 1) (by omega) hk (by omega)
  have a2 := List.pairwise_iff_getElem.1 hne k (k + 1) (by omega) hk (by omega)
  cases hl : ltL ((putAll (exsL l))[k]'(by omega)) ((putAll (exsL l))[k + 1]'hk) with
  | true => rfl
  | false => exact absurd (ltL_total _ _ hl a1) a2
/-- the pair that takes an exchange back -/
def backP (l p : List Int) : List Int := [p.getD 0 0, if l.getD (p.getD 0 0).toNat 0 < p.getD 1 0 then l.getD (p.getD 0 0).toNat 0 else l.getD (p.getD 1 0).toNat 0]
def backB (l p : List Int) : Bool := shareB (exP l p) ((backP l p).getD 0 0) ((backP l p).getD 1 0) && decide (0 ≤ (backP l p).getD 0 0 ∧ (backP l p).getD 0 0 < (backP l p).getD 1 0 ∧ (backP l p).getD 1 0 < (l.length : Int)) && exP (exP l p) (backP l p) == l && decide (sgO l (l.length / 2) = - sgO (exP l p) (l.length / 2))
def backChk (l : List Int) : Bool := (pairsL l).all (backB l) && (faceW l).length == l.length / 2 + 1 && tot (faceW l) == l.length && (faceW l).all (fun f => decide (f.length ≤ 12)) && decide (-1 ≤ sgO l (l.length / 2) ∧ sgO l (l.length / 2) ≤ 1)
theorem backC0 : (sysAll 0).all backChk = true := by kernel_rfl
theorem backC1 : (sysAll 1).all backChk = true := by kernel_rfl
theorem backC2 : (sysAll 2).all backChk = true := by kernel_rfl
theorem backC3 : (sysAll 3).all backChk = true := by kernel_rfl
theorem backC4 : (sysAll 4).all backChk = true := by kernel_rfl
theorem backC5 : (sysAll 5).all backChk = true := by kernel_rfl
theorem backC6a : ((sysAll 6).take 33).all backChk = true := by kernel_rfl
theorem backC6b : (((sysAll 6).drop 33).take 33).all backChk = true := by kernel_rfl
theorem backC6c : ((((sysAll 6).drop 33).drop 33).take 33).all backChk = true := by kernel_rfl
theorem backC6d : ((((sysAll 6).drop 33).drop 33).drop 33).all backChk = true := by kernel_rfl
theorem backC6 : (sysAll 6).all backChk = true := all_split backC6a (all_split backC6b (all_split backC6c backC6d))
theorem back_check {l : List Int} (h : goodB l = true) : backChk l = true := good_all6 backC0 backC1 backC2 backC3 backC4 backC5 backC6 h
theorem law_faces {l : List Int} (h : goodB l = true) : (faceW l).length = l.length / 2 + 1 ∧ tot (faceW l) = l.length ∧ chooseL (faceW l) = (pairsL l).length ∧ ∀ f ∈ faceW l, f.length ≤ 12 := by
  have hc := back_check h
  unfold backChk at hc
  simp only [Bool.and_eq_true, beq_iff_eq, List.all_eq_true, decide_eq_true_eq] at hc
  exact ⟨hc.1.1.1.2, hc.1.1.2, (ex_facts h).2.2.1, hc.1.2⟩
theorem sign_bd (l : List Int) : -1 ≤ res_SignOf l ∧ res_SignOf l ≤ 1 := by
  unfold res_SignOf
  cases h : goodB l with
  | false => simp
  | true =>
    have hc := back_check h
    unfold backChk at hc
    simp only [Bool.and_eq_true, beq_iff_eq, List.all_eq_true, decide_eq_true_eq] at hc
    rw [if_pos rfl]; exact hc.2
theorem pair_nat {l : List Int} {x y : Int} (h : 0 ≤ x ∧ x < y ∧ y < (l.length : Int)) (hs : shareB l x y = true) : [x, y] ∈ pairsL l := by
  obtain ⟨i, rfl⟩ := Int.eq_ofNat_of_zero_le h.1
  obtain ⟨j, rfl⟩ := Int.eq_ofNat_of_zero_le (show 0 ≤ y by omega)
  exact pairs_mem.2 ⟨i, j, by omega, by omega, hs, rfl⟩
theorem law_at {l : List Int} {i j : Int} (h : ok_ExchangeAt l i j = true) : ∃ p ∈ pairsL l, res_ExchangeAt l i j = exP l p ∧ goodB l = true := by
  have e : res_ExchangeAt l i j = exL l i j := by unfold res_ExchangeAt; unfold ok_ExchangeAt at h; rw [h]; rfl
  unfold ok_ExchangeAt okE at h
  simp only [Bool.and_eq_true, decide_eq_true_eq] at h
  exact ⟨[i, j], pair_nat h.2.1 h.2.2, e, h.1⟩
/-- what the law says of one exchange -/
theorem law_one {l : List Int} {i j : Int} (h : ok_ExchangeAt l i j = true) : goodB l = true ∧ goodB (res_ExchangeAt l i j) = true ∧ (res_ExchangeAt l i j).length = l.length ∧ l ∈ res_ExchangesOf (res_ExchangeAt l i j) ∧ res_SignOf l = - res_SignOf (res_ExchangeAt l i j) ∧
    ∀ b, goodB b = true → b.length = l.length → res_ComponentsOf (res_ExchangeAt l i j) b - res_ComponentsOf l b = 1 ∨ res_ComponentsOf (res_ExchangeAt l i j) b - res_ComponentsOf l b = -1 := by
  obtain ⟨p, hp, e, hg⟩ := law_at h
  have gq := (ex_facts hg).2.1 p hp
  have hl : (exP l p).length = l.length := exL_length _ _ _
  have hc := back_check hg
  unfold backChk at hc
  simp only [Bool.and_eq_true, List.all_eq_true] at hc
  have hb := hc.1.1.1.1 p hp
  unfold backB at hb
  simp only [Bool.and_eq_true, decide_eq_true_eq, beq_iff_eq] at hb
  obtain ⟨⟨⟨b1, b2⟩, b3⟩, b4⟩ := hb
  rw [e]
  refine ⟨hg, gq, hl, ?_, ?_, fun b gb hlb => ?_⟩
  · unfold res_ExchangesOf
    rw [gq, if_pos rfl, putAll_mem]
    unfold exsL
    refine List.mem_map.2 ⟨backP l p, ?_, b3⟩
    have := pair_nat (l := exP l p) (x := (backP l p).getD 0 0) (y := (backP l p).getD 1 0) (by rw [hl]; exact b2) b1
    exact this
  · unfold res_SignOf
    rw [hg, gq, hl]
    simp only [if_true]
    exact b4
  · have := ex_by_one hg gb hlb.symm hp
    have p1 : pairOk (exP l p) b = true := by simp [pairOk, gq, gb, hl, hlb]
    have p2 : pairOk l b = true := by simp [pairOk, hg, gb, hlb]
    unfold res_ComponentsOf
    rw [p1, p2]
    simp only [if_true]
    omega
/-- what the law says of all exchanges of a system -/
theorem law_each {l : List Int} (h : goodB l = true) : ∀ k, k < (res_ExchangesOf l).length → ok_ExchangeDistance l ((res_ExchangesOf l).getD k []) = true ∧ res_ExchangeDistance l ((res_ExchangesOf l).getD k []) = 1 ∧ ((res_ExchangesOf l).getD k []).length = l.length := by
  intro k hk
  have hm : (res_ExchangesOf l).getD k [] ∈ res_ExchangesOf l := by simp [List.getD, hk]
  generalize (res_ExchangesOf l).getD k [] = x at *
  unfold res_ExchangesOf at hm
  rw [h, if_pos rfl, putAll_mem] at hm
  unfold exsL at hm
  obtain ⟨p, hp, rfl⟩ := List.mem_map.1 hm
  have gq := (ex_facts h).2.1 p hp
  have hl : (exP l p).length = l.length := exL_length _ _ _
  have po : pairOk l (exP l p) = true := by simp [pairOk, h, gq, hl]
  refine ⟨po, ?_, hl⟩
  unfold res_ExchangeDistance
  rw [po, if_pos rfl]
  unfold distL
  rw [← comps_flip h gq hl.symm]
  -- the system itself has as many components with itself as arches; an exchange of two arches of two components merges them
  obtain ⟨i, j, _, hij, hj, hs⟩ := ex_swap h hp
  have hk := col_of h h rfl
  have hc : compsL l l = l.length / 2 := comps_own h
  have hne : colF l l i ≠ colF l l (cOf l i j) := by
    intro he
    have hcl := hk.sep i (cOf l i j) hs.la hs.lc he (fun z => z = i ∨ z = par l i) (fun z hz e => by
      rcases e with rfl | rfl
      · exact ⟨.inr rfl, .inr rfl⟩
      · have := (good_paired h i hs.la).2.2
        exact ⟨.inl this, .inl this⟩) (.inl rfl)
    rcases hcl with e | e
    · exact hs.ne e.symm
    · have f1 := good_flips h i hs.la
      have := hs.ev
      rw [e] at this
      omega
  have := differ_cnt (good_paired h) (good_paired h) (good_flips h) (good_flips h) hs hk hne
  unfold compsL at hc ⊢
  rw [hl]
  omega

end Go.Proofs.Ytogjclmmjdhfeac
