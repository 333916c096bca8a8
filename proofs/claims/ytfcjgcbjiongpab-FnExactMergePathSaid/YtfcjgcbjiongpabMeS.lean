/- Slices of Meanders whose lists lie apart: the laws' helpers on them. -/
import Derived.Test.YtfcjgcbjiongpabMeAll
import Derived.Test.YtfcjgcbjiongpabListsLaw
import Derived.Deep.RegionHeld3
namespace Go.Proofs.Ytfcjgcbjiongpab
open Go.RowKit
set_option linter.unusedSimpArgs false
set_option linter.unusedVariables false

def flatP (ps : List (List Int × List Int)) : List (List Int) := ps.flatMap (fun p => [p.1, p.2])
theorem flatP_len : ∀ ps : List (List Int × List Int), (flatP ps).length = ps.length * 2
  | [] => rfl
  | e :: r => by
    have := flatP_len r
    unfold flatP at this ⊢
    simp only [List.flatMap_cons, List.length_append, List.length_cons, List.length_nil]; omega
theorem flatP_snoc (ps : List (List Int × List Int)) (p : List Int × List Int) : flatP (ps ++ [p]) = flatP ps ++ [p.1, p.2] := by simp [flatP]
theorem flatP_at : ∀ (ps : List (List Int × List Int)) (k : Nat), k < ps.length → (flatP ps).getD (k * 2) [] = (ps.getD k ([], [])).1 ∧ (flatP ps).getD (k * 2 + 1) [] = (ps.getD k ([], [])).2
  | [], k, h => by simp at h
  | e :: r, 0, _ => ⟨rfl, rfl⟩
  | e :: r, k + 1, h => by
    have := flatP_at r k (by simpa using h)
    have h1 : flatP (e :: r) = [e.1, e.2] ++ flatP r := rfl
    have e1 : (k + 1) * 2 = k * 2 + 1 + 1 := by omega
    rw [h1, e1]
    exact this
theorem cellsML_at : ∀ (es : List (Value × Value)) (k : Nat), k < es.length → rowV (cellsML es) (k * 2) = (es.getD k noV).1 ∧ rowV (cellsML es) (k * 2 + 1) = (es.getD k noV).2
  | [], k, h => by simp at h
  | e :: r, 0, _ => ⟨rfl, rfl⟩
  | e :: r, k + 1, h => by
    have := cellsML_at r k (by simpa using h)
    have h1 : cellsML (e :: r) = [e.1, e.2] ++ cellsML r := rfl
    have e1 : (k + 1) * 2 = k * 2 + 1 + 1 := by omega
    rw [h1, e1]
    exact this

/-- a slice of Meanders that the call owns, its lists row by row -/
structure RdML (lo : Nat) (w : World) (v : Value) (n : Nat) (vs : List Value) (ls : List (List Int)) : Prop where
  len : vs.length = ls.length
  two : ls.length = n * 2
  row : w.ownsRow lo 39 2 v n vs
  own : ∀ i, i < ls.length → Own lo w (rowV vs i) (ls.getD i [])
theorem ownsRowM_below {B n : Nat} {w w' : World} {v : Value} {xs : List Value} (h : w.ownsRow B 39 2 v n xs) (hb : Below w.heap.size w w') : w'.ownsRow B 39 2 v n xs := by
  refine ⟨h.1, ?_⟩
  rcases h.2 with hn | ⟨g, cap, cur, hv, hB, hg, rest⟩
  · exact .inl hn
  · exact .inr ⟨g, cap, cur, hv, hB, (hb.block g (Array.getElem?_eq_some_iff.1 hg).1).trans hg, rest⟩
theorem RdML.below {lo n : Nat} {w w' : World} {v : Value} {vs : List Value} {ls : List (List Int)} (h : RdML lo w v n vs ls) (hb : Below w.heap.size w w') : RdML lo w' v n vs ls :=
  ⟨h.len, h.two, ownsRowM_below h.row hb, fun i hi => (h.own i hi).below hb⟩
theorem OwnML.rdML {lo : Nat} {w : World} {v : Value} {es : List (Value × Value)} {ps : List (List Int × List Int)} (h : OwnML lo w v es ps) : RdML lo w v ps.length (cellsML es) (flatP ps) := by
  refine ⟨by rw [cellsML_len, flatP_len, h.2.1], flatP_len ps, h.1, fun i hi => ?_⟩
  rw [flatP_len] at hi
  have hk : i / 2 < ps.length := by omega
  have a1 := cellsML_at es (i / 2) (by rw [h.2.1]; exact hk)
  have a2 := flatP_at ps (i / 2) hk
  have hi2 : i = i / 2 * 2 ∨ i = i / 2 * 2 + 1 := by omega
  rcases hi2 with e | e
  · rw [e, a1.1, a2.1]; exact (h.2.2 _ hk).1
  · rw [e, a1.2, a2.2]; exact (h.2.2 _ hk).2.1
theorem RdML.form {lo n : Nat} {w : World} {v : Value} {vs : List Value} {ls : List (List Int)} (h : RdML lo w v n vs ls) : ∃ a c, v = .slice a n c ∧ n ≤ c ∧ c ≤ maxLen := by
  rcases h.row.2 with ⟨rfl, rfl⟩ | ⟨g, cap, cur, hv, hB, hg, hnc, hcm, _⟩
  · exact ⟨none, 0, rfl, by omega, by unfold maxLen; omega⟩
  · exact ⟨_, cap, hv, hnc, hcm⟩
theorem RdML.at {lo n m c : Nat} {a : Option Addr} {w : World} {vs : List Value} {ls : List (List Int)} (h : RdML lo w (.slice a m c) n vs ls) (hl : 0 < n) :
    ∃ g, a = some ⟨g, 0, none⟩ ∧ (∀ i, i < n * 2 → w.cell? ⟨g, i, none⟩ = some (rowV vs i)) ∧ ∀ i, w.frozen? ⟨g, i, none⟩ = false := by
  rcases h.row.2 with ⟨_, rfl⟩ | ⟨g, cap, cur, hv, hB, hg, hnc, hcm, _⟩
  · omega
  · simp at hv
    obtain ⟨rfl, rfl, rfl⟩ := hv
    refine ⟨g, rfl, fun i hi => ?_, fun i => World.ownsRow.frozenAt h.row i⟩
    rw [World.ownsRow.cellAt h.row i (by omega)]
    simp [rowV, List.getD, List.getElem?_eq_getElem (show i < vs.length by rw [h.len, h.two]; exact hi)]

/-- the same, each block in lo .. hi - 1 and no two of the lists in one block -/
structure OwnMF (lo hi : Nat) (w : World) (v : Value) (n : Nat) (vs : List Value) (ls : List (List Int)) : Prop where
  rd : RdML lo w v n vs ls
  ends : hi ≤ w.heap.size
  inn : In v lo hi
  inr : ∀ i, i < ls.length → In (rowV vs i) lo hi
  apart : ∀ i j, i < ls.length → j < ls.length → i ≠ j → ∀ k, (rowV vs i).ownBlock = some k → (rowV vs j).ownBlock ≠ some k
theorem OwnMF.below {lo hi n : Nat} {w w' : World} {v : Value} {vs : List Value} {ls : List (List Int)} (h : OwnMF lo hi w v n vs ls) (hb : Below w.heap.size w w') : OwnMF lo hi w' v n vs ls :=
  ⟨h.rd.below hb, Nat.le_trans h.ends hb.size, h.inn, h.inr, h.apart⟩
theorem OwnMF.nil (lo : Nat) (w : World) : OwnMF lo w.heap.size w (.slice none 0 0) 0 [] [] :=
  ⟨⟨rfl, rfl, World.ownsRow_nil w lo _ _, fun i hi => by simp at hi⟩, Nat.le_refl _, fun k hk => by simp [Value.ownBlock] at hk, fun i hi => by simp at hi, fun i j hi => by simp at hi⟩
theorem OwnMF.within {b e lo hi n : Nat} {w w' : World} {v : Value} {vs : List Value} {ls : List (List Int)} (h : OwnMF b e w v n vs ls) (hw : Within lo hi w w') (ha : e ≤ lo ∨ hi ≤ b) : OwnMF b e w' v n vs ls := by
  refine ⟨⟨h.rd.len, h.rd.two, ⟨h.rd.row.1, ?_⟩, fun i hi => (h.rd.own i hi).within hw (h.inr i hi) ha⟩, Nat.le_trans h.ends hw.size, h.inn, h.inr, h.apart⟩
  rcases h.rd.row.2 with hn | ⟨g, cap, cur, rfl, hB, hg, rest⟩
  · exact .inl hn
  · refine .inr ⟨g, cap, cur, rfl, hB, (hw.block g (Array.getElem?_eq_some_iff.1 hg).1 ?_).trans hg, rest⟩
    have := h.inn g rfl; omega
theorem RdML.within {b lo hi n : Nat} {w w' : World} {v : Value} {vs : List Value} {ls : List (List Int)} (h : RdML b w v n vs ls) (hw : Within lo hi w w') (he : ∀ k, v.ownBlock = some k → k < lo) (hr : ∀ i, i < ls.length → ∀ k, (rowV vs i).ownBlock = some k → k < lo) : RdML b w' v n vs ls := by
  refine ⟨h.len, h.two, ⟨h.row.1, ?_⟩, fun i hi => (h.own i hi).within hw (show In (rowV vs i) b lo from fun k hk => ⟨((h.own i hi).lt k hk).1, hr i hi k hk⟩) (.inl (Nat.le_refl _))⟩
  rcases h.row.2 with hn | ⟨g, cap, cur, rfl, hB, hg, rest⟩
  · exact .inl hn
  · refine .inr ⟨g, cap, cur, rfl, hB, (hw.block g (Array.getElem?_eq_some_iff.1 hg).1 ?_).trans hg, rest⟩
    have := he g rfl; omega
theorem RdML.below_lt {b n : Nat} {w : World} {v : Value} {vs : List Value} {ls : List (List Int)} (h : RdML b w v n vs ls) : (∀ k, v.ownBlock = some k → k < w.heap.size) ∧ ∀ i, i < ls.length → ∀ k, (rowV vs i).ownBlock = some k → k < w.heap.size :=
  ⟨fun k hk => (h.row.lt k hk).2, fun i hi k hk => ((h.own i hi).lt k hk).2⟩
/-- a row marked -/
theorem OwnMF.marked {lo hi n : Nat} {w w' : World} {v : Value} {vs : List Value} {ls : List (List Int)} {l : List Int} {i : Nat} (h : OwnMF lo hi w v n vs ls) (hi' : i < ls.length) (hg : w.grownBy w' (rowV vs i).ownBlock) (hnew : Own lo w' (rowV vs i) l) :
    OwnMF lo hi w' v n vs (ls.set i l) := by
  refine ⟨⟨by simp [h.rd.len], by rw [List.length_set]; exact h.rd.two, ?_, fun j hj => ?_⟩, Nat.le_trans h.ends hg.size, h.inn, fun j hj => ?_, fun j j' hj hj' => ?_⟩
  · exact World.ownsRow.kept h.rd.row hg (by
      cases e : v.ownBlock with
      | none => exact .inl rfl
      | some k => exact .inr fun e' => own_apartM (h.rd.own i hi') h.rd.row k e'.symm e)
  · rw [List.length_set] at hj
    by_cases e : i = j
    · subst e; rw [getD_setL_eq hi']; exact hnew
    · rw [getD_setL_ne e]
      exact World.ownsRow.kept (h.rd.own j hj) hg (by
        cases e1 : (rowV vs j).ownBlock with
        | none => exact .inl rfl
        | some k => exact .inr fun e' => h.apart j i hj hi' (fun x => e x.symm) k e1 e'.symm)
  · rw [List.length_set] at hj; exact h.inr j hj
  · rw [List.length_set] at hj hj'; exact h.apart j j' hj hj'

set_option maxHeartbeats 2000000 in
theorem markMeanderS_any (lo hi n : Nat) (v : Value) (vs : List Value) (ls : List (List Int)) (k : Int) (w : World) (h : OwnMF lo hi w v n vs ls) (hk0 : 0 ≤ k) (hk1 : k + (tot ls : Int) ≤ 1000000000000) (hl : ∀ i, i < ls.length → (ls.getD i []).length ≤ 1000000000) :
    Calls Try.prog 29 #[v, .int .i64 k] w (fun e w' => e = .returned (.int .i64 (k + (tot ls : Int))) ∧ OwnMF lo hi w' v n vs (marksLL k ls) ∧ Within lo hi w w') := by
  obtain ⟨a, c, rfl, hlc, hcm⟩ := h.rd.form
  unfold maxLen at hcm
  have HN := Lib.hid h.rd.two; have HL := Lib.hid hl; have H0 := Lib.hid h
  have HTK : Hid (∀ i, k + (tot (ls.take i) : Int) ≤ 1000000000000) := fun i => by have := tot_take_le ls i; omega
  clear hl h hk1
  go_enter Try.func29, Try.ntmps29
  go_wp2
  go_loopw [1, 5] (fun m i wr => ∃ (j : Nat) (t : Int), j ≤ n ∧ i = .int .i64 (j : Int) ∧ m = .int .i64 t ∧ Hid (t = k + (tot (ls.take (j * 2)) : Int)) ∧ OwnMF lo hi wr (.slice a n c) n vs (curLL k ls (j * 2)) ∧ Within lo hi w wr) (fun _ i _ => n - (intOf i).toNat)
  case atStart => exact ⟨0, k, by omega, rfl, rfl, by simp [Hid, tot], by simpa [curLL] using H0.out, Within.refl _ _ _⟩
  case round =>
    obtain ⟨j, t, hj, rfl, rfl, HT, hown, hwi⟩ := hrel
    clear H0
    by_cases hlt : j < n
    · have hj0 : j * 2 < ls.length := by rw [HN.out]; omega
      have hj1 : j * 2 + 1 < ls.length := by rw [HN.out]; omega
      obtain ⟨g, rfl, hcell, _⟩ := hown.rd.at (by omega)
      have hc := hcell (j * 2) (by omega)
      have hrow := hown.rd.own (j * 2) (by rw [curLL_length]; exact hj0)
      rw [curLL_get k ls _ hj0] at hrow
      have ht1 := HTK.out (j * 2)
      rw [← HT.out] at ht1
      have ht0 : 0 ≤ t := by have := HT.out; omega
      have hlj := HL.out _ hj0
      have hlk := HL.out _ hj1
      have HCS := Lib.hid (curLL_succ k ls _ hj0)
      have HTS := Lib.hid (tot_take_succ ls _ hj0)
      have HCS1 := Lib.hid (curLL_succ k ls _ hj1)
      have HTS1 := Lib.hid (tot_take_succ ls _ hj1)
      have HCG1 := Lib.hid (curLL_get k ls _ hj1)
      have HJ0 := Lib.hid hj0; have HJ1 := Lib.hid hj1
      have HOW := Lib.hid hown; have HWI := Lib.hid hwi; have HRW := Lib.hid hrow; have HLJ := Lib.hid hlj; have HLK := Lib.hid hlk
      have hbd : t + ((ls.getD (j * 2) []).length : Int) ≤ 1000000000000 := by have := HTK.out (j * 2 + 1); rw [HTS.out] at this; have := HT.out; push_cast at *; omega
      have hbe : t + ((ls.getD (j * 2) []).length : Int) + ((ls.getD (j * 2 + 1) []).length : Int) ≤ 1000000000000 := by have := HTK.out (j * 2 + 1 + 1); rw [HTS1.out, HTS.out] at this; have := HT.out; push_cast at *; omega
      obtain ⟨q, hq⟩ : ∃ q, q = (ls.getD (j * 2) []).length := ⟨_, rfl⟩
      obtain ⟨q1, hq1⟩ : ∃ q1, q1 = (ls.getD (j * 2 + 1) []).length := ⟨_, rfl⟩
      have hbd' : t + (q : Int) ≤ 1000000000000 := by rw [hq]; exact hbd
      have hbe' : t + (q : Int) + (q1 : Int) ≤ 1000000000000 := by rw [hq, hq1]; exact hbe
      have HQ := Lib.hid hq; have HQ1 := Lib.hid hq1
      obtain ⟨pv, hpv⟩ : ∃ pv, pv = rowV vs (j * 2) := ⟨_, rfl⟩
      obtain ⟨pv1, hpv1⟩ : ∃ pv1, pv1 = rowV vs (j * 2 + 1) := ⟨_, rfl⟩
      rw [← hpv] at hc
      have HPV := Lib.hid hpv; have HPV1 := Lib.hid hpv1
      clear hcell hown hwi hrow hlj hlk hbd hbe hq hq1 hpv hpv1 hj0 hj1
      go_wp2_with (first
        | (go_at_call 15; ((with_reducible refine (markIntS_any lo pv (ls.getD (j * 2) []) t _ (by rw [HPV.out]; exact HRW.out) ht0 (by omega) HLJ.out).mono ?_); rintro e w1 ⟨rfl, ho, hgr⟩; rw [← HQ.out]; have HGR := Lib.hid hgr; have HO := Lib.hid ho; have hm := OwnMF.marked (l := marks (k + (tot (ls.take (j * 2)) : Int)) (ls.getD (j * 2) []).length) HOW.out (by rw [curLL_length]; exact HJ0.out) (by rw [← HPV.out]; exact HGR.out) (by rw [← HPV.out, ← HT.out]; exact HO.out); rw [HCS.out] at hm; have HM := Lib.hid hm; have HW1 := Lib.hid (HWI.out.trans (Within.of_grown HGR.out (by rw [HPV.out]; exact HOW.out.inr _ (by rw [curLL_length]; exact HJ0.out)))); have HT1 : Hid (t + (q : Int) = k + (tot (ls.take (j * 2 + 1)) : Int)) := (show t + (q : Int) = _ by rw [HTS.out, HT.out, HQ.out]; push_cast; omega); obtain ⟨g', hg', hcell', _⟩ := hm.rd.at (by omega); simp at hg'; subst hg'; have hc1 := hcell' (j * 2 + 1) (by omega); rw [← HPV1.out] at hc1; have HRW1 := Lib.hid (hm.rd.own (j * 2 + 1) (by rw [curLL_length]; exact HJ1.out)); clear hgr ho hm hcell' hc))
        | (go_at_call 15; ((with_reducible refine (markIntS_any lo pv1 (ls.getD (j * 2 + 1) []) (t + (q : Int)) _ (by have h := HRW1.out; rw [HCG1.out] at h; rw [HPV1.out]; exact h) (by omega) (by omega) HLK.out).mono ?_); rintro e w2 ⟨rfl, ho, hgr⟩; rw [← HQ1.out]; have HGR1 := Lib.hid hgr; have HO1 := Lib.hid ho; clear hgr ho)))
      have hm2 := OwnMF.marked (l := marks (k + (tot (ls.take (j * 2 + 1)) : Int)) (ls.getD (j * 2 + 1) []).length) HM.out (by rw [curLL_length]; exact HJ1.out) (by rw [← HPV1.out]; exact HGR1.out) (by rw [← HPV1.out, ← HT1.out]; exact HO1.out)
      rw [HCS1.out] at hm2
      have HM2 := Lib.hid hm2
      have HW2 := Lib.hid (HW1.out.trans (Within.of_grown HGR1.out (by rw [HPV1.out]; exact HM.out.inr _ (by rw [curLL_length]; exact HJ1.out))))
      have HT2 : Hid (t + (q : Int) + (q1 : Int) = k + (tot (ls.take ((j + 1) * 2)) : Int)) := by
        show t + (q : Int) + (q1 : Int) = _
        rw [show (j + 1) * 2 = j * 2 + 1 + 1 by omega, HTS1.out, HQ1.out, HT1.out]; push_cast; omega
      clear hm2
      go_roundw
      case rel => exact ⟨j + 1, _, by omega, by go_num, rfl, HT2, by rw [show (j + 1) * 2 = j * 2 + 1 + 1 by omega]; exact HM2.out, HW2.out⟩
      case measure => simp [intOf]; omega
    · obtain rfl : j = n := by omega
      go_wp2
      go_ret
      have ht := HT.out
      have e1 : ls.take (j * 2) = ls := by rw [← HN.out]; exact List.take_length
      rw [e1] at ht
      refine ⟨by rw [ht]; rfl, ?_, hwi⟩
      have e2 : curLL k ls (j * 2) = marksLL k ls := by
        unfold curLL
        rw [← HN.out, List.drop_length, List.append_nil, List.take_of_length_le (by rw [marksLL_length]; exact Nat.le_refl _)]
      rw [e2] at hown
      exact hown

set_option maxHeartbeats 2000000 in
theorem heldMeanderS_ok (lo n : Nat) (v : Value) (vs : List Value) (ls : List (List Int)) (k : Int) (w : World) (h : RdML lo w v n vs (marksLL k ls)) (hk0 : 0 ≤ k) (hk1 : k + (tot ls : Int) ≤ 1000000000000) (hl : ∀ i, i < ls.length → (ls.getD i []).length ≤ 1000000000) :
    Calls Try.prog 30 #[v, .int .i64 k] w (HeldOk w k (tot ls)) := by
  obtain ⟨a, c, rfl, hlc, hcm⟩ := h.form
  unfold maxLen at hcm
  have hml := marksLL_length k ls
  have HN := Lib.hid (hml.symm.trans h.two); have HL := Lib.hid hl; have H0 := Lib.hid h; have HML := Lib.hid hml
  have HTK : Hid (∀ i, k + (tot (ls.take i) : Int) ≤ 1000000000000) := fun i => by have := tot_take_le ls i; omega
  have HGT : Hid (∀ i, i < ls.length → (marksLL k ls).getD i [] = marks (k + (tot (ls.take i) : Int)) (ls.getD i []).length) := fun i hi => marksLL_get ls k i hi
  clear hl h hk1 hml
  go_enter Try.func30, Try.ntmps30
  go_wp2
  go_loopw [1, 5] (fun m i wr => ∃ (j : Nat) (t : Int), j ≤ n ∧ i = .int .i64 (j : Int) ∧ m = .int .i64 t ∧ Hid (t = k + (tot (ls.take (j * 2)) : Int)) ∧ RdML lo wr (.slice a n c) n vs (marksLL k ls) ∧ Below w.heap.size w wr) (fun _ i _ => n - (intOf i).toNat)
  case atStart => exact ⟨0, k, by omega, rfl, rfl, by simp [Hid, tot], H0.out, Below.refl _ _⟩
  case round =>
    obtain ⟨j, t, hj, rfl, rfl, HT, hown, hwi⟩ := hrel
    clear H0
    by_cases hlt : j < n
    · have hj0 : j * 2 < ls.length := by rw [HN.out]; omega
      have hj1 : j * 2 + 1 < ls.length := by rw [HN.out]; omega
      obtain ⟨g, rfl, hcell, _⟩ := hown.at (by omega)
      have hc := hcell (j * 2) (by omega)
      have hrow := hown.own (j * 2) (by rw [HML.out]; exact hj0)
      have hrow1 := hown.own (j * 2 + 1) (by rw [HML.out]; exact hj1)
      rw [HGT.out _ hj0, ← HT.out] at hrow
      rw [HGT.out _ hj1] at hrow1
      have ht1 := HTK.out (j * 2)
      rw [← HT.out] at ht1
      have ht0 : 0 ≤ t := by have := HT.out; omega
      have hlj := HL.out _ hj0
      have hlk := HL.out _ hj1
      have HTS := Lib.hid (tot_take_succ ls _ hj0)
      have HTS1 := Lib.hid (tot_take_succ ls _ hj1)
      have HOW := Lib.hid hown; have HWI := Lib.hid hwi; have HRW := Lib.hid hrow; have HRW1 := Lib.hid hrow1; have HLJ := Lib.hid hlj; have HLK := Lib.hid hlk
      have hbd : t + ((ls.getD (j * 2) []).length : Int) ≤ 1000000000000 := by have := HTK.out (j * 2 + 1); rw [HTS.out] at this; have := HT.out; push_cast at *; omega
      have hbe : t + ((ls.getD (j * 2) []).length : Int) + ((ls.getD (j * 2 + 1) []).length : Int) ≤ 1000000000000 := by have := HTK.out (j * 2 + 1 + 1); rw [HTS1.out, HTS.out] at this; have := HT.out; push_cast at *; omega
      obtain ⟨q, hq⟩ : ∃ q, q = (ls.getD (j * 2) []).length := ⟨_, rfl⟩
      obtain ⟨q1, hq1⟩ : ∃ q1, q1 = (ls.getD (j * 2 + 1) []).length := ⟨_, rfl⟩
      have hbd' : t + (q : Int) ≤ 1000000000000 := by rw [hq]; exact hbd
      have hbe' : t + (q : Int) + (q1 : Int) ≤ 1000000000000 := by rw [hq, hq1]; exact hbe
      have HQ := Lib.hid hq; have HQ1 := Lib.hid hq1
      have HT1 : Hid (t + (q : Int) = k + (tot (ls.take (j * 2 + 1)) : Int)) := by show t + (q : Int) = _; rw [HTS.out, HT.out, HQ.out]; push_cast; omega
      obtain ⟨pv, hpv⟩ : ∃ pv, pv = rowV vs (j * 2) := ⟨_, rfl⟩
      obtain ⟨pv1, hpv1⟩ : ∃ pv1, pv1 = rowV vs (j * 2 + 1) := ⟨_, rfl⟩
      rw [← hpv] at hc
      have HPV := Lib.hid hpv; have HPV1 := Lib.hid hpv1
      clear hcell hown hwi hrow hrow1 hlj hlk hbd hbe hq hq1 hpv hpv1 hj0 hj1
      go_wp2_with (first
        | (go_at_call 37; ((with_reducible refine (heldIntS_ok pv t (ls.getD (j * 2) []).length _ (by rw [HPV.out]; exact HRW.out.rd) ht0 (by omega) HLJ.out).mono ?_); rintro e w1 ⟨rfl, hb1⟩; rw [← HQ.out]; have HB1 := Lib.hid hb1; have HM := Lib.hid (HOW.out.below hb1); obtain ⟨g', hg', hcell', _⟩ := HM.out.at (by omega); simp at hg'; subst hg'; have hc1 := hcell' (j * 2 + 1) (by omega); rw [← HPV1.out] at hc1; clear hb1 hcell' hc))
        | (go_at_call 37; ((with_reducible refine (heldIntS_ok pv1 (t + (q : Int)) (ls.getD (j * 2 + 1) []).length _ (by rw [HPV1.out, HT1.out]; exact (HRW1.out.below HB1.out).rd) (by omega) (by omega) HLK.out).mono ?_); rintro e w2 ⟨rfl, hb2⟩; rw [← HQ1.out]; have HB2 := Lib.hid hb2; clear hb2)))
      have HM2 := Lib.hid (HM.out.below HB2.out)
      have HW2 := Lib.hid (Below.step (Below.step HWI.out HB1.out) HB2.out)
      have HT2 : Hid (t + (q : Int) + (q1 : Int) = k + (tot (ls.take ((j + 1) * 2)) : Int)) := by
        show t + (q : Int) + (q1 : Int) = _
        rw [show (j + 1) * 2 = j * 2 + 1 + 1 by omega, HTS1.out, HQ1.out, HT1.out]; push_cast; omega
      go_roundw
      case rel => exact ⟨j + 1, _, by omega, by go_num, rfl, HT2, HM2.out, HW2.out⟩
      case measure => simp [intOf]; omega
    · obtain rfl : j = n := by omega
      go_wp2
      go_ret
      have ht := HT.out
      have e1 : ls.take (j * 2) = ls := by rw [← HN.out]; exact List.take_length
      rw [e1] at ht
      exact ⟨by rw [ht]; rfl, hwi⟩

theorem held4_start {w : World} {a b c d : Addr} {x y u v : Value} (h1 : w.cell? a = some x) (h2 : w.cell? b = some y) (h3 : w.cell? c = some u) (h4 : w.cell? d = some v) :
    Hid (Below w.heap.size w w.drew) ∧ w.drew.cell? a = some x ∧ w.drew.cell? b = some y ∧ w.drew.cell? c = some u ∧ w.drew.cell? d = some v :=
  ⟨Below.drew (Below.refl _ _), h1, h2, h3, h4⟩
theorem held4_keep {w w1 w2 : World} {a b c d : Addr} {x y u v : Value} (h : Hid (Below w.heap.size w w1) ∧ w1.cell? a = some x ∧ w1.cell? b = some y ∧ w1.cell? c = some u ∧ w1.cell? d = some v) (hb : Below w1.heap.size w1 w2) :
    Hid (Below w.heap.size w w2) ∧ w2.cell? a = some x ∧ w2.cell? b = some y ∧ w2.cell? c = some u ∧ w2.cell? d = some v := by
  have k : ∀ (a : Addr) v, w1.cell? a = some v → w2.cell? a = some v := fun a v hv => (hb.cell (World.block_lt_of_cell? w1 _ hv)).trans hv
  exact ⟨h.1.out.trans (hb.mono h.1.out.size), k _ _ h.2.1, k _ _ h.2.2.1, k _ _ h.2.2.2.1, k _ _ h.2.2.2.2⟩
theorem held4_out {w w1 : World} {a b c d : Addr} {x y u v : Value} (h : Hid (Below w.heap.size w w1) ∧ w1.cell? a = some x ∧ w1.cell? b = some y ∧ w1.cell? c = some u ∧ w1.cell? d = some v) : Below w.heap.size w w1 := h.1

set_option maxHeartbeats 2000000 in
theorem eqMeanderS_ok (b1 b2 n : Nat) (v1 v2 : Value) (vs1 vs2 : List Value) (ls : List (List Int)) (w : World) (h1 : RdML b1 w v1 n vs1 ls) (h2 : RdML b2 w v2 n vs2 ls) :
    Calls Try.prog 26 #[v1, v2] w (Good w) := by
  obtain ⟨a1, c1, rfl, hlc1, hcm1⟩ := h1.form
  obtain ⟨a2, c2, rfl, hlc2, hcm2⟩ := h2.form
  unfold maxLen at hcm1 hcm2
  have HN := Lib.hid h1.two; have H1 := Lib.hid h1; have H2 := Lib.hid h2
  clear h1 h2
  go_enter Try.func26, Try.ntmps26
  go_wp2
  go_loopw [5] (fun i wr => ∃ j : Nat, j ≤ n ∧ i = .int .i64 (j : Int) ∧ RdML b1 wr (.slice a1 n c1) n vs1 ls ∧ RdML b2 wr (.slice a2 n c2) n vs2 ls ∧ Below w.heap.size w wr) (fun i _ => n - (intOf i).toNat)
  case atStart => exact ⟨0, by omega, rfl, H1.out, H2.out, Below.refl _ _⟩
  case round =>
    obtain ⟨j, hj, rfl, ho1, ho2, hwi⟩ := hrel
    clear H1 H2
    by_cases hlt : j < n
    · have hj0 : j * 2 < ls.length := by rw [HN.out]; omega
      have hj1 : j * 2 + 1 < ls.length := by rw [HN.out]; omega
      obtain ⟨g1, rfl, hcell1, _⟩ := ho1.at (by omega)
      obtain ⟨g2, rfl, hcell2, _⟩ := ho2.at (by omega)
      have hc1 := hcell1 (j * 2) (by omega)
      have hc2 := hcell2 (j * 2) (by omega)
      have hd1 := hcell1 (j * 2 + 1) (by omega)
      have hd2 := hcell2 (j * 2 + 1) (by omega)
      have hr1 := (ho1.own _ hj0).rd
      have hr2 := (ho2.own _ hj0).rd
      have hs1 := (ho1.own _ hj1).rd
      have hs2 := (ho2.own _ hj1).rd
      generalize ls.getD (j * 2) [] = t at hr1 hr2
      generalize ls.getD (j * 2 + 1) [] = b at hs1 hs2
      generalize rowV vs1 (j * 2) = p1 at hc1 hr1
      generalize rowV vs2 (j * 2) = p2 at hc2 hr2
      generalize rowV vs1 (j * 2 + 1) = q1 at hd1 hs1
      generalize rowV vs2 (j * 2 + 1) = q2 at hd2 hs2
      have HO1 := Lib.hid ho1; have HO2 := Lib.hid ho2; have HWI := Lib.hid hwi; have HR1 := Lib.hid hr1; have HR2 := Lib.hid hr2; have HS1 := Lib.hid hs1; have HS2 := Lib.hid hs2
      clear hcell1 hcell2 ho1 ho2 hwi hr1 hr2 hs1 hs2 hj0 hj1
      go_wp2_with fail
      generalize wr = wa at *
      go_region_held3 (fun w' => Hid (Below wa.heap.size wa w') ∧ w'.cell? ⟨g1, j * 2, none⟩ = some p1 ∧ w'.cell? ⟨g1, j * 2 + 1, none⟩ = some q1 ∧ w'.cell? ⟨g2, j * 2, none⟩ = some p2 ∧ w'.cell? ⟨g2, j * 2 + 1, none⟩ = some q2)
        (first | assumption | exact held4_start hc1 hd1 hc2 hd2 | exact held4_keep (by assumption) (by assumption))
        (first
          | (go_at_call 27; ((refine (eqMeander_ok _ _ _ _ t b _ (HR1.out.below (Below.drew (Below.refl _ _))) (HS1.out.below (Below.drew (Below.refl _ _))) (HR2.out.below (Below.drew (Below.refl _ _))) (HS2.out.below (Below.drew (Below.refl _ _)))).mono ?_); rintro e' w' ⟨rfl, hb'⟩)))
      have hb : Below wa.heap.size wa w' := held4_out (by assumption)
      go_wp2_with fail
      go_roundw
      case rel => exact ⟨j + 1, by omega, by go_num, HO1.out.below hb, HO2.out.below hb, Below.step HWI.out hb⟩
      case measure => simp [intOf]; omega
    · obtain rfl : j = n := by omega
      go_wp2
      go_ret
      exact ⟨rfl, hwi⟩

end Go.Proofs.Ytfcjgcbjiongpab
