/- Contracts of the laws' own helpers on slices of slices of int. -/
import Derived.Test.YteeoepbbocdchaaLists
import Derived.Deep.QuietTactic
import Derived.BigQuiet
namespace Go.Proofs.Yteeoepbbocdchaa
open Go.RowKit
set_option linter.unusedSimpArgs false
set_option linter.unusedVariables false

theorem OwnLL.within {b e lo hi : Nat} {w w' : World} {v : Value} {vs : List Value} {ls : List (List Int)} (h : OwnLL b e w v vs ls) (hw : Within lo hi w w') (ha : e ≤ lo ∨ hi ≤ b) : OwnLL b e w' v vs ls := by
  refine ⟨Nat.le_trans h.ends hw.size, h.len, ⟨h.row.1, ?_⟩, fun i hi => (h.own i hi).within hw (h.inr i hi) ha, h.inn, h.inr, h.apart⟩
  rcases h.row.2 with hn | ⟨g, cap, cur, rfl, hB, hg, rest⟩
  · exact .inl hn
  · refine .inr ⟨g, cap, cur, rfl, hB, (hw.block g (Array.getElem?_eq_some_iff.1 hg).1 ?_).trans hg, rest⟩
    have := h.inn g rfl; omega

def tot (ls : List (List Int)) : Nat := (ls.map List.length).sum
theorem tot_cons (l : List Int) (ls : List (List Int)) : tot (l :: ls) = l.length + tot ls := by simp [tot]
theorem tot_take_succ (ls : List (List Int)) (i : Nat) (h : i < ls.length) : tot (ls.take (i + 1)) = tot (ls.take i) + (ls.getD i []).length := by
  unfold tot
  rw [List.take_succ_eq_append_getElem h, List.map_append, List.sum_append_nat]
  simp [List.getD, h]
theorem tot_take_le (ls : List (List Int)) (i : Nat) : tot (ls.take i) ≤ tot ls := by
  have : tot ls = tot (ls.take i) + tot (ls.drop i) := by
    unfold tot
    rw [← List.sum_append_nat, ← List.map_append, List.take_append_drop]
  omega
theorem tot_le {K : Nat} : ∀ {ls : List (List Int)}, (∀ i, i < ls.length → (ls.getD i []).length ≤ K) → tot ls ≤ ls.length * K
  | [], _ => by simp [tot]
  | l :: r, h => by
    have h0 := h 0 (by simp)
    have h1 := tot_le (ls := r) (fun i hi => by have := h (i + 1) (by simpa using hi); simpa using this)
    rw [tot_cons, List.length_cons, Nat.add_mul]
    simp at h0
    omega
def marksLL (k : Int) : List (List Int) → List (List Int)
  | [] => []
  | l :: r => marks k l.length :: marksLL (k + (l.length : Int)) r
theorem marksLL_length : ∀ (k : Int) (ls : List (List Int)), (marksLL k ls).length = ls.length
  | k, [] => rfl
  | k, l :: r => by simp [marksLL, marksLL_length]
theorem marksLL_get : ∀ (ls : List (List Int)) (k : Int) (i : Nat), i < ls.length → (marksLL k ls).getD i [] = marks (k + (tot (ls.take i) : Int)) (ls.getD i []).length
  | [], k, i, h => by simp at h
  | l :: r, k, 0, h => by simp [marksLL, tot]
  | l :: r, k, i + 1, h => by
    have := marksLL_get r (k + (l.length : Int)) i (by simpa using h)
    simp only [marksLL, List.getD_cons_succ, this, List.take_succ_cons, tot_cons]
    congr 1
    push_cast; omega
theorem marksLL_tot : ∀ (k : Int) (ls : List (List Int)), tot (marksLL k ls) = tot ls
  | k, [] => rfl
  | k, l :: r => by rw [marksLL, tot_cons, tot_cons, marks_length, marksLL_tot]
/-- the first i rows marked -/
def curLL (k : Int) (ls : List (List Int)) (i : Nat) : List (List Int) := (marksLL k ls).take i ++ ls.drop i
theorem curLL_length (k : Int) (ls : List (List Int)) (i : Nat) : (curLL k ls i).length = ls.length := by
  simp [curLL, marksLL_length]; omega
theorem curLL_get (k : Int) (ls : List (List Int)) (i : Nat) (h : i < ls.length) : (curLL k ls i).getD i [] = ls.getD i [] := by
  have h1 : ((marksLL k ls).take i).length = i := by rw [List.length_take, marksLL_length]; omega
  rw [curLL, List.getD, List.getElem?_append_right (by omega), h1, Nat.sub_self]
  simp [List.getD]
theorem curLL_succ (k : Int) (ls : List (List Int)) (i : Nat) (h : i < ls.length) : (curLL k ls i).set i (marks (k + (tot (ls.take i) : Int)) (ls.getD i []).length) = curLL k ls (i + 1) := by
  have h1 : ((marksLL k ls).take i).length = i := by rw [List.length_take, marksLL_length]; omega
  have hm := marksLL_length k ls
  unfold curLL
  rw [List.set_append_right _ _ (by omega), h1, Nat.sub_self, List.drop_eq_getElem_cons h, List.set_cons_zero, List.take_succ_eq_append_getElem (show i < (marksLL k ls).length by omega), List.append_assoc, ← marksLL_get ls k i h]
  simp [List.getD, show i < (marksLL k ls).length by omega]

/-- a row marked -/
theorem OwnLL.marked {lo hi : Nat} {w w' : World} {v : Value} {vs : List Value} {ls : List (List Int)} {l : List Int} {i : Nat} (h : OwnLL lo hi w v vs ls) (hi' : i < ls.length) (hg : w.grownBy w' (rowV vs i).ownBlock) (hnew : Own lo w' (rowV vs i) l) :
    OwnLL lo hi w' v vs (ls.set i l) := by
  refine ⟨Nat.le_trans h.ends hg.size, by simp [h.len], ?_, fun j hj => ?_, h.inn, fun j hj => ?_, fun j j' hj hj' => ?_⟩
  · rw [List.length_set]
    exact World.ownsRow.kept h.row hg (by
      cases e : v.ownBlock with
      | none => exact .inl rfl
      | some k => exact .inr fun e' => own_apart (h.own i hi') h.row k e'.symm e)
  · rw [List.length_set] at hj
    by_cases e : i = j
    · subst e; rw [getD_setL_eq hi']; exact hnew
    · rw [getD_setL_ne e]
      exact World.ownsRow.kept (h.own j hj) hg (by
        cases e1 : (rowV vs j).ownBlock with
        | none => exact .inl rfl
        | some k => exact .inr fun e' => h.apart j i hj hi' (fun x => e x.symm) k e1 e'.symm)
  · rw [List.length_set] at hj; exact h.inr j hj
  · rw [List.length_set] at hj hj'; exact h.apart j j' hj hj'

def MarkedLL (lo hi : Nat) (w : World) (v : Value) (vs : List Value) (k : Int) (ls : List (List Int)) (e : Ending) (w' : World) : Prop :=
  e = .returned (.int .i64 (k + (tot ls : Int))) ∧ OwnLL lo hi w' v vs (marksLL k ls) ∧ Within lo hi w w'

set_option maxHeartbeats 1000000 in
theorem markIntSS_any (lo hi : Nat) (v : Value) (vs : List Value) (ls : List (List Int)) (k : Int) (w : World) (h : OwnLL lo hi w v vs ls) (hk0 : 0 ≤ k) (hk1 : k + (tot ls : Int) ≤ 1000000000000) (hl : ∀ i, i < ls.length → (ls.getD i []).length ≤ 1000000000) :
    Calls Try.prog 17 #[v, .int .i64 k] w (MarkedLL lo hi w v vs k ls) := by
  obtain ⟨a, c, rfl, hlc, hcm⟩ := h.form
  unfold maxLen at hcm
  obtain ⟨n, hn⟩ : ∃ n, n = ls.length := ⟨_, rfl⟩
  rw [← hn] at hlc hl h ⊢
  have HN := Lib.hid hn; have HL := Lib.hid hl; have H0 := Lib.hid h
  have HTK : Hid (∀ i, k + (tot (ls.take i) : Int) ≤ 1000000000000) := fun i => by have := tot_take_le ls i; omega
  clear hn hl h hk1
  go_enter Try.func17, Try.ntmps17
  go_wp2
  go_loopw [1, 5] (fun m i wr => ∃ (j : Nat) (t : Int), j ≤ n ∧ i = .int .i64 (j : Int) ∧ m = .int .i64 t ∧ Hid (t = k + (tot (ls.take j) : Int)) ∧ OwnLL lo hi wr (.slice a n c) vs (curLL k ls j) ∧ Within lo hi w wr) (fun _ i _ => n - (intOf i).toNat)
  case atStart => exact ⟨0, k, by omega, rfl, rfl, by simp [Hid, tot], by simpa [curLL] using H0.out, Within.refl _ _ _⟩
  case round =>
    obtain ⟨j, t, hj, rfl, rfl, HT, hown, hwi⟩ := hrel
    clear H0
    by_cases hlt : j < n
    · have hjl : j < ls.length := by rw [← HN.out]; exact hlt
      obtain ⟨g, rfl, hg0, hg1, hcell, _⟩ := hown.at (by rw [curLL_length]; omega)
      have hc := hcell j (by rw [curLL_length]; exact hjl)
      have hrow := hown.own j (by rw [curLL_length]; exact hjl)
      rw [curLL_get k ls j hjl] at hrow
      have ht1 := HTK.out j
      rw [← HT.out] at ht1
      have ht0 : 0 ≤ t := by have := HT.out; omega
      have hlj := HL.out j hlt
      have HCS := Lib.hid (curLL_succ k ls j hjl)
      have HTS := Lib.hid (tot_take_succ ls j hjl)
      have HOW := Lib.hid hown; have HWI := Lib.hid hwi; have HRW := Lib.hid hrow; have HLJ := Lib.hid hlj
      have hbd : t + ((ls.getD j []).length : Int) ≤ 1000000000000 := by have := HTK.out (j + 1); rw [HTS.out] at this; have := HT.out; push_cast at *; omega
      obtain ⟨q, hq⟩ : ∃ q, q = (ls.getD j []).length := ⟨_, rfl⟩
      have hbd' : t + (q : Int) ≤ 1000000000000 := by rw [hq]; exact hbd
      have HQ := Lib.hid hq
      obtain ⟨pv, hpv⟩ : ∃ pv, pv = rowV vs j := ⟨_, rfl⟩
      rw [← hpv] at hc
      have HPV := Lib.hid hpv
      clear hcell hown hwi hrow hlj hbd hq hpv
      go_wp2_with (go_at_call 16; ((with_reducible refine (markIntS_any lo pv (ls.getD j []) t _ (by rw [HPV.out]; exact HRW.out) ht0 (by omega) HLJ.out).mono ?_); rintro e w1 ⟨rfl, ho, hgr⟩; rw [← HQ.out]; have HGR := Lib.hid hgr; have HO := Lib.hid ho; clear hgr ho))
      have hm := OwnLL.marked (l := marks (k + (tot (ls.take j) : Int)) (ls.getD j []).length) HOW.out (by rw [curLL_length]; exact hjl) (by rw [← HPV.out]; exact HGR.out) (by rw [← HPV.out, ← HT.out]; exact HO.out)
      rw [HCS.out] at hm
      have HM := Lib.hid hm
      have HW2 := Lib.hid (HWI.out.trans (Within.of_grown HGR.out (by rw [HPV.out]; exact HOW.out.inr j (by rw [curLL_length]; exact hjl))))
      have HT2 : Hid (t + (q : Int) = k + (tot (ls.take (j + 1)) : Int)) := by show t + (q : Int) = _; rw [HTS.out, HT.out, HQ.out]; push_cast; omega
      clear hm
      go_roundw
      case rel => exact ⟨j + 1, _, by omega, by go_num, rfl, HT2, HM.out, HW2.out⟩
      case measure => simp [intOf]; omega
    · obtain rfl : j = n := by omega
      go_wp2
      go_ret
      have ht := HT.out
      have e1 : ls.take j = ls := by rw [HN.out]; exact List.take_length
      rw [e1] at ht
      refine ⟨by rw [ht]; rfl, ?_, hwi⟩
      have e2 : curLL k ls j = marksLL k ls := by
        unfold curLL
        rw [HN.out, List.drop_length, List.append_nil, List.take_of_length_le (by rw [marksLL_length]; exact Nat.le_refl _)]
      rw [e2] at hown
      exact hown

set_option maxHeartbeats 1000000 in
theorem heldIntSS_ok (lo hi : Nat) (v : Value) (vs : List Value) (ls : List (List Int)) (k : Int) (w : World) (h : OwnLL lo hi w v vs (marksLL k ls)) (hk0 : 0 ≤ k) (hk1 : k + (tot ls : Int) ≤ 1000000000000) (hl : ∀ i, i < ls.length → (ls.getD i []).length ≤ 1000000000) :
    Calls Try.prog 18 #[v, .int .i64 k] w (HeldOk w k (tot ls)) := by
  obtain ⟨a, c, rfl, hlc, hcm⟩ := h.form
  unfold maxLen at hcm
  have hml := marksLL_length k ls
  obtain ⟨n, hn⟩ : ∃ n, n = ls.length := ⟨_, rfl⟩
  rw [hml] at hlc h ⊢
  rw [← hn] at hlc hl h hml ⊢
  have HN := Lib.hid hn; have HL := Lib.hid hl; have H0 := Lib.hid h; have HML := Lib.hid hml
  have HTK : Hid (∀ i, k + (tot (ls.take i) : Int) ≤ 1000000000000) := fun i => by have := tot_take_le ls i; omega
  have HGT : Hid (∀ i, i < n → (marksLL k ls).getD i [] = marks (k + (tot (ls.take i) : Int)) (ls.getD i []).length) := fun i hi => marksLL_get ls k i (by omega)
  clear hn hl h hk1 hml
  go_enter Try.func18, Try.ntmps18
  go_wp2
  go_loopw [1, 5] (fun m i wr => ∃ (j : Nat) (t : Int), j ≤ n ∧ i = .int .i64 (j : Int) ∧ m = .int .i64 t ∧ Hid (t = k + (tot (ls.take j) : Int)) ∧ OwnLL lo hi wr (.slice a n c) vs (marksLL k ls) ∧ Below w.heap.size w wr) (fun _ i _ => n - (intOf i).toNat)
  case atStart => exact ⟨0, k, by omega, rfl, rfl, by simp [Hid, tot], H0.out, Below.refl _ _⟩
  case round =>
    obtain ⟨j, t, hj, rfl, rfl, HT, hown, hwi⟩ := hrel
    clear H0
    by_cases hlt : j < n
    · have hjl : j < ls.length := by rw [← HN.out]; exact hlt
      obtain ⟨g, rfl, hg0, hg1, hcell, _⟩ := hown.at (by rw [HML.out]; omega)
      have hc := hcell j (by rw [HML.out]; exact hlt)
      have hrow := hown.own j (by rw [HML.out]; exact hlt)
      rw [HGT.out j hlt, ← HT.out] at hrow
      have ht1 := HTK.out j
      rw [← HT.out] at ht1
      have ht0 : 0 ≤ t := by have := HT.out; omega
      have hlj := HL.out j hlt
      have HTS := Lib.hid (tot_take_succ ls j hjl)
      have HOW := Lib.hid hown; have HWI := Lib.hid hwi; have HRW := Lib.hid hrow; have HLJ := Lib.hid hlj
      have hbd : t + ((ls.getD j []).length : Int) ≤ 1000000000000 := by have := HTK.out (j + 1); rw [HTS.out] at this; have := HT.out; push_cast at *; omega
      obtain ⟨q, hq⟩ : ∃ q, q = (ls.getD j []).length := ⟨_, rfl⟩
      have hbd' : t + (q : Int) ≤ 1000000000000 := by rw [hq]; exact hbd
      have HQ := Lib.hid hq
      obtain ⟨pv, hpv⟩ : ∃ pv, pv = rowV vs j := ⟨_, rfl⟩
      rw [← hpv] at hc
      have HPV := Lib.hid hpv
      clear hcell hown hwi hrow hlj hbd hq hpv
      go_wp2_with (go_at_call 52; ((with_reducible refine (heldIntS_ok pv t (ls.getD j []).length _ (by rw [HPV.out]; exact HRW.out.rd) ht0 (by omega) HLJ.out).mono ?_); rintro e w1 ⟨rfl, hb1⟩; rw [← HQ.out]; have HB1 := Lib.hid hb1; clear hb1))
      have HM := Lib.hid (HOW.out.below HB1.out)
      have HW2 := Lib.hid (Below.step HWI.out HB1.out)
      have HT2 : Hid (t + (q : Int) = k + (tot (ls.take (j + 1)) : Int)) := by show t + (q : Int) = _; rw [HTS.out, HT.out, HQ.out]; push_cast; omega
      go_roundw
      case rel => exact ⟨j + 1, _, by omega, by go_num, rfl, HT2, HM.out, HW2.out⟩
      case measure => simp [intOf]; omega
    · obtain rfl : j = n := by omega
      go_wp2
      go_ret
      have ht := HT.out
      have e1 : ls.take j = ls := by rw [HN.out]; exact List.take_length
      rw [e1] at ht
      exact ⟨by rw [ht]; rfl, hwi⟩

set_option maxHeartbeats 1000000 in
theorem eqIntSS_ok (b1 e1 b2 e2 : Nat) (v1 v2 : Value) (vs1 vs2 : List Value) (ls : List (List Int)) (w : World) (h1 : OwnLL b1 e1 w v1 vs1 ls) (h2 : OwnLL b2 e2 w v2 vs2 ls) :
    Calls Try.prog 14 #[v1, v2] w (Good w) := by
  obtain ⟨a1, c1, rfl, hlc1, hcm1⟩ := h1.form
  obtain ⟨a2, c2, rfl, hlc2, hcm2⟩ := h2.form
  unfold maxLen at hcm1 hcm2
  obtain ⟨n, hn⟩ : ∃ n, n = ls.length := ⟨_, rfl⟩
  rw [← hn] at hlc1 hlc2 h1 h2 ⊢
  have HN := Lib.hid hn; have H1 := Lib.hid h1; have H2 := Lib.hid h2
  clear hn h1 h2
  go_enter Try.func14, Try.ntmps14
  go_wp2
  go_loopw [5] (fun i wr => ∃ j : Nat, j ≤ n ∧ i = .int .i64 (j : Int) ∧ OwnLL b1 e1 wr (.slice a1 n c1) vs1 ls ∧ OwnLL b2 e2 wr (.slice a2 n c2) vs2 ls ∧ Below w.heap.size w wr) (fun i _ => n - (intOf i).toNat)
  case atStart => exact ⟨0, by omega, rfl, H1.out, H2.out, Below.refl _ _⟩
  case round =>
    obtain ⟨j, hj, rfl, ho1, ho2, hwi⟩ := hrel
    clear H1 H2
    by_cases hlt : j < n
    · have hjl : j < ls.length := by rw [← HN.out]; exact hlt
      obtain ⟨g1, rfl, _, _, hcell1, _⟩ := ho1.at (by omega)
      obtain ⟨g2, rfl, _, _, hcell2, _⟩ := ho2.at (by omega)
      have hc1 := hcell1 j hjl
      have hc2 := hcell2 j hjl
      have hr1 := (ho1.own j hjl).rd
      have hr2 := (ho2.own j hjl).rd
      generalize ls.getD j [] = l at hr1 hr2
      generalize rowV vs1 j = p1 at hc1 hr1
      generalize rowV vs2 j = p2 at hc2 hr2
      have HO1 := Lib.hid ho1; have HO2 := Lib.hid ho2; have HWI := Lib.hid hwi; have HR1 := Lib.hid hr1; have HR2 := Lib.hid hr2
      clear hcell1 hcell2 ho1 ho2 hwi hr1 hr2
      go_wp2
      generalize wr = wa at *
      go_quiet ((go_at_call 15; exact Calls.quiet_of (eqIntS_same p1 p2 l _ (Rd.drewN HR1.out _) (Rd.drewN HR2.out _))))
      go_wp2
      go_roundw
      case rel => exact ⟨j + 1, by omega, by go_num, HO1.out.below (below_drewN (Below.refl _ _) _), HO2.out.below (below_drewN (Below.refl _ _) _), Below.step HWI.out (below_drewN (Below.refl _ _) _)⟩
      case measure => simp [intOf]; omega
    · obtain rfl : j = n := by omega
      go_wp2
      go_ret
      exact ⟨rfl, hwi⟩

theorem Own.get {B n c : Nat} {w : World} {a : Option Addr} {l : List Int} (h : Own B w (.slice a n c) l) (k : Nat) (hk : k < l.length) : ∃ g, a = some ⟨g, 0, none⟩ ∧ w.cell? ⟨g, k, none⟩ = some (.int .i64 (l.getD k 0)) := by
  rcases h.shape with ⟨_, rfl⟩ | ⟨g, c', hv, _⟩
  · simp at hk
  · simp only [Value.slice.injEq] at hv
    obtain ⟨rfl, rfl, rfl⟩ := hv
    exact ⟨g, rfl, h.cellAt k hk⟩

end Go.Proofs.Yteeoepbbocdchaa
