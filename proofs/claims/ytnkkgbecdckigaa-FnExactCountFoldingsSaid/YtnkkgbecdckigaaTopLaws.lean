/- CountOnTop, FoldingsOnTop, CountFoldings, AllFoldings: both sides. -/
import Derived.Test.YtnkkgbecdckigaaTopK
import Derived.Test.YtnkkgbecdckigaaTopS
import Derived.Test.YtnkkgbecdckigaaSpMoves
namespace Go.Proofs.Ytnkkgbecdckigaa
open Go.RowKit
set_option linter.unusedSimpArgs false
set_option linter.unusedVariables false

def ok_CountOnTop (x : Int) : Bool := inB x 1 8
def res_CountOnTop (x : Int) : Int := if inB x 1 8 then ((topT x.toNat).length : Int) else 0
def ok_CountFoldings (x : Int) : Bool := inB x 1 8
def res_CountFoldings (x : Int) : Int := if inB x 1 8 then ((topT x.toNat).length : Int) * x else 0
def ok_FoldingsOnTop (x : Int) : Bool := inB x 1 8
def res_FoldingsOnTop (x : Int) : List (List Int) := if inB x 1 8 then putAll (topT x.toNat) else []
def ok_AllFoldings (x : Int) : Bool := inB x 1 6
def res_AllFoldings (x : Int) : List (List Int) := if inB x 1 6 then putAll (allF x.toNat) else []

theorem len_FoldingsOnTop (x : Int) : tot (res_FoldingsOnTop x) ≤ 1000000 ∧ ∀ i, i < (res_FoldingsOnTop x).length → ((res_FoldingsOnTop x).getD i []).length ≤ 1000000 := by
  unfold res_FoldingsOnTop
  split
  · next h =>
    have h' := inB_iff.1 h
    have h3 : ∀ i, i < (putAll (topT x.toNat)).length → ((putAll (topT x.toNat)).getD i []).length ≤ 8 := fun i hi => by
      have := (foldsL_rows (n := x.toNat) (by omega) (by omega) _ (mem_get hi)).1
      omega
    refine ⟨?_, fun i hi => Nat.le_trans (h3 i hi) (by omega)⟩
    have a := tot_le h3
    have b := topT_bd (n := x.toNat) (by omega)
    rw [putAll_length] at a
    omega
  · exact len_rows _ (by simp) (by simp)
theorem len_AllFoldings (x : Int) : tot (res_AllFoldings x) ≤ 1000000 ∧ ∀ i, i < (res_AllFoldings x).length → ((res_AllFoldings x).getD i []).length ≤ 1000000 := by
  unfold res_AllFoldings
  split
  · next h =>
    have h' := inB_iff.1 h
    have h3 : ∀ i, i < (putAll (allF x.toNat)).length → ((putAll (allF x.toNat)).getD i []).length ≤ 8 := fun i hi => by
      have := allF_rows (n := x.toNat) (by omega) (by omega) _ (putAll_mem.1 (mem_get hi))
      omega
    refine ⟨?_, fun i hi => Nat.le_trans (h3 i hi) (by omega)⟩
    have a := tot_le h3
    have b := topT_bd6 (n := x.toNat) (by omega)
    have c : (topT x.toNat).length * x.toNat ≤ 120 * 6 := Nat.mul_le_mul b (by omega)
    rw [putAll_length, allF_len] at a
    omega
  · exact len_rows _ (by simp) (by simp)

set_option maxHeartbeats 1000000 in
theorem impl_CountOnTop (x : Int) (w : World) : Calls Try.prog 26 #[.int .i64 x] w (GivesN w (res_CountOnTop x) (ok_CountOnTop x)) := by
  unfold res_CountOnTop ok_CountOnTop
  by_cases h : 1 ≤ x ∧ x ≤ 8
  · obtain ⟨n, rfl⟩ := Int.eq_ofNat_of_zero_le (by omega : 0 ≤ x)
    have HI := Lib.hid (inB_yes h.1 h.2)
    have HF := Lib.hid (fun w => foldingsOnTop_any n (by omega) (by omega) w)
    have HL := Lib.hid (putAll_length (topT n))
    rw [HI.out, if_pos rfl, show ((n : Int)).toNat = n from rfl]
    generalize putAll (topT n) = L at *
    clear h
    go_enter Try.func26, Try.ntmps26
    go_wp2_with (first
      | (go_at_call 42; refine (isStampCount_any _ _).mono ?_; rintro e w' ⟨rfl, rfl⟩; rw [HI.out])
      | (go_at_call 48; ((refine (HF.out _).mono ?_); rintro e w2 ⟨v2, rfl, ho2, hb2⟩; obtain ⟨a2, c2, rfl, _⟩ := ho2.form)))
    go_ret2
    exact ⟨by rw [HL.out]; rfl, hb2⟩
  · have HI := Lib.hid (inB_no h)
    rw [HI.out, if_neg (by simp)]
    clear h
    go_enter Try.func26, Try.ntmps26
    go_wp2_with (go_at_call 42; refine (isStampCount_any _ _).mono ?_; rintro e w' ⟨rfl, rfl⟩; rw [HI.out])
    go_ret2
    exact ⟨rfl, Below.refl _ _⟩

set_option maxHeartbeats 1000000 in
theorem impl_CountFoldings (x : Int) (w : World) : Calls Try.prog 22 #[.int .i64 x] w (GivesN w (res_CountFoldings x) (ok_CountFoldings x)) := by
  unfold res_CountFoldings ok_CountFoldings
  by_cases h : 1 ≤ x ∧ x ≤ 8
  · obtain ⟨n, rfl⟩ := Int.eq_ofNat_of_zero_le (by omega : 0 ≤ x)
    have HI := Lib.hid (inB_yes h.1 h.2)
    have HF := Lib.hid (fun w => foldingsOf_any n (by omega) (by omega) w)
    have HL : Hid ((((putAll (allF n)).length : Nat) : Int) = ((topT n).length : Int) * (n : Int)) := by
      show (((putAll (allF n)).length : Nat) : Int) = _
      rw [putAll_length, allF_len, Int.natCast_mul]
    rw [HI.out, if_pos rfl, show ((n : Int)).toNat = n from rfl]
    generalize putAll (allF n) = L at *
    clear h
    go_enter Try.func22, Try.ntmps22
    go_wp2_with (first
      | (go_at_call 42; refine (isStampCount_any _ _).mono ?_; rintro e w' ⟨rfl, rfl⟩; rw [HI.out])
      | (go_at_call 43; ((refine (HF.out _).mono ?_); rintro e w2 ⟨v2, rfl, ho2, hb2⟩; obtain ⟨a2, c2, rfl, _⟩ := ho2.form)))
    go_ret2
    exact ⟨by rw [← HL.out]; rfl, hb2⟩
  · have HI := Lib.hid (inB_no h)
    rw [HI.out, if_neg (by simp)]
    clear h
    go_enter Try.func22, Try.ntmps22
    go_wp2_with (go_at_call 42; refine (isStampCount_any _ _).mono ?_; rintro e w' ⟨rfl, rfl⟩; rw [HI.out])
    go_ret2
    exact ⟨rfl, Below.refl _ _⟩

set_option maxHeartbeats 1000000 in
theorem impl_FoldingsOnTop (x : Int) (w : World) : Calls Try.prog 28 #[.int .i64 x] w (GivesLL w (res_FoldingsOnTop x) (ok_FoldingsOnTop x)) := by
  unfold res_FoldingsOnTop ok_FoldingsOnTop
  by_cases h : 1 ≤ x ∧ x ≤ 8
  · obtain ⟨n, rfl⟩ := Int.eq_ofNat_of_zero_le (by omega : 0 ≤ x)
    have HI := Lib.hid (inB_yes h.1 h.2)
    have HF := Lib.hid (fun w => foldingsOnTop_any n (by omega) (by omega) w)
    have HL := Lib.hid (fun B w v ho => listsStk_any (putAll (topT n)) (fun k hk => by have := (foldsL_rows (n := n) (by omega) (by omega) _ (mem_get hk)).1; omega) (by rw [putAll_length]; have := topT_bd (n := n) (by omega); omega) B w v ho)
    rw [HI.out, if_pos rfl, show ((n : Int)).toNat = n from rfl]
    generalize putAll (topT n) = L at *
    clear h
    go_enter Try.func28, Try.ntmps28
    go_wp2_with (first
      | (go_at_call 42; refine (isStampCount_any _ _).mono ?_; rintro e w' ⟨rfl, rfl⟩; rw [HI.out])
      | (go_at_call 48; ((refine (HF.out _).mono ?_); rintro e w2 ⟨v2, rfl, ho2, hb2⟩; have HO2 := Lib.hid ho2; have HB2 := Lib.hid hb2; clear ho2 hb2))
      | (go_at_call 47; ((refine (HL.out _ _ _ HO2.out).mono ?_); rintro e w5 ⟨v5, vs, rfl, ho5, hb5⟩)))
    go_ret2
    exact ⟨_, vs, rfl, ho5.mono HB2.out.size (Nat.le_refl _) (Nat.le_refl _), Below.step HB2.out hb5⟩
  · have HI := Lib.hid (inB_no h)
    rw [HI.out, if_neg (by simp)]
    clear h
    go_enter Try.func28, Try.ntmps28
    go_wp2_with (go_at_call 42; refine (isStampCount_any _ _).mono ?_; rintro e w' ⟨rfl, rfl⟩; rw [HI.out])
    go_ret2
    exact ⟨_, [], rfl, OwnLL.nil _ _ (Nat.le_refl _), Below.refl _ _⟩

set_option maxHeartbeats 1000000 in
theorem impl_AllFoldings (x : Int) (w : World) : Calls Try.prog 24 #[.int .i64 x] w (GivesLL w (res_AllFoldings x) (ok_AllFoldings x)) := by
  unfold res_AllFoldings ok_AllFoldings
  by_cases h : 1 ≤ x ∧ x ≤ 6
  · obtain ⟨n, rfl⟩ := Int.eq_ofNat_of_zero_le (by omega : 0 ≤ x)
    have HI := Lib.hid (inB_yes h.1 h.2)
    have hx1 : ¬ (n : Int) < 1 := by omega
    have hx2 : ¬ (6 : Int) < (n : Int) := by omega
    have HF := Lib.hid (fun w => foldingsOf_any n (by omega) (by omega) w)
    have HL := Lib.hid (fun B w v ho => listsStk_any (putAll (allF n)) (fun k hk => by have := allF_rows (n := n) (by omega) (by omega) _ (putAll_mem.1 (mem_get hk)); omega) (by rw [putAll_length, allF_len]; have a := topT_bd (n := n) (by omega); have : (topT n).length * n ≤ 5040 * 8 := Nat.mul_le_mul a (by omega); omega) B w v ho)
    rw [HI.out, if_pos rfl, show ((n : Int)).toNat = n from rfl]
    generalize putAll (allF n) = L at *
    clear h
    go_enter Try.func24, Try.ntmps24
    go_wp2_with (first
      | (go_at_call 43; ((refine (HF.out _).mono ?_); rintro e w2 ⟨v2, rfl, ho2, hb2⟩; have HO2 := Lib.hid ho2; have HB2 := Lib.hid hb2; clear ho2 hb2))
      | (go_at_call 47; ((refine (HL.out _ _ _ HO2.out).mono ?_); rintro e w5 ⟨v5, vs, rfl, ho5, hb5⟩)))
    go_ret2
    exact ⟨_, vs, rfl, ho5.mono HB2.out.size (Nat.le_refl _) (Nat.le_refl _), Below.step HB2.out hb5⟩
  · have HI := Lib.hid (inB_no h)
    rw [HI.out, if_neg (by simp)]
    by_cases h2 : x < 1
    · clear h
      go_enter Try.func24, Try.ntmps24
      go_wp2
      go_ret2
      exact ⟨_, [], rfl, OwnLL.nil _ _ (Nat.le_refl _), Below.refl _ _⟩
    · have h3 : 6 < x := by omega
      clear h
      go_enter Try.func24, Try.ntmps24
      go_wp2
      go_ret2
      exact ⟨_, [], rfl, OwnLL.nil _ _ (Nat.le_refl _), Below.refl _ _⟩

theorem spStamps_any (n : Int) (w : World) : Calls Try.prog 40 #[.int .i64 n] w (Says w (inB n 1 8)) := by
  have HI := Lib.hid (fun w => l1In_any n 1 8 w)
  generalize inB n 1 8 = b at *
  go_enter Try.func40, Try.ntmps40
  go_wp2_with (go_at_call 44; refine (HI.out _).mono ?_; rintro e w' ⟨rfl, rfl⟩)
  go_ret
  exact ⟨rfl, rfl⟩

set_option maxHeartbeats 1000000 in
theorem spec_CountOnTop (x : Int) (w : World) : Calls Try.prog 25 #[.int .i64 x] w (GivesN w (res_CountOnTop x) (ok_CountOnTop x)) := by
  unfold res_CountOnTop ok_CountOnTop
  by_cases h : 1 ≤ x ∧ x ≤ 8
  · obtain ⟨n, rfl⟩ := Int.eq_ofNat_of_zero_le (by omega : 0 ≤ x)
    have HI := Lib.hid (inB_yes h.1 h.2)
    have HF := Lib.hid (fun w => spTop_any n (by omega) (by omega) w)
    rw [HI.out, if_pos rfl, show ((n : Int)).toNat = n from rfl]
    generalize topT n = L at *
    clear h
    go_enter Try.func25, Try.ntmps25
    go_wp2_with (first
      | (go_at_call 40; refine (spStamps_any _ _).mono ?_; rintro e w' ⟨rfl, rfl⟩; rw [HI.out])
      | (go_at_call 41; ((refine (HF.out _).mono ?_); rintro e w2 ⟨v2, vs, rfl, ho2, hb2⟩; obtain ⟨a2, c2, rfl, _⟩ := ho2.form)))
    go_ret2
    exact ⟨rfl, hb2⟩
  · have HI := Lib.hid (inB_no h)
    rw [HI.out, if_neg (by simp)]
    clear h
    go_enter Try.func25, Try.ntmps25
    go_wp2_with (go_at_call 40; refine (spStamps_any _ _).mono ?_; rintro e w' ⟨rfl, rfl⟩; rw [HI.out])
    go_ret2
    exact ⟨rfl, Below.refl _ _⟩

set_option maxHeartbeats 1000000 in
theorem spec_CountFoldings (x : Int) (w : World) : Calls Try.prog 21 #[.int .i64 x] w (GivesN w (res_CountFoldings x) (ok_CountFoldings x)) := by
  unfold res_CountFoldings ok_CountFoldings
  by_cases h : 1 ≤ x ∧ x ≤ 8
  · obtain ⟨n, rfl⟩ := Int.eq_ofNat_of_zero_le (by omega : 0 ≤ x)
    have HI := Lib.hid (inB_yes h.1 h.2)
    have HF := Lib.hid (fun w => spTop_any n (by omega) (by omega) w)
    have hbd := topT_bd (n := n) (by omega)
    rw [HI.out, if_pos rfl, show ((n : Int)).toNat = n from rfl]
    generalize topT n = L at *
    have hm : n * L.length ≤ 8 * 5040 := Nat.mul_le_mul (by omega) hbd
    have hm2 : (n : Int) * (L.length : Int) = ((n * L.length : Nat) : Int) := by simp
    have hw : IntKind.i64.wrap ((n : Int) * (L.length : Int)) = (L.length : Int) * (n : Int) := by
      rw [Int.mul_comm (L.length : Int), hm2]
      exact IntWalk.i64_in _ (by omega)
    clear h hm2
    go_enter Try.func21, Try.ntmps21
    go_wp2_with (first
      | (go_at_call 40; refine (spStamps_any _ _).mono ?_; rintro e w' ⟨rfl, rfl⟩; rw [HI.out])
      | (go_at_call 41; ((refine (HF.out _).mono ?_); rintro e w2 ⟨v2, vs, rfl, ho2, hb2⟩; obtain ⟨a2, c2, rfl, _⟩ := ho2.form)))
    go_ret2
    exact ⟨by first | rfl | (rw [hw]) | (rw [Int.mul_comm]), hb2⟩
  · have HI := Lib.hid (inB_no h)
    rw [HI.out, if_neg (by simp)]
    clear h
    go_enter Try.func21, Try.ntmps21
    go_wp2_with (go_at_call 40; refine (spStamps_any _ _).mono ?_; rintro e w' ⟨rfl, rfl⟩; rw [HI.out])
    go_ret2
    exact ⟨rfl, Below.refl _ _⟩

theorem small_of {q : List Int} (h : q.length ≤ 1000) (hx : ∀ x ∈ q, -1000 ≤ x ∧ x ≤ 1000) : Small q := ⟨h, fun k hk => by
  rw [show q.getD k 0 = q[k] by simp [List.getD, hk]]
  exact hx _ (List.getElem_mem hk)⟩
theorem movedL_mem (f : Int → Int) (l : List Int) : ∀ (k : Nat), k ≤ l.length → ∀ x ∈ movedL f l k, x = 0 ∨ x ∈ l
  | 0, _, x, h => by rw [movedL, List.mem_replicate] at h; exact .inl h.2
  | k + 1, hk, x, h => by
    rw [movedL] at h
    rcases List.mem_or_eq_of_mem_set h with h | h
    · exact movedL_mem f l k (by omega) x h
    · right
      rw [h, show l.getD k 0 = l[k] by simp [List.getD, show k < l.length by omega]]
      exact List.getElem_mem _
theorem turnF_small {l : List Int} (b : Int) (h : stackB l = true) : Small (turnF l b) := by
  have hs := stack_small h
  refine small_of (by rw [turnF_length]; exact hs.1) fun x hx => ?_
  rcases movedL_mem _ l _ (Nat.le_refl _) x hx with rfl | hm
  · omega
  · obtain ⟨i, hi, e⟩ := List.mem_iff_getElem.1 hm
    have := hs.2 i hi
    rw [show l.getD i 0 = l[i] by simp [List.getD, hi], e] at this
    exact this

/-- rows that came from the rows of a list so far -/
def Frm (vs us : List Value) (k : Nat) : Prop := ∀ i, i < vs.length → ∃ j, j < k ∧ rowV vs i = rowV us j
theorem Frm.ins {vs us : List Value} {k q : Nat} {p : Value} (h : Frm vs us k) (hp : rowV us k = p) (hq : q ≤ vs.length) : Frm (insAt vs q p) us (k + 1) := by
  intro i hi
  rw [insAt_length] at hi
  rw [rowV_ins p hq]
  by_cases h1 : i < q
  · rw [if_pos h1]; obtain ⟨j, h2, h3⟩ := h i (by omega); exact ⟨j, by omega, h3⟩
  · rw [if_neg h1]
    by_cases h2 : i = q
    · rw [if_pos h2]; exact ⟨k, by omega, hp.symm⟩
    · rw [if_neg h2]; obtain ⟨j, h3, h4⟩ := h (i - 1) (by omega); exact ⟨j, by omega, h4⟩
theorem Frm.apart {lo hi k : Nat} {w2 : World} {u p : Value} {vs us : List Value} {ls U : List (List Int)} (h : Frm vs us k) (hl : vs.length = ls.length) (hu : OwnLL lo hi w2 u us U) (hk : k < U.length) (hp : rowV us k = p) :
    ∀ i, i < ls.length → ∀ q, p.ownBlock = some q → (rowV vs i).ownBlock ≠ some q := by
  intro i hi q hq hq'
  subst hp
  obtain ⟨j, h1, h2⟩ := h i (by omega)
  rw [h2] at hq'
  exact hu.apart k j hk (by omega) (by omega) q hq hq'

set_option maxHeartbeats 4000000 in
set_option maxRecDepth 100000 in
theorem spec_FoldingsOnTop (x : Int) (w : World) : Calls Try.prog 27 #[.int .i64 x] w (GivesLL w (res_FoldingsOnTop x) (ok_FoldingsOnTop x)) := by
  unfold res_FoldingsOnTop ok_FoldingsOnTop
  by_cases h : 1 ≤ x ∧ x ≤ 8
  · obtain ⟨n, rfl⟩ := Int.eq_ofNat_of_zero_le (by omega : 0 ≤ x)
    have HI := Lib.hid (inB_yes h.1 h.2)
    have HF := Lib.hid (fun w => spTop_any n (by omega) (by omega) w)
    have hbd := topT_bd (n := n) (by omega)
    have HSM := Lib.hid (fun r (hr : r ∈ topT n) => stack_small (topT_rows n (by omega) (by omega) r hr).2.1)
    rw [HI.out, if_pos rfl, show ((n : Int)).toNat = n from rfl]
    generalize topT n = L at *
    have HTS : Hid (∀ k, k < L.length → putAll (L.take (k + 1)) = putL (putAll (L.take k)) (L.getD k [])) := fun k hk => by
      rw [List.take_succ_eq_append_getElem hk, putAll_snoc]
      simp [List.getD, hk]
    clear h
    go_enter Try.func27, Try.ntmps27
    go_wp2_with (first
      | (go_at_call 40; refine (spStamps_any _ _).mono ?_; rintro e w' ⟨rfl, rfl⟩; rw [HI.out])
      | (go_at_call 41; ((refine (HF.out _).mono ?_); rintro e w2 ⟨v2, us, rfl, hU, hb2⟩; obtain ⟨au, cu, rfl, hcu1, hcu2⟩ := hU.form; unfold maxLen at hcu2; have HU := Lib.hid hU; have HB2 := Lib.hid hb2; have hs2 := hb2.size; clear hU hb2)))
    go_loopw [4, 13] (fun o i wr => ∃ (k : Nat) (vs : List Value), k ≤ L.length ∧ i = .int .i64 k ∧ OwnLL w.heap.size wr.heap.size wr o vs (putAll (L.take k)) ∧ Frm vs us k ∧ Below w2.heap.size w2 wr) (fun _ i _ => L.length - (intOf i).toNat)
    case atStart => exact ⟨0, [], by omega, rfl, OwnLL.nil _ _ hs2, fun i hi => by simp at hi, Below.refl _ _⟩
    case round =>
      obtain ⟨k, vs, hk, rfl, hown, hfrm, hbel⟩ := hrel
      generalize wr = wc at *
      by_cases hlt : k < L.length
      · have hUc := HU.out.below hbel
        obtain ⟨gu, rfl, _, _, hcell, _⟩ := hUc.at (by omega)
        have hck := hcell k hlt
        have hru := hUc.own k hlt
        have hap := Frm.apart (ls := putAll (L.take k)) hfrm hown.len hUc hlt rfl
        have hts := HTS.out k hlt
        have hsr := HSM.out _ (mem_get hlt)
        have hsl : ∀ i, i < (putAll (L.take k)).length → Small ((putAll (L.take k)).getD i []) := fun i hi => HSM.out _ (List.mem_of_mem_take (putAll_mem.1 (mem_get hi)))
        have hlen : (putAll (L.take k)).length ≤ 5040 := by rw [putAll_length, List.length_take]; omega
        have hpk : putK (putAll (L.take k)) (L.getD k []) ≤ vs.length := by rw [hown.len]; exact putK_le _ _
        generalize L.getD k [] = r at *
        generalize putAll (L.take k) = O at *
        generalize hpe : rowV us k = p at *
        have HPE := Lib.hid hpe; have HRU := Lib.hid hru; have HAP := Lib.hid hap; have HTS2 := Lib.hid hts; have HSR := Lib.hid hsr; have HSL := Lib.hid hsl
        have HO := Lib.hid hown; have HFR := Lib.hid hfrm; have HBE := Lib.hid hbel; have HPK := Lib.hid hpk
        have hsc := hbel.size
        clear hcell hru hap hts hsr hsl hown hfrm hbel hUc hpk hpe
        go_wp2_with (go_at_call 45; ((with_reducible refine (spPut_any w.heap.size wc.heap.size _ p vs O r wc HO.out HRU.out (by omega) HAP.out (by omega) HSL.out HSR.out).mono ?_); rintro e w5 ⟨v5, rfl, ho5, _, hb5⟩; have HO5 := Lib.hid ho5; have HB5 := Lib.hid (Below.step HBE.out hb5); clear ho5 hb5))
        go_roundw
        case rel => exact ⟨k + 1, _, by omega, by go_num, by rw [HTS2.out]; exact HO5.out, HFR.out.ins HPE.out HPK.out, HB5.out⟩
        case measure => simp [intOf]; omega
      · obtain rfl : k = L.length := by omega
        rw [List.take_length] at hown
        obtain ⟨ao, co, rfl, _⟩ := hown.form
        have HO := Lib.hid hown; have HBE := Lib.hid hbel
        clear hown hbel hfrm
        go_wp2
        go_ret2
        exact ⟨_, vs, rfl, HO.out, Below.step HB2.out HBE.out⟩
  · have HI := Lib.hid (inB_no h)
    rw [HI.out, if_neg (by simp)]
    clear h
    go_enter Try.func27, Try.ntmps27
    go_wp2_with (go_at_call 40; refine (spStamps_any _ _).mono ?_; rintro e w' ⟨rfl, rfl⟩; rw [HI.out])
    go_ret2
    exact ⟨_, [], rfl, OwnLL.nil _ _ (Nat.le_refl _), Below.refl _ _⟩

end Go.Proofs.Ytnkkgbecdckigaa
