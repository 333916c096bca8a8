/- OpenPermutations and CountOpen: the program's lists of open words, and the model's. -/
import Derived.Test.YteeoepbbocdchaaWdAll7
import Derived.Test.YteeoepbbocdchaaWdAll
import Derived.Test.YteeoepbbocdchaaListsLaw
import Derived.Test.YteeoepbbocdchaaLLPut
import Derived.Test.YteeoepbbocdchaaStkSpec
import Derived.Test.YteeoepbbocdchaaWdPeC
import Derived.Test.YteeoepbbocdchaaShift
import Derived.Test.YteeoepbbocdchaaNum
import Derived.Test.YteeoepbbocdchaaMadeWo
import Derived.Test.YteeoepbbocdchaaSortWo
namespace Go.Proofs.Yteeoepbbocdchaa
open Go.RowKit
set_option linter.unusedSimpArgs false
set_option linter.unusedVariables false

theorem open_eq {n : Nat} (h : n ≤ 7) : putAll (openW n) = peL n n [] := by
  have hc : openCheck n = true ∧ openSort n = true := by
    have : n = 0 ∨ n = 1 ∨ n = 2 ∨ n = 3 ∨ n = 4 ∨ n = 5 ∨ n = 6 ∨ n = 7 := by omega
    rcases this with rfl | rfl | rfl | rfl | rfl | rfl | rfl | rfl
    · exact ⟨openCheck0, openSort0⟩
    · exact ⟨openCheck1, openSort1⟩
    · exact ⟨openCheck2, openSort2⟩
    · exact ⟨openCheck3, openSort3⟩
    · exact ⟨openCheck4, openSort4⟩
    · exact ⟨openCheck5, openSort5⟩
    · exact ⟨openCheck6, openSort6⟩
    · exact ⟨openCheck7, openSort7⟩
  refine putAll_eq (adj_srt _ hc.2) ?_
  have h1 : msrtL 10 (openW n) = peL n n [] := eq_of_beq hc.1
  rw [← h1]
  exact msrtL_perm _ _
def opens6 (n : Nat) : Bool := (openW n).all (fun l => wordB l && Nat.beq l.length n) && Nat.ble (openW n).length 200
theorem opens6_0 : opens6 0 = true := by kernel_rfl
theorem opens6_1 : opens6 1 = true := by kernel_rfl
theorem opens6_2 : opens6 2 = true := by kernel_rfl
theorem opens6_3 : opens6 3 = true := by kernel_rfl
theorem opens6_4 : opens6 4 = true := by kernel_rfl
theorem opens6_5 : opens6 5 = true := by kernel_rfl
theorem opens6_6 : opens6 6 = true := by kernel_rfl
theorem openW_rows {n : Nat} (h : n ≤ 6) : (∀ l ∈ openW n, wordB l = true ∧ l.length = n) ∧ (openW n).length ≤ 200 := by
  have hc : opens6 n = true := by
    have : n = 0 ∨ n = 1 ∨ n = 2 ∨ n = 3 ∨ n = 4 ∨ n = 5 ∨ n = 6 := by omega
    rcases this with rfl | rfl | rfl | rfl | rfl | rfl | rfl
    · exact opens6_0
    · exact opens6_1
    · exact opens6_2
    · exact opens6_3
    · exact opens6_4
    · exact opens6_5
    · exact opens6_6
  unfold opens6 at hc
  rw [Bool.and_eq_true, List.all_eq_true] at hc
  refine ⟨fun l hl => ?_, Nat.le_of_ble_eq_true hc.2⟩
  have := hc.1 l hl
  rw [Bool.and_eq_true] at this
  exact ⟨this.1, Nat.eq_of_beq_eq_true this.2⟩
theorem openW_len {n : Nat} (h : n ≤ 7) : (∀ l ∈ openW n, l.length ≤ 12) ∧ (openW n).length ≤ 1400 := by
  by_cases h6 : n ≤ 6
  · exact ⟨fun l hl => by rw [((openW_rows h6).1 l hl).2]; omega, Nat.le_trans (openW_rows h6).2 (by omega)⟩
  · obtain rfl : n = 7 := by omega
    have h5 := openW_rows (n := 6) (Nat.le_refl _)
    have e : openW 7 = (grownW (openW 6) 7).filter fun l => (firstCrs l).isNone := rfl
    rw [e]
    refine ⟨fun l hl => ?_, ?_⟩
    · have hm := (List.mem_filter.1 hl).1
      unfold grownW at hm
      rw [List.mem_flatMap] at hm
      obtain ⟨r, hr, h2⟩ := hm
      obtain ⟨x, _, rfl⟩ := List.mem_map.1 h2
      have := (h5.1 r hr).2
      unfold lastP
      simp; omega
    · refine Nat.le_trans (List.length_filter_le _ _) ?_
      have hg : ∀ (ls : List (List Int)), (grownW ls 7).length = ls.length * 7 := by
        intro ls
        induction ls with
        | nil => rfl
        | cons l ls ih =>
          unfold grownW at *
          rw [List.flatMap_cons, List.length_append, ih, List.length_map, List.length_range, List.length_cons]
          omega
      rw [hg]
      have := h5.2
      omega

def ok_OpenPermutations (x : Int) : Bool := inB x 0 7
def res_OpenPermutations (x : Int) : List (List Int) := if inB x 0 7 then peL x.toNat x.toNat [] else []
def ok_CountOpen (x : Int) : Bool := inB x 0 7
def res_CountOpen (x : Int) : Int := if inB x 0 7 then ((peL x.toNat x.toNat []).length : Int) else 0
theorem len_OpenPermutations (x : Int) : tot (res_OpenPermutations x) ≤ 1000000 ∧ ∀ i, i < (res_OpenPermutations x).length → ((res_OpenPermutations x).getD i []).length ≤ 1000000 := by
  unfold res_OpenPermutations
  split
  · next h =>
    have h' := inB_iff.1 h
    have h7 : x.toNat ≤ 7 := by omega
    rw [← open_eq h7]
    have h3 : ∀ i, i < (putAll (openW x.toNat)).length → ((putAll (openW x.toNat)).getD i []).length ≤ 12 := fun i hi => by
      have hm : (putAll (openW x.toNat)).getD i [] ∈ putAll (openW x.toNat) := by simp [List.getD, hi]
      exact (openW_len h7).1 _ (putAll_mem.1 hm)
    refine ⟨?_, fun i hi => Nat.le_trans (h3 i hi) (by omega)⟩
    have a := tot_le h3
    have b := (openW_len h7).2
    rw [putAll_length] at a
    omega
  · exact ⟨by simp [tot], fun i hi => by simp at hi⟩

theorem zero_word : (Value.agg #[.int .i64 0, .int .i64 0, .int .i64 0, .int .i64 0, .int .i64 0, .int .i64 0, .int .i64 0, .int .i64 0, .int .i64 0, .int .i64 0, .int .i64 0, .int .i64 0, .int .i64 0, .int .i64 0, .int .i64 0, .int .i64 0, .int .i64 0, .int .i64 0, .int .i64 0, .int .i64 0, .int .i64 0, .int .i64 0, .int .i64 0, .int .i64 0, .int .i64 0]) = .agg (wrdC []) := by
  rfl
theorem isListed_any (n : Int) (w : World) :
    Calls Try.prog 55 #[.int .i64 n] w fun e w' => e = .returned (.bool (inB n 0 7)) ∧ w = w' := by
  go_enter Try.func55, Try.ntmps55
  go_wp2
  all_goals go_ret
  all_goals (simp [inB]; omega)
set_option maxHeartbeats 4000000 in
set_option maxRecDepth 100000 in
theorem openWords_any (n : Nat) (h7 : n ≤ 7) (w : World) :
    Calls Try.prog 57 #[.int .i64 (n : Int)] w (MadeWo w (putAll (openW n))) := by
  have HMW := Lib.hid (fun (m : Nat) (hm : m ≤ 6) B w v ho => madeLast_any lastP (openW m) (m + 1) (by omega) (fun k hk => by
      have hmem : (openW m).getD k [] ∈ openW m := by simp [List.getD, hk]
      rw [((openW_rows hm).1 _ hmem).2]; omega) (fun q k hq _ => by
      have hmem : (openW m).getD q [] ∈ openW m := by simp [List.getD, hq]
      have := ((openW_rows hm).1 _ hmem).2
      unfold lastP; simp only [List.length_append, List.length_map, List.length_cons, List.length_nil]; omega) (by have := (openW_rows hm).2; omega)
    (fun q k w hq hk => by
      have hmem : (openW m).getD q [] ∈ openW m := by simp [List.getD, hq]
      have hr := (openW_rows hm).1 _ hmem
      exact withLast_any ((openW m).getD q []) k w hr.1 (by rw [hr.2]; omega) (by rw [hr.2]; omega)) B w v ho)
  have HCF := Lib.hid (fun (m : Nat) (hm : m ≤ 6) B w v ho => chosenOpen_any (allW lastP (openW m) (m + 1) (openW m).length) (fun k hk => by
      have hmem : (allW lastP (openW m) (m + 1) (openW m).length).getD k [] ∈ allW lastP (openW m) (m + 1) (openW m).length := by simp [List.getD, hk]
      generalize (allW lastP (openW m) (m + 1) (openW m).length).getD k [] = r at hmem ⊢
      unfold allW rowW at hmem
      rw [List.take_length, List.mem_flatMap] at hmem
      obtain ⟨l, hl, h2⟩ := hmem
      obtain ⟨i, _, rfl⟩ := List.mem_map.1 h2
      have := ((openW_rows hm).1 l hl).2
      unfold lastP; simp only [List.length_append, List.length_map, List.length_cons, List.length_nil]; omega) (by
      have a := allW_len lastP (openW m) (m + 1) (openW m).length
      have b := (openW_rows hm).2
      have c : (openW m).length * (m + 1) ≤ 200 * 7 := Nat.mul_le_mul b (by omega)
      omega) B w v ho)
  have HST : Hid (∀ m, (allW lastP (openW m) (m + 1) (openW m).length).filter openW1 = openW (m + 1)) := fun m => by
    unfold allW
    rw [List.take_length]
    rfl
  have HSO := Lib.hid (fun B w v ho hB => sortStk_anyWo B v (openW n) w ho (fun l hl => (openW_len h7).1 l hl) (by have := (openW_len h7).2; omega) hB)
  have H0 : Hid (openW 0 = [[]]) := rfl
  have hL0 : ([] : List Int).length ≤ 12 := by simp
  go_enter Try.func57, Try.ntmps57
  go_wp2_with (with_reducible refine wp_buildWo _ rfl (.tmp 5) rfl [] hL0 zero_word ?_)
  go_loopw [3, 8] (fun o i wr => ∃ m : Nat, m ≤ n ∧ i = .int .i64 (m : Int) ∧ OwnWo w.heap.size wr o (openW m) ∧ Below w.heap.size w wr) (fun _ i _ => n - (intOf i).toNat)
  case atStart => exact ⟨0, by omega, rfl, by rw [H0.out]; exact OwnWo.lit1 _ w [] hL0 (Nat.le_refl _), Below.alloc1 _ _⟩
  case round =>
    obtain ⟨m, hm, rfl, hown, hbel⟩ := hrel
    generalize wr = wc at *
    have hsz := hbel.size
    by_cases hlt : m < n
    · have HO := Lib.hid hown; have HB := Lib.hid hbel
      have HM2 := Lib.hid (HMW.out m (by omega)); have HC2 := Lib.hid (HCF.out m (by omega)); have HS2 := Lib.hid (HST.out m)
      clear hown hbel
      go_wp2_with (first
        | (go_at_call 91; ((refine (HM2.out _ _ _ HO.out).mono ?_); rintro e w3 ⟨v3, rfl, ho3, hb3⟩; have HO3 := Lib.hid ho3; have HB3 := Lib.hid (Below.step HB.out hb3); clear ho3 hb3))
        | (go_at_call 90; ((refine (HC2.out _ _ _ HO3.out).mono ?_); rintro e w4 ⟨v4, rfl, ho4, hb4⟩; rw [HS2.out] at ho4; have HO4 := Lib.hid (ho4.mono HB3.out.size); have HB4 := Lib.hid (Below.step HB3.out hb4); clear ho4 hb4))
        | fail)
      go_roundw
      case rel => exact ⟨m + 1, by omega, by go_num, HO4.out, HB4.out⟩
      case measure => simp [intOf]; omega
    · obtain rfl : m = n := by omega
      have HO := Lib.hid hown; have HB := Lib.hid hbel
      clear hown hbel
      go_wp2_with (go_at_call 94; ((refine (HSO.out _ _ _ HO.out hsz).mono ?_); rintro e w3 ⟨rfl, ho3, hb3⟩))
      go_ret
      exact ⟨_, rfl, ho3, HB.out.trans hb3⟩
set_option maxHeartbeats 1000000 in
theorem impl_OpenPermutations (x : Int) (w : World) : Calls Try.prog 20 #[.int .i64 x] w (GivesLL w (res_OpenPermutations x) (ok_OpenPermutations x)) := by
  unfold res_OpenPermutations ok_OpenPermutations
  by_cases h : 0 ≤ x ∧ x ≤ 7
  · obtain ⟨n, rfl⟩ := Int.eq_ofNat_of_zero_le h.1
    have h7 : n ≤ 7 := by omega
    have HI := Lib.hid (inB_yes h.1 h.2)
    have HF := Lib.hid (fun w => openWords_any n h7 w)
    have HL := Lib.hid (fun B w v ho => listsWo_any (putAll (openW n)) (fun k hk => by
      have hm : (putAll (openW n)).getD k [] ∈ putAll (openW n) := by simp [List.getD, hk]
      exact (openW_len h7).1 _ (putAll_mem.1 hm)) (by rw [putAll_length]; have := (openW_len h7).2; omega) B w v ho)
    rw [HI.out, if_pos rfl, show ((n : Int)).toNat = n from rfl, ← open_eq h7]
    generalize putAll (openW n) = L at *
    clear h h7
    go_enter Try.func20, Try.ntmps20
    go_wp2_with (first
      | (go_at_call 55; refine (isListed_any _ _).mono ?_; rintro e w' ⟨rfl, rfl⟩; rw [HI.out])
      | (go_at_call 57; ((refine (HF.out _).mono ?_); rintro e w2 ⟨v2, rfl, ho2, hb2⟩; obtain ⟨a2, c2, rfl, _⟩ := ho2.form; have HO2 := Lib.hid ho2; have HB2 := Lib.hid hb2; clear ho2 hb2))
      | (go_at_call 56; ((refine (HL.out _ _ _ HO2.out).mono ?_); rintro e w3 ⟨v3, vs3, rfl, ho3, hb3⟩; have HO3 := Lib.hid ho3; have HB3 := Lib.hid (Below.step HB2.out hb3); clear ho3 hb3)))
    go_ret2
    exact ⟨_, vs3, rfl, HO3.out.mono HB2.out.size (Nat.le_refl _) (Nat.le_refl _), HB3.out⟩
  · have HI := Lib.hid (inB_no h)
    rw [HI.out, if_neg (by simp)]
    clear h
    go_enter Try.func20, Try.ntmps20
    go_wp2_with (go_at_call 55; refine (isListed_any _ _).mono ?_; rintro e w' ⟨rfl, rfl⟩; rw [HI.out])
    go_ret2
    exact ⟨_, [], rfl, OwnLL.nil _ _ (Nat.le_refl _), Below.refl _ _⟩
set_option maxHeartbeats 1000000 in
theorem impl_CountOpen (x : Int) (w : World) : Calls Try.prog 22 #[.int .i64 x] w (GivesN w (res_CountOpen x) (ok_CountOpen x)) := by
  unfold res_CountOpen ok_CountOpen
  by_cases h : 0 ≤ x ∧ x ≤ 7
  · obtain ⟨n, rfl⟩ := Int.eq_ofNat_of_zero_le h.1
    have h7 : n ≤ 7 := by omega
    have HI := Lib.hid (inB_yes h.1 h.2)
    have HF := Lib.hid (fun w => openWords_any n h7 w)
    rw [HI.out, if_pos rfl, show ((n : Int)).toNat = n from rfl, ← open_eq h7]
    generalize putAll (openW n) = L at *
    clear h h7
    go_enter Try.func22, Try.ntmps22
    go_wp2_with (first
      | (go_at_call 55; refine (isListed_any _ _).mono ?_; rintro e w' ⟨rfl, rfl⟩; rw [HI.out])
      | (go_at_call 57; ((refine (HF.out _).mono ?_); rintro e w2 ⟨v2, rfl, ho2, hb2⟩; obtain ⟨a2, c2, rfl, _⟩ := ho2.form)))
    go_ret2
    exact ⟨rfl, hb2⟩
  · have HI := Lib.hid (inB_no h)
    rw [HI.out, if_neg (by simp)]
    clear h
    go_enter Try.func22, Try.ntmps22
    go_wp2_with (go_at_call 55; refine (isListed_any _ _).mono ?_; rintro e w' ⟨rfl, rfl⟩; rw [HI.out])
    go_ret2
    exact ⟨rfl, Below.refl _ _⟩

/-- two slices of slices, one behind the other -/
theorem OwnLL.cat {lo hi lo2 hi2 B : Nat} {w w' : World} {v v' v2 : Value} {vs vs2 : List Value} {ls ls2 : List (List Int)} (h : OwnLL lo hi w v vs ls) (h2 : OwnLL lo2 hi2 w v2 vs2 ls2) (hm : hi ≤ lo2) (hlo : lo ≤ lo2)
    (hr : w'.ownsRow B 22 1 v' (ls.length + ls2.length) (vs ++ vs2)) (hB : lo ≤ B) (hg : w.grownBy w' v.ownBlock) : OwnLL lo w'.heap.size w' v' (vs ++ vs2) (ls ++ ls2) := by
  have hlen := h.len
  have hlen2 := h2.len
  have hsz := hg.size
  have he := h.ends
  have he2 := h2.ends
  have hrv : ∀ i, i < ls.length → rowV (vs ++ vs2) i = rowV vs i := fun i hi => by
    simp [rowV, List.getD, List.getElem?_append_left (show i < vs.length by omega)]
  have hrv2 : ∀ i, ls.length ≤ i → rowV (vs ++ vs2) i = rowV vs2 (i - ls.length) := fun i hi => by
    simp [rowV, List.getD, List.getElem?_append_right (show vs.length ≤ i by omega), hlen]
  have hls : ∀ i, i < ls.length → (ls ++ ls2).getD i [] = ls.getD i [] := fun i hi => by
    simp [List.getD, List.getElem?_append_left hi]
  have hls2 : ∀ i, ls.length ≤ i → (ls ++ ls2).getD i [] = ls2.getD (i - ls.length) [] := fun i hi => by
    simp [List.getD, List.getElem?_append_right hi]
  refine ⟨Nat.le_refl _, by simp [hlen, hlen2], ?_, fun i hi => ?_, fun j hj => ?_, fun i hi j hj => ?_, fun i j hi hj hne q hq hq' => ?_⟩
  · rw [List.length_append]
    refine ⟨hr.1, ?_⟩
    rcases hr.2 with e | ⟨g, cap, cur, e, hB2, rest⟩
    · exact .inl e
    · exact .inr ⟨g, cap, cur, e, by omega, rest⟩
  · rw [List.length_append] at hi
    by_cases hc : i < ls.length
    · rw [hrv i hc, hls i hc]; exact (h.own i hc).keptLL h.row hg
    · rw [hrv2 i (by omega), hls2 i (by omega)]; exact ((h2.own _ (by omega)).mono hlo).keptLL h.row hg
  · have := hr.lt j hj; omega
  · rw [List.length_append] at hi
    by_cases hc : i < ls.length
    · rw [hrv i hc] at hj; have := h.inr i hc j hj; omega
    · rw [hrv2 i (by omega)] at hj; have := h2.inr _ (by omega) j hj; omega
  · rw [List.length_append] at hi hj
    by_cases hc : i < ls.length
    · rw [hrv i hc] at hq
      by_cases hd : j < ls.length
      · rw [hrv j hd] at hq'; exact h.apart i j hc hd hne q hq hq'
      · rw [hrv2 j (by omega)] at hq'
        have a := h.inr i hc q hq
        have b := h2.inr _ (by omega) q hq'
        omega
    · rw [hrv2 i (by omega)] at hq
      by_cases hd : j < ls.length
      · rw [hrv j hd] at hq'
        have a := h.inr j hd q hq'
        have b := h2.inr _ (by omega) q hq
        omega
      · rw [hrv2 j (by omega)] at hq'; exact h2.apart _ _ (by omega) (by omega) (by omega) q hq hq'
theorem LL_src {lo hi m c : Nat} {ad : Option Addr} {w : World} {vs : List Value} {ls : List (List Int)} (h : OwnLL lo hi w (.slice ad m c) vs ls) :
    vs = [] ∧ (ad = none → c = 0) ∨ ∃ g off, ad = some ⟨g, off, none⟩ ∧ ∀ j u, vs[j]? = some u → w.cell? ⟨g, off + j, none⟩ = some u := by
  rcases h.shape with ⟨e, rfl⟩ | ⟨g, c', e, _⟩
  · simp only [Value.slice.injEq] at e
    exact .inl ⟨List.eq_nil_of_length_eq_zero (by rw [h.len]; rfl), fun _ => e.2.2⟩
  · by_cases h0 : ls.length = 0
    · simp only [Value.slice.injEq] at e
      exact .inl ⟨List.eq_nil_of_length_eq_zero (by rw [h.len]; exact h0), fun h => by rw [h] at e; cases e.1⟩
    · obtain ⟨g2, e2, _, _, hc, _⟩ := h.at (by omega)
      refine .inr ⟨g2, 0, e2, fun j u hj => ?_⟩
      have hjl : j < vs.length := (List.getElem?_eq_some_iff.1 hj).1
      rw [Nat.zero_add, hc j (by rw [← h.len]; exact hjl)]
      simpa [rowV, List.getD, hjl] using hj
def peStep (n f : Nat) (l : List Int) (x : Nat) : List (List Int) := if l.contains (x : Int) then [] else if (firstCrs (l ++ [(x : Int)])).isNone then peL n f (l ++ [(x : Int)]) else []
theorem peL_succ (n f : Nat) (l : List Int) : peL n (f + 1) l = (List.range n).flatMap (peStep n f l) := rfl
def peRow (n f : Nat) (l : List Int) (k : Nat) : List (List Int) := (List.range k).flatMap (peStep n f l)
theorem peRow_succ (n f : Nat) (l : List Int) (k : Nat) : peRow n f l (k + 1) = peRow n f l k ++ peStep n f l k := by
  unfold peRow
  rw [List.range_succ, List.flatMap_append]
  simp
theorem peL_len (n : Nat) : ∀ (f : Nat) (l : List Int), (peL n f l).length ≤ n ^ f
  | 0, l => by simp [peL]
  | f + 1, l => by
    rw [peL_succ]
    have hs : ∀ x, (peStep n f l x).length ≤ n ^ f := fun x => by
      unfold peStep
      split
      · simp
      · split
        · exact peL_len n f _
        · simp
    have hk : ∀ k, ((List.range k).flatMap (peStep n f l)).length ≤ k * n ^ f := fun k => by
      induction k with
      | zero => simp
      | succ k ih =>
        rw [List.range_succ, List.flatMap_append, List.length_append, Nat.succ_mul]
        have := hs k
        simp only [List.flatMap_cons, List.flatMap_nil, List.append_nil]
        omega
    have := hk n
    rw [Nat.pow_succ, Nat.mul_comm (n ^ f)]
    exact this
theorem peRow_len (n f : Nat) (l : List Int) (k : Nat) : (peRow n f l k).length ≤ k * n ^ f := by
  unfold peRow
  induction k with
  | zero => simp
  | succ k ih =>
    rw [List.range_succ, List.flatMap_append, List.length_append, Nat.succ_mul]
    have hs : (peStep n f l k).length ≤ n ^ f := by
      unfold peStep
      split
      · simp
      · split
        · exact peL_len n f _
        · simp
    simp only [List.flatMap_cons, List.flatMap_nil, List.append_nil]
    omega
set_option maxHeartbeats 4000000 in
set_option maxRecDepth 100000 in
theorem peAll_stop (n : Nat) (l : List Int) (w : World) (u : Value) (h : Rd w u l) (h7 : n ≤ 7) (hl : l.length = n) :
    Calls Try.prog 54 #[u, .int .i64 (n : Int)] w (MadeLL w [l]) := by
  have HO := Lib.hid (l1Own_any u l w h (by omega))
  have HL := Lib.hid hl
  obtain ⟨a0, c0, rfl, hc1, hc2, _⟩ := h
  rw [hl] at hc1 HO ⊢
  clear hl
  go_enter Try.func54, Try.ntmps54
  go_wp2_with (go_at_call 80; ((with_reducible refine HO.out.mono ?_); rintro e w1 ⟨v1, rfl, ho1, hb1⟩; obtain ⟨p1, p2, p3, rfl⟩ := ho1.form'; have HO1 := Lib.hid ho1; have HB1 := Lib.hid hb1; clear ho1 hb1))
  go_ret
  exact ⟨_, [.slice p1 p2 p3], rfl, by rw [World.size_alloc]; exact OwnLL.lit1 _ w1 _ l HO1.out HB1.out.size, Below.step HB1.out (Below.alloc1 _ _)⟩
set_option maxHeartbeats 4000000 in
set_option maxRecDepth 100000 in
theorem peAll_go (n f : Nat) (l : List Int) (w : World) (u : Value) (h : Rd w u l) (h7 : n ≤ 7) (hl : l.length + (f + 1) = n)
    (ih : ∀ (x : Nat) (w : World) (u : Value), Rd w u (l ++ [(x : Int)]) → Calls Try.prog 54 #[u, .int .i64 (n : Int)] w (MadeLL w (peL n f (l ++ [(x : Int)])))) :
    Calls Try.prog 54 #[u, .int .i64 (n : Int)] w (MadeLL w (peL n (f + 1) l)) := by
  have hpow : n ^ f ≤ 7 ^ 6 := Nat.le_trans (Nat.pow_le_pow_left h7 f) (Nat.pow_le_pow_right (by omega) (by omega))
  have hpow2 : (7 : Nat) ^ 6 = 117649 := by decide
  have HRS := Lib.hid (fun k => peRow_succ n f l k)
  have HLEN : Hid (∀ k, k ≤ n → (peRow n f l k).length ≤ 823543) := fun k hk => by
    have a := peRow_len n f l k
    have b : k * n ^ f ≤ 7 * 117649 := Nat.mul_le_mul (by omega) (by omega)
    omega
  have HLEN2 : Hid (∀ x : Nat, (peL n f (l ++ [(x : Int)])).length ≤ 823543) := fun x => by
    have := peL_len n f (l ++ [(x : Int)])
    omega
  have HEND : Hid (peRow n f l n = peL n (f + 1) l) := rfl
  have HZ : Hid (peRow n f l 0 = []) := rfl
  have HSTEP : Hid (∀ x : Nat, peStep n f l x = if decide ((x : Int) ∈ l) = true then [] else if (firstCrs (l ++ [(x : Int)])).isSome = true then [] else peL n f (l ++ [(x : Int)])) := fun x => by
    show peStep n f l x = _
    unfold peStep
    by_cases h1 : (x : Int) ∈ l
    · simp [h1]
    · simp only [List.contains_eq_mem, decide_eq_true_eq, h1, if_false]
      cases firstCrs (l ++ [(x : Int)]) <;> simp
  have HHAS := Lib.hid (fun (w : World) (h : Rd w u l) (x : Int) => l1Has_any u l x w h)
  have HOWN := Lib.hid (fun (w : World) (h : Rd w u l) => l1Own_any u l w h (by omega))
  have HCRS := Lib.hid (fun (x : Nat) (w : World) (v : Value) (h : Rd w v (l ++ [(x : Int)])) => peCrossing_run v (l ++ [(x : Int)]) w h (by simp; omega) (by simp))
  have HIH := Lib.hid ih
  have H0 := Lib.hid h
  have hne : ((l.length : Int) == (n : Int)) = false := beq_eq_false_iff_ne.2 (by omega)
  obtain ⟨a0, c0, rfl, hc1, hc2, _⟩ := h
  have HLL : Hid (l.length ≤ 7) := by show _ ≤ _; omega
  generalize hk : l.length = k0 at *
  have HK0 := Lib.hid hk
  clear hk ih hl hpow hpow2
  go_enter Try.func54, Try.ntmps54
  go_wp2_with fail
  go_loopw [5, 6] (fun o i wr => ∃ (k : Nat) (vs : List Value), k ≤ n ∧ i = .int .i64 (k : Int) ∧ OwnLL w.heap.size wr.heap.size wr o vs (peRow n f l k) ∧ Below w.heap.size w wr) (fun _ i _ => n - (intOf i).toNat)
  case atStart => exact ⟨0, [], by omega, rfl, by rw [HZ.out]; exact OwnLL.nil _ _ (Nat.le_refl _), Below.refl _ _⟩
  case round =>
    obtain ⟨k, vs, hk, rfl, hown, hbel⟩ := hrel
    generalize wr = wc at *
    by_cases hlt : k < n
    · have hrs := HRS.out k
      rw [HSTEP.out k] at hrs
      have HHS := Lib.hid (HHAS.out wc (H0.out.below hbel) (k : Int))
      have hln := HLEN.out k hk
      have hln2 := HLEN2.out k
      have HCR := Lib.hid (HCRS.out k)
      have HI2 := Lib.hid (HIH.out k)
      have HOW2 := Lib.hid (HOWN.out wc (H0.out.below hbel))
      have hszc := hbel.size
      have HOW := Lib.hid hown; have HBE := Lib.hid hbel
      obtain ⟨o1, o3, rfl, ho1, ho2⟩ := hown.form
      clear hown hbel
      by_cases hm : (k : Int) ∈ l
      · rw [decide_eq_true hm] at hrs
        rw [if_pos rfl, List.append_nil] at hrs
        have HRS2 := Lib.hid hrs
        have HH3 : Hid (Calls Try.prog 88 #[.slice a0 k0 c0, .int .i64 (k : Int)] wc (Says wc true)) := by
          have := HHS.out; rw [decide_eq_true hm] at this; exact this
        clear hrs hm
        go_wp2_with (go_at_call 88; ((with_reducible refine HH3.out.mono ?_); rintro e w1 ⟨rfl, rfl⟩))
        go_roundw
        case rel => exact ⟨k + 1, vs, by omega, by go_num, by rw [HRS2.out]; exact HOW.out, HBE.out⟩
        case measure => simp [intOf]; omega
      · rw [decide_eq_false hm] at hrs
        rw [if_neg (by simp)] at hrs
        have HH3 : Hid (Calls Try.prog 88 #[.slice a0 k0 c0, .int .i64 (k : Int)] wc (Says wc false)) := by
          have := HHS.out; rw [decide_eq_false hm] at this; exact this
        clear hm
        cases hF : (firstCrs (l ++ [(k : Int)])).isSome with
        | true =>
          rw [hF, if_pos rfl, List.append_nil] at hrs
          have HRS2 := Lib.hid hrs
          rw [hF] at HCR
          clear hrs hF
          generalize fcL (firstCrs (l ++ [(k : Int)])) = FC at *
          go_wp2_with (first
            | (go_at_call 88; ((with_reducible refine HH3.out.mono ?_); rintro e w1 ⟨rfl, rfl⟩))
            | (go_at_call 80; ((with_reducible refine HOW2.out.mono ?_); rintro e w2 ⟨v2, rfl, hq2, hb2⟩; obtain ⟨p1, p2, p3, rfl⟩ := hq2.form'; have HQ2 := Lib.hid hq2; have HB2 := Lib.hid hb2; clear hq2 hb2))
            | (at_builtin; refine wp_append _ rfl (.tmp 26) (.tmp 28) rfl _ (.slice p1 p2 p3) (.slice (some ⟨w2.heap.size, 0, none⟩) 1 1) l [(k : Int)] rfl rfl (HQ2.out.below (Below.alloc1 _ _)) (Own.lit1 _ w2 (k : Int) (Nat.le_refl _)).rd (by have := HLL.out; have := HK0.out; simp; omega) (by have := HB2.out.size; simp; omega) ?_; intro v3 w3 hq3 hg3 hb3; obtain ⟨y1, y2, y3, rfl⟩ := hq3.form'; have HQ3 := Lib.hid hq3; have HB3 := Lib.hid (chain1 (Below.refl _ _) (Nat.le_refl _) HB2.out hb3); clear hq3 hg3 hb3)
            | (go_at_call 89; ((refine (HCR.out _ _ HQ3.out.rd).mono ?_); rintro e w4 ⟨v4, rfl, hq4, hb4⟩; obtain ⟨z1, z2, z3, rfl⟩ := hq4.form'; have HB4 := Lib.hid hb4; clear hq4 hb4))
            | fail)
          go_roundw
          case rel => exact ⟨k + 1, vs, by omega, by go_num, by rw [HRS2.out]; exact (HOW.out.below (Below.step HB3.out HB4.out)).mono (Nat.le_refl _) (Below.step HB3.out HB4.out).size (Nat.le_refl _), Below.step HBE.out (Below.step HB3.out HB4.out)⟩
          case measure => simp [intOf]; omega
        | false =>
          rw [hF, if_neg (by simp)] at hrs
          have HRS2 := Lib.hid hrs
          rw [hF] at HCR
          clear hrs hF
          generalize fcL (firstCrs (l ++ [(k : Int)])) = FC at *
          go_wp2_with (first
            | (go_at_call 88; ((with_reducible refine HH3.out.mono ?_); rintro e w1 ⟨rfl, rfl⟩))
            | (go_at_call 80; ((with_reducible refine HOW2.out.mono ?_); rintro e w2 ⟨v2, rfl, hq2, hb2⟩; obtain ⟨p1, p2, p3, rfl⟩ := hq2.form'; have HQ2 := Lib.hid hq2; have HB2 := Lib.hid hb2; clear hq2 hb2))
            | (at_builtin; refine wp_append _ rfl (.tmp 26) (.tmp 28) rfl _ (.slice p1 p2 p3) (.slice (some ⟨w2.heap.size, 0, none⟩) 1 1) l [(k : Int)] rfl rfl (HQ2.out.below (Below.alloc1 _ _)) (Own.lit1 _ w2 (k : Int) (Nat.le_refl _)).rd (by have := HLL.out; have := HK0.out; simp; omega) (by have := HB2.out.size; simp; omega) ?_; intro v3 w3 hq3 hg3 hb3; obtain ⟨y1, y2, y3, rfl⟩ := hq3.form'; have HQ3 := Lib.hid hq3; have HB3 := Lib.hid (chain1 (Below.refl _ _) (Nat.le_refl _) HB2.out hb3); clear hq3 hg3 hb3)
            | (go_at_call 89; ((refine (HCR.out _ _ HQ3.out.rd).mono ?_); rintro e w4 ⟨v4, rfl, hq4, hb4⟩; obtain ⟨z1, z2, z3, rfl⟩ := hq4.form'; have HB4 := Lib.hid hb4; clear hq4 hb4))
            | (go_at_call 54; ((refine (HI2.out _ _ (HQ3.out.below HB4.out).rd).mono ?_); rintro e w5 ⟨v5, vs5, rfl, ho5, hb5⟩; obtain ⟨a5, c5, rfl, _⟩ := ho5.form; have HO5 := Lib.hid ho5; have HB5 := Lib.hid (Below.step (Below.step HB3.out HB4.out) hb5); clear ho5 hb5))
            | (at_builtin; refine wp_appendV _ rfl (.tmp 37) (.tmp 40) rfl w.heap.size (peRow n f l k).length (peL n f (l ++ [(k : Int)])).length c5 (.slice o1 (peRow n f l k).length o3) vs vs5 a5 rfl rfl (HOW.out.below HB5.out).row HO5.out.len.symm (LL_src HO5.out) HO5.out.ones (by omega) (by have := HB5.out.size; omega) ?_; intro v6 w6 hr6 hg6 hb6; have HO6 := Lib.hid (OwnLL.cat (HOW.out.below HB5.out) HO5.out (Below.step HB3.out HB4.out).size (Nat.le_trans hszc (Below.step HB3.out HB4.out).size) hr6 (Nat.le_refl _) hg6); have HB6 := Lib.hid ((Below.step HBE.out HB5.out).trans hb6); clear hr6 hg6 hb6)
            | fail)
          go_roundw
          case rel => exact ⟨k + 1, _, by omega, by go_num, by rw [HRS2.out]; exact HO6.out, HB6.out⟩
          case measure => simp [intOf]; omega
    · obtain rfl : k = n := by omega
      rw [HEND.out] at hown
      obtain ⟨a5, c5, rfl, _⟩ := hown.form
      have HOW := Lib.hid hown; have HBE := Lib.hid hbel
      clear hown hbel
      go_wp2_with fail
      go_ret
      exact ⟨_, vs, rfl, HOW.out, HBE.out⟩
theorem peAll_any (n : Nat) (h7 : n ≤ 7) : ∀ (f : Nat) (l : List Int) (w : World) (u : Value), Rd w u l → l.length + f = n → Calls Try.prog 54 #[u, .int .i64 (n : Int)] w (MadeLL w (peL n f l))
  | 0, l, w, u, h, hl => peAll_stop n l w u h h7 hl
  | f + 1, l, w, u, h, hl => peAll_go n f l w u h h7 hl (fun x w u h => peAll_any n h7 f (l ++ [(x : Int)]) w u h (by simp; omega))
theorem peListed_any (n : Int) (w : World) :
    Calls Try.prog 53 #[.int .i64 n] w fun e w' => e = .returned (.bool (inB n 0 7)) ∧ w = w' := by
  go_enter Try.func53, Try.ntmps53
  go_wp2_with (go_at_call 87; refine (l1In_any _ _ _ _).mono ?_; rintro e w' ⟨rfl, rfl⟩)
  go_ret
  exact ⟨rfl, rfl⟩
set_option maxHeartbeats 1000000 in
theorem spec_OpenPermutations (x : Int) (w : World) : Calls Try.prog 19 #[.int .i64 x] w (GivesLL w (res_OpenPermutations x) (ok_OpenPermutations x)) := by
  unfold res_OpenPermutations ok_OpenPermutations
  by_cases h : 0 ≤ x ∧ x ≤ 7
  · obtain ⟨n, rfl⟩ := Int.eq_ofNat_of_zero_le h.1
    have h7 : n ≤ 7 := by omega
    have HI := Lib.hid (inB_yes h.1 h.2)
    have HF := Lib.hid (fun w => peAll_any n h7 n [] w (.slice none 0 0) (Own.nil 0 w).rd (by simp))
    rw [HI.out, if_pos rfl, show ((n : Int)).toNat = n from rfl]
    generalize peL n n [] = L at *
    clear h h7
    go_enter Try.func19, Try.ntmps19
    go_wp2_with (first
      | (go_at_call 53; refine (peListed_any _ _).mono ?_; rintro e w' ⟨rfl, rfl⟩; rw [HI.out])
      | (go_at_call 54; ((refine (HF.out _).mono ?_); rintro e w2 ⟨v2, vs2, rfl, ho2, hb2⟩; obtain ⟨a2, c2, rfl, _⟩ := ho2.form; have HO2 := Lib.hid ho2; have HB2 := Lib.hid hb2; clear ho2 hb2)))
    go_ret2
    exact ⟨_, vs2, rfl, HO2.out, HB2.out⟩
  · have HI := Lib.hid (inB_no h)
    rw [HI.out, if_neg (by simp)]
    clear h
    go_enter Try.func19, Try.ntmps19
    go_wp2_with (go_at_call 53; refine (peListed_any _ _).mono ?_; rintro e w' ⟨rfl, rfl⟩; rw [HI.out])
    go_ret2
    exact ⟨_, [], rfl, OwnLL.nil _ _ (Nat.le_refl _), Below.refl _ _⟩
set_option maxHeartbeats 1000000 in
theorem spec_CountOpen (x : Int) (w : World) : Calls Try.prog 21 #[.int .i64 x] w (GivesN w (res_CountOpen x) (ok_CountOpen x)) := by
  unfold res_CountOpen ok_CountOpen
  by_cases h : 0 ≤ x ∧ x ≤ 7
  · obtain ⟨n, rfl⟩ := Int.eq_ofNat_of_zero_le h.1
    have h7 : n ≤ 7 := by omega
    have HI := Lib.hid (inB_yes h.1 h.2)
    have HF := Lib.hid (fun w => peAll_any n h7 n [] w (.slice none 0 0) (Own.nil 0 w).rd (by simp))
    rw [HI.out, if_pos rfl, show ((n : Int)).toNat = n from rfl]
    generalize peL n n [] = L at *
    clear h h7
    go_enter Try.func21, Try.ntmps21
    go_wp2_with (first
      | (go_at_call 53; refine (peListed_any _ _).mono ?_; rintro e w' ⟨rfl, rfl⟩; rw [HI.out])
      | (go_at_call 54; ((refine (HF.out _).mono ?_); rintro e w2 ⟨v2, vs2, rfl, ho2, hb2⟩; obtain ⟨a2, c2, rfl, _⟩ := ho2.form; have HB2 := Lib.hid hb2; clear ho2 hb2)))
    go_ret2
    exact ⟨rfl, HB2.out⟩
  · have HI := Lib.hid (inB_no h)
    rw [HI.out, if_neg (by simp)]
    clear h
    go_enter Try.func21, Try.ntmps21
    go_wp2_with (go_at_call 53; refine (peListed_any _ _).mono ?_; rintro e w' ⟨rfl, rfl⟩; rw [HI.out])
    go_ret2
    exact ⟨rfl, Below.refl _ _⟩

end Go.Proofs.Yteeoepbbocdchaa
