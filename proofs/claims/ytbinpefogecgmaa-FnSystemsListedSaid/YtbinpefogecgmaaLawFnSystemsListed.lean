/- The law FnSystemsListed returns true on any two byte slices: arch systems are listed in order, ranked and counted, and are read back from their texts. No condition. -/
import Derived.Test.YtbinpefogecgmaaRows
import Derived.ProofKit
import Derived.OpenShut
import Derived.ShutString
import Derived.ChangeOld
import Derived.Below
import Derived.Lib.SmallJoins
import Derived.Deep.DeepCutAuto
import Derived.Deep.CutBlock
import Derived.Test.YtbinpefogecgmaaCmps
import Derived.Test.YtbinpefogecgmaaLess
import Derived.Test.YtbinpefogecgmaaDrawC
import Derived.Test.YtbinpefogecgmaaSysF
import Derived.Test.YtbinpefogecgmaaTextF
import Derived.Test.YtbinpefogecgmaaRanked
import Derived.Test.YtbinpefogecgmaaSystems
import Derived.Test.YtbinpefogecgmaaCountSystems
import Derived.Test.YtbinpefogecgmaaIsSystem
import Derived.Test.YtbinpefogecgmaaClosing
namespace Go.Proofs.Ytbinpefogecgmaa
open Go.RowKit
set_option linter.unusedSimpArgs false
set_option linter.unusedVariables false

theorem catN_count {n : Nat} (h : n ≤ 6) : countOf (n : Int) = (catN n : Int) := by
  have : n = 0 ∨ n = 1 ∨ n = 2 ∨ n = 3 ∨ n = 4 ∨ n = 5 ∨ n = 6 := by omega
  rcases this with rfl | rfl | rfl | rfl | rfl | rfl | rfl <;> decide
theorem law_count (x y : Int) : ok_SystemWith x y = (inB x 0 6 && decide (0 ≤ y) && decide (y < countOf x)) := by
  unfold ok_SystemWith
  cases h : inB x 0 6 with
  | false => simp
  | true =>
    have h1 := inB_iff.1 h
    obtain ⟨n, rfl⟩ := Int.eq_ofNat_of_zero_le h1.1
    rw [catN_count (by omega), Int.toNat_natCast]
    simp
def withCheck (n : Nat) : Bool := (List.range (catN n)).all fun r => goodB (rankedL n r) && decide (rankOf (rankedL n r) = r) && decide ((rankedL n r).length / 2 = n)
theorem withCheck0 : withCheck 0 = true := by kernel_rfl
theorem withCheck1 : withCheck 1 = true := by kernel_rfl
theorem withCheck2 : withCheck 2 = true := by kernel_rfl
theorem withCheck3 : withCheck 3 = true := by kernel_rfl
theorem withCheck4 : withCheck 4 = true := by kernel_rfl
theorem withCheck5 : withCheck 5 = true := by kernel_rfl
theorem withCheck6 : withCheck 6 = true := by kernel_rfl
theorem with_facts {n r : Nat} (hn : n ≤ 6) (hr : r < catN n) : goodB (rankedL n r) = true ∧ rankOf (rankedL n r) = r ∧ (rankedL n r).length / 2 = n := by
  have hc : withCheck n = true := by
    have : n = 0 ∨ n = 1 ∨ n = 2 ∨ n = 3 ∨ n = 4 ∨ n = 5 ∨ n = 6 := by omega
    rcases this with rfl | rfl | rfl | rfl | rfl | rfl | rfl
    · exact withCheck0
    · exact withCheck1
    · exact withCheck2
    · exact withCheck3
    · exact withCheck4
    · exact withCheck5
    · exact withCheck6
  have := List.all_eq_true.1 hc r (List.mem_range.2 hr)
  simpa [and_assoc] using this
theorem law_with {x y : Int} (h : ok_SystemWith x y = true) : ok_RankSystem (res_SystemWith x y) = true ∧ res_RankSystem (res_SystemWith x y) = y ∧ ok_NextSystem (res_SystemWith x y) = ok_SystemWith x (y + 1) ∧ res_NextSystem (res_SystemWith x y) = res_SystemWith x (y + 1) ∧
    ok_SystemText (res_SystemWith x y) = true ∧ ok_ParseSystem (res_SystemText (res_SystemWith x y)) = true ∧ res_ParseSystem (res_SystemText (res_SystemWith x y)) = res_SystemWith x y := by
  have e : res_SystemWith x y = rankedL x.toNat y.toNat := by unfold res_SystemWith; rw [h]; rfl
  unfold ok_SystemWith at h
  simp only [Bool.and_eq_true, decide_eq_true_eq] at h
  have h1 := inB_iff.1 h.1
  obtain ⟨n, rfl⟩ := Int.eq_ofNat_of_zero_le h1.1
  obtain ⟨r, rfl⟩ := Int.eq_ofNat_of_zero_le h.2.1
  rw [Int.toNat_natCast, Int.toNat_natCast] at e
  have hr : r < catN n := by have := h.2.2; rw [Int.toNat_natCast] at this; omega
  obtain ⟨f1, f2, f3⟩ := with_facts (by omega) hr
  rw [e]
  unfold ok_RankSystem res_RankSystem ok_NextSystem res_NextSystem ok_SystemText res_SystemText ok_ParseSystem res_ParseSystem
  rw [f1, f2, f3]
  simp only [if_true, Bool.true_and]
  rw [text_read f1]
  simp
theorem text_small (l : List Int) : (res_SystemText l).size ≤ 12 := by
  unfold res_SystemText
  cases h : goodB l with
  | true => rw [if_pos rfl, textT_size]; exact good_len' h
  | false => rw [if_neg (by simp)]; decide
theorem law_parse {s : ByteArray} (h : ok_ParseSystem s = true) : ok_SystemText (res_ParseSystem s) = true ∧ res_SystemText (res_ParseSystem s) = s := by
  have h1 := parse_good h
  unfold ok_ParseSystem at h
  obtain ⟨q, hq⟩ := Option.isSome_iff_exists.1 h
  have e : res_ParseSystem s = q := by unfold res_ParseSystem; rw [hq]; rfl
  rw [e] at h1 ⊢
  unfold ok_SystemText res_SystemText
  rw [h1.1]
  exact ⟨rfl, text_back hq⟩
def orderCheck (n : Nat) : Bool := (List.range ((allL n).length - 1)).all fun k => ltL ((allL n).getD k []) ((allL n).getD (k + 1) [])
theorem orderCheck_all : (List.range 7).all orderCheck = true := by kernel_rfl
theorem law_all (x : Int) : ∀ k, k < (res_AllSystems x).length → ok_IsSystem ((res_AllSystems x).getD k []) = true ∧ ((((res_AllSystems x).getD k []).length : Nat) : Int) = 2 * x ∧ ((res_AllSystems x).getD k []).length ≤ 12 := by
  intro k hk
  unfold res_AllSystems at hk ⊢
  cases h : ok_AllSystems x with
  | false => rw [h] at hk; simp at hk
  | true =>
    rw [h] at hk
    simp only [if_true] at hk ⊢
    unfold ok_AllSystems at h
    have h1 := inB_iff.1 h
    obtain ⟨n, rfl⟩ := Int.eq_ofNat_of_zero_le h1.1
    rw [Int.toNat_natCast] at hk ⊢
    have := allL_good (n := n) (by omega) hk
    exact ⟨this.1, by rw [this.2]; omega, by rw [this.2]; omega⟩
theorem law_order (x : Int) : ∀ k, k + 1 < (res_AllSystems x).length → ltL ((res_AllSystems x).getD k []) ((res_AllSystems x).getD (k + 1) []) = true := by
  intro k hk
  unfold res_AllSystems at hk ⊢
  cases h : ok_AllSystems x with
  | false => rw [h] at hk; simp at hk
  | true =>
    rw [h] at hk
    simp only [if_true] at hk ⊢
    unfold ok_AllSystems at h
    have h1 := inB_iff.1 h
    have hc := List.all_eq_true.1 orderCheck_all x.toNat (List.mem_range.2 (by omega))
    unfold orderCheck at hc
    exact List.all_eq_true.1 hc k (List.mem_range.2 (by omega))
theorem law_told {x : Int} (h : ok_AllSystems x = true) : inB x 0 6 = true ∧ countOf x = (((res_AllSystems x).length : Nat) : Int) := by
  have e : res_AllSystems x = allL x.toNat := by unfold res_AllSystems; rw [h]; rfl
  unfold ok_AllSystems at h
  have h1 := inB_iff.1 h
  obtain ⟨n, rfl⟩ := Int.eq_ofNat_of_zero_le h1.1
  rw [e, Int.toNat_natCast, allL_length (by omega), catN_count (by omega)]
  exact ⟨h, rfl⟩

set_option maxHeartbeats 8000000 in
set_option maxRecDepth 100000 in
theorem walk_SystemsListed (b0 : Option Addr) (n0 c0 : Nat) (l1 : List Int) (b1 : Option Addr) (n1 c1 : Nat) (l2 : List Int) (w : World) (y1 : RdY w (.slice b0 n0 c0) l1) (y2 : RdY w (.slice b1 n1 c1) l2) :
    Calls Try.prog 3 #[.slice b0 n0 c0, .slice b1 n1 c1] w (Good w) := by
  have Y1 := Lib.hid y1; have Y2 := Lib.hid y2; clear y1 y2
  have C : Hid (Below w.heap.size w w) := Below.refl _ _
  have HIF : Hid (∀ b : Bool, b = true ∨ b = false) := fun b => by cases b <;> simp
  go_enter Try.func3, Try.ntmps3
  go_wp2_with fail
  refine (big_any _ _ _ l1 _ _ _ l2 _ Y1.out Y2.out).mono ?_
  rintro e w0 ⟨b, rfl, rfl⟩
  rcases HIF.out b with rfl | rfl
  · go_wp2
    go_ret
    exact ⟨rfl, C.out⟩
  go_wp2_with fail
  refine (drawSystemWith_any _ l1 _ Y1.out).mono ?_
  rintro e w1 ⟨x, y, rfl, hx, hy, hb⟩
  have HX := Lib.hid hx; have HY := Lib.hid hy; clear hx hy
  replace Y1 := Lib.hid (RdY.below Y1.out hb); replace Y2 := Lib.hid (RdY.below Y2.out hb)
  replace C := Lib.hid (Below.step C.out hb)
  clear hb
  go_wp2_with fail
  refine (impl_SystemWith x y _ (by have := HX.out; omega) (by have := HY.out; omega)).mono ?_
  rintro e w2 ⟨v_p, rfl, ho, hb⟩
  obtain ⟨pa, pn, pc, rfl⟩ := ho.form'
  replace Y1 := Lib.hid (RdY.below Y1.out hb); replace Y2 := Lib.hid (RdY.below Y2.out hb)
  replace C := Lib.hid (Below.step C.out hb)
  clear hb
  have O_p := Lib.hid ho; clear ho
  have L_p : Hid ((res_SystemWith x y).length ≤ 1048576) := Nat.le_trans (len_SystemWith x y) (by omega)
  go_wp2_with fail
  refine (spec_SystemWith x y _ (by have := HX.out; omega) (by have := HY.out; omega)).mono ?_
  rintro e w3 ⟨v_r, rfl, ho, hb⟩
  obtain ⟨ra, rn, rc, rfl⟩ := ho.form'
  replace O_p := Lib.hid (Own.below O_p.out hb)
  replace Y1 := Lib.hid (RdY.below Y1.out hb); replace Y2 := Lib.hid (RdY.below Y2.out hb)
  replace C := Lib.hid (Below.step C.out hb)
  clear hb
  have O_r := Lib.hid ho; clear ho
  have L_r : Hid ((res_SystemWith x y).length ≤ 1048576) := Nat.le_trans (len_SystemWith x y) (by omega)
  go_wp2_with fail
  refine (impl_CountSystems x _).mono ?_
  rintro e w4 ⟨rfl, hb⟩
  replace O_p := Lib.hid (Own.below O_p.out hb)
  replace O_r := Lib.hid (Own.below O_r.out hb)
  replace Y1 := Lib.hid (RdY.below Y1.out hb); replace Y2 := Lib.hid (RdY.below Y2.out hb)
  replace C := Lib.hid (Below.step C.out hb)
  clear hb
  go_wp2_with fail
  refine (spec_CountSystems x _).mono ?_
  rintro e w5 ⟨rfl, hb⟩
  replace O_p := Lib.hid (Own.below O_p.out hb)
  replace O_r := Lib.hid (Own.below O_r.out hb)
  replace Y1 := Lib.hid (RdY.below Y1.out hb); replace Y2 := Lib.hid (RdY.below Y2.out hb)
  replace C := Lib.hid (Below.step C.out hb)
  clear hb
  have hlc := law_count x y
  generalize hOK : ok_SystemWith x y = okS at *
  generalize inB x 0 6 = inS at *
  generalize countOf x = cS at *
  have HLC := Lib.hid hlc; have HOK := Lib.hid hOK
  clear hlc hOK
  go_upto_region 8 with fail
  go_cut [108] (fun c wx => c = .bool false ∧ Hid (Below w5.heap.size w5 wx))
  case first =>
    as_aux_lemma =>
      have D : Hid (Below w5.heap.size w5 w5) := Below.refl _ _
      go_wp2_with fail
      refine (sSame_yes _ _ _ _ _ O_p.out.rd O_r.out.rd rfl).mono ?_
      rintro e w6 ⟨rfl, hb⟩
      replace O_p := Lib.hid (Own.below O_p.out hb)
      replace O_r := Lib.hid (Own.below O_r.out hb)
      replace Y1 := Lib.hid (RdY.below Y1.out hb); replace Y2 := Lib.hid (RdY.below Y2.out hb)
      replace D := Lib.hid (Below.step D.out hb)
      clear hb
      have hlc := HLC.out; clear HLC HOK
      cases inS with
      | false =>
        obtain rfl : okS = false := by rw [hlc]; rfl
        clear hlc
        go_wp2_with fail
        go_meet
        case rel => exact ⟨rfl, D.out⟩
      | true =>
        by_cases h2 : 0 ≤ y
        · by_cases h3 : y < cS
          · obtain rfl : okS = true := by rw [hlc, decide_eq_true h2, decide_eq_true h3]; rfl
            clear hlc
            go_wp2_with fail
            go_meet
            case rel => exact ⟨rfl, D.out⟩
          · obtain rfl : okS = false := by rw [hlc, decide_eq_true h2, decide_eq_false h3]; rfl
            clear hlc
            go_wp2_with fail
            go_meet
            case rel => exact ⟨by first | rfl | simp [h3], D.out⟩
        · obtain rfl : okS = false := by rw [hlc, decide_eq_false h2]; simp
          clear hlc
          go_wp2_with fail
          go_meet
          case rel => exact ⟨rfl, D.out⟩
  case rest =>
  as_aux_lemma =>
  obtain ⟨rfl, hcut⟩ := hcut
  have hb := hcut.out; clear hcut HLC
  generalize wc = w6 at *
  replace O_p := Lib.hid (Own.below O_p.out hb)
  replace O_r := Lib.hid (Own.below O_r.out hb)
  replace Y1 := Lib.hid (RdY.below Y1.out hb); replace Y2 := Lib.hid (RdY.below Y2.out hb)
  replace C := Lib.hid (Below.step C.out hb)
  clear hb
  clear O_r
  go_wp2_with fail
  refine (drawAllSystems_any _ l2 _ Y2.out).mono ?_
  rintro e w7 ⟨m, rfl, hm, hb⟩
  have HM := Lib.hid hm; clear hm
  replace O_p := Lib.hid (Own.below O_p.out hb)
  replace Y1 := Lib.hid (RdY.below Y1.out hb); replace Y2 := Lib.hid (RdY.below Y2.out hb)
  replace C := Lib.hid (Below.step C.out hb)
  clear hb
  go_wp2_with fail
  refine (impl_AllSystems m _).mono ?_
  rintro e w8 ⟨v_al, vs_al, rfl, ho, hb⟩
  obtain ⟨ala, alc, rfl, _⟩ := ho.form
  replace O_p := Lib.hid (Own.below O_p.out hb)
  replace Y1 := Lib.hid (RdY.below Y1.out hb); replace Y2 := Lib.hid (RdY.below Y2.out hb)
  replace C := Lib.hid (Below.step C.out hb)
  clear hb
  have O_al := Lib.hid ho; clear ho
  go_wp2_with fail
  refine (spec_AllSystems m _).mono ?_
  rintro e w9 ⟨v_li, vs_li, rfl, ho, hb⟩
  obtain ⟨lia, lic, rfl, _⟩ := ho.form
  replace O_p := Lib.hid (Own.below O_p.out hb)
  replace O_al := Lib.hid (OwnLL.below O_al.out hb)
  replace Y1 := Lib.hid (RdY.below Y1.out hb); replace Y2 := Lib.hid (RdY.below Y2.out hb)
  replace C := Lib.hid (Below.step C.out hb)
  clear hb
  have O_li := Lib.hid ho; clear ho
  go_wp2_with fail
  refine (sSameRows_yes _ _ _ _ _ _ _ _ _ _ O_al.out O_li.out).mono ?_
  rintro e w10 ⟨rfl, hb⟩
  replace O_p := Lib.hid (Own.below O_p.out hb)
  replace O_al := Lib.hid (OwnLL.below O_al.out hb)
  replace O_li := Lib.hid (OwnLL.below O_li.out hb)
  replace Y1 := Lib.hid (RdY.below Y1.out hb); replace Y2 := Lib.hid (RdY.below Y2.out hb)
  replace C := Lib.hid (Below.step C.out hb)
  clear hb
  clear O_li
  have FA := Lib.hid (law_all m); have FO := Lib.hid (law_order m); have FT := Lib.hid (fun h => @law_told m h)
  have hw2 : IntKind.i64.wrap (2 * m) = 2 * m := IntWalk.i64_in _ (by have := HM.out; omega)
  generalize res_AllSystems m = AL at *
  have hal := O_al.out.form
  obtain ⟨_, _, e9, hal1, hal2⟩ := hal
  simp only [Value.slice.injEq] at e9
  obtain ⟨-, -, rfl⟩ := e9
  unfold maxLen at hal2
  go_wp2_with fail
  go_loopw [132] (fun i wr => ∃ k : Nat, k ≤ AL.length ∧ i = .int .i64 (k : Int) ∧ Hid (Below w10.heap.size w10 wr)) (fun i _ => AL.length - (intOf i).toNat)
  case atStart => exact ⟨0, by omega, rfl, Below.refl _ _⟩
  case round =>
    obtain ⟨k, hk, rfl, HB⟩ := hrel
    have hb := HB.out
    generalize wr = w11 at *
    replace O_p := Lib.hid (Own.below O_p.out hb)
    replace O_al := Lib.hid (OwnLL.below O_al.out hb)
    replace Y1 := Lib.hid (RdY.below Y1.out hb); replace Y2 := Lib.hid (RdY.below Y2.out hb)
    replace C := Lib.hid (Below.step C.out hb)
    clear hb
    by_cases hlt : k < AL.length
    · obtain ⟨g1, rfl, _, _, hcell, _⟩ := O_al.out.at (by omega)
      have hc1 := hcell k hlt
      obtain ⟨f1, f2, f3⟩ := FA.out k hlt
      have HRD := Lib.hid (O_al.out.own k hlt).rd
      have HC := Lib.hid hcell
      have HF3 := Lib.hid f3
      have hlt2 : (k : Int) < (AL.length : Int) := by omega
      have hwk : IntKind.i64.wrap ((k : Int) + 1) = (k : Int) + 1 := IntWalk.i64_in _ (by omega)
      obtain ⟨q, hq⟩ : ∃ q, AL.getD k [] = q := ⟨_, rfl⟩
      rw [hq] at f1 f2 HRD HF3
      have HQ := Lib.hid hq
      obtain ⟨qa, qc, e2, _⟩ := HRD.out
      rw [e2] at hc1 HRD
      have HE2 := Lib.hid e2
      have hnl : (((q.length : Nat) : Int) != 2 * m) = false := by rw [f2]; simp
      have HF2 := Lib.hid f2
      clear e2 hq f2 f3 hcell
      go_wp2_with fail
      refine (impl_IsSystem q _ _ HRD.out (by have := HF3.out; omega)).mono ?_
      rintro e w20 ⟨rfl, hb⟩
      have HB2 := Lib.hid (Below.step HB.out hb)
      cases k with
      | zero =>
        clear hb
        go_wp2_with fail
        go_roundw
        case rel => exact ⟨1, by omega, by go_num, HB2.out⟩
        case measure => simp [intOf]; omega
      | succ j =>
        have hc2 := HC.out j (by omega)
        have hcj : w20.cell? ⟨g1, j, none⟩ = some (rowV vs_al j) := (hb.cell (p := ⟨g1, j, none⟩) (World.block_lt_of_cell? _ _ hc2)).trans hc2
        have HRJ := Lib.hid ((O_al.out.own j (by omega)).rd.below hb)
        obtain ⟨f4, f5, f6⟩ := FA.out j (by omega)
        have f7 := FO.out j hlt
        rw [HQ.out] at f7
        obtain ⟨pj, hpj⟩ : ∃ pj, AL.getD j [] = pj := ⟨_, rfl⟩
        rw [hpj] at f5 f7 HRJ
        obtain ⟨pa, pc, e3, _⟩ := HRJ.out
        rw [e3] at hcj HRJ
        have HF5 := Lib.hid f5; have HRQ := Lib.hid (HRD.out.below hb)
        have hj1 : IntKind.i64.wrap ((j : Int) + 1 - 1) = (j : Int) := by rw [show (j : Int) + 1 - 1 = (j : Int) by omega]; exact IntWalk.i64_in _ (by omega)
        have hj2 : (0 : Int) < (j : Int) + 1 := by omega
        have hj3 : (j : Int) < (AL.length : Int) := by omega
        have HF7 := Lib.hid f7
        clear hb e3 hpj f4 f5 f6 f7 hc2
        go_wp2_with fail
        refine (sLess_any _ _ pj q _ HRJ.out HRQ.out (by have := HF5.out; have := HF2.out; omega)).mono ?_
        rintro e w21 ⟨rfl, hb⟩
        rw [HF7.out]
        have HB3 := Lib.hid (Below.step HB2.out hb)
        clear hb
        go_wp2_with fail
        go_roundw
        case rel => exact ⟨j + 1 + 1, by omega, by go_num, HB3.out⟩
        case measure => simp [intOf]; omega
    · obtain rfl : k = AL.length := by omega
      have hlt2 : ¬ (AL.length : Int) < (AL.length : Int) := by omega
      clear HB FA FO
      as_aux_lemma =>
      generalize hT : ok_AllSystems m = okT at *
      clear hlt2
      go_upto_if 162 with fail
      go_cut [] (fun wx => Hid (Below w11.heap.size w11 wx))
      case first =>
        as_aux_lemma =>
          have D : Hid (Below w11.heap.size w11 w11) := Below.refl _ _
          cases okT with
          | false =>
            go_wp2_with fail
            go_meet
            case rel => exact D.out
          | true =>
            have f := FT.out rfl
            have F2 := Lib.hid f.2; have f1 := f.1; clear f hT
            go_wp2_with fail
            refine (impl_CountSystems m _).mono ?_
            rintro e w12 ⟨rfl, hb⟩
            replace O_p := Lib.hid (Own.below O_p.out hb)
            replace O_al := Lib.hid (OwnLL.below O_al.out hb)
            replace Y1 := Lib.hid (RdY.below Y1.out hb); replace Y2 := Lib.hid (RdY.below Y2.out hb)
            replace D := Lib.hid (Below.step D.out hb)
            clear hb
            rw [F2.out]
            go_wp2_with fail
            go_meet
            case rel => exact D.out
      case rest =>
      as_aux_lemma =>
      have hb := hcut.out; clear hcut
      generalize wc = w13 at *
      replace O_p := Lib.hid (Own.below O_p.out hb)
      replace O_al := Lib.hid (OwnLL.below O_al.out hb)
      replace Y1 := Lib.hid (RdY.below Y1.out hb); replace Y2 := Lib.hid (RdY.below Y2.out hb)
      replace C := Lib.hid (Below.step C.out hb)
      clear hb
      clear hT FT
      clear O_al
      go_wp2_with fail
      refine (drawParseSystem_any _ l2 _ Y2.out).mono ?_
      rintro e w14 ⟨s, rfl, hs, hb⟩
      have HS := Lib.hid hs; clear hs
      replace O_p := Lib.hid (Own.below O_p.out hb)
      replace Y1 := Lib.hid (RdY.below Y1.out hb); replace Y2 := Lib.hid (RdY.below Y2.out hb)
      replace C := Lib.hid (Below.step C.out hb)
      clear hb
      go_wp2_with fail
      refine (impl_ParseSystem s _ (by have := HS.out; omega)).mono ?_
      rintro e w15 ⟨v_rd, rfl, ho, hb⟩
      obtain ⟨rda, rdn, rdc, rfl⟩ := ho.form'
      replace O_p := Lib.hid (Own.below O_p.out hb)
      replace Y1 := Lib.hid (RdY.below Y1.out hb); replace Y2 := Lib.hid (RdY.below Y2.out hb)
      replace C := Lib.hid (Below.step C.out hb)
      clear hb
      have O_rd := Lib.hid ho; clear ho
      have L_rd : Hid ((res_ParseSystem s).length ≤ 1048576) := Nat.le_trans (len_ParseSystem s) (by omega)
      go_wp2_with fail
      refine (spec_ParseSystem s _ (by have := HS.out; omega)).mono ?_
      rintro e w16 ⟨v_rdw, rfl, ho, hb⟩
      obtain ⟨rdwa, rdwn, rdwc, rfl⟩ := ho.form'
      replace O_p := Lib.hid (Own.below O_p.out hb)
      replace O_rd := Lib.hid (Own.below O_rd.out hb)
      replace Y1 := Lib.hid (RdY.below Y1.out hb); replace Y2 := Lib.hid (RdY.below Y2.out hb)
      replace C := Lib.hid (Below.step C.out hb)
      clear hb
      have O_rdw := Lib.hid ho; clear ho
      have L_rdw : Hid ((res_ParseSystem s).length ≤ 1048576) := Nat.le_trans (len_ParseSystem s) (by omega)
      go_wp2_with fail
      refine (sSame_yes _ _ _ _ _ O_rd.out.rd O_rdw.out.rd rfl).mono ?_
      rintro e w17 ⟨rfl, hb⟩
      replace O_p := Lib.hid (Own.below O_p.out hb)
      replace O_rd := Lib.hid (Own.below O_rd.out hb)
      replace O_rdw := Lib.hid (Own.below O_rdw.out hb)
      replace Y1 := Lib.hid (RdY.below Y1.out hb); replace Y2 := Lib.hid (RdY.below Y2.out hb)
      replace C := Lib.hid (Below.step C.out hb)
      clear hb
      clear O_rdw
      generalize hT : ok_ParseSystem s = okT at *
      go_upto_if 197 with fail
      go_cut [] (fun wx => Hid (Below w17.heap.size w17 wx))
      case first =>
        as_aux_lemma =>
          have D : Hid (Below w17.heap.size w17 w17) := Below.refl _ _
          cases okT with
          | false =>
            go_wp2_with fail
            go_meet
            case rel => exact D.out
          | true =>
            obtain ⟨f1, f2⟩ := law_parse hT
            have F2 := Lib.hid f2; clear f2 hT
            go_wp2_with fail
            refine (impl_SystemText (res_ParseSystem s) _ _ O_rd.out.rd L_rd.out).mono ?_
            rintro e w18 ⟨rfl, hb⟩
            replace O_p := Lib.hid (Own.below O_p.out hb)
            replace O_rd := Lib.hid (Own.below O_rd.out hb)
            replace Y1 := Lib.hid (RdY.below Y1.out hb); replace Y2 := Lib.hid (RdY.below Y2.out hb)
            replace D := Lib.hid (Below.step D.out hb)
            clear hb
            rw [F2.out]
            go_wp2_with fail
            go_meet
            case rel => exact D.out
      case rest =>
      as_aux_lemma =>
      have hb := hcut.out; clear hcut
      generalize wc = w19 at *
      replace O_p := Lib.hid (Own.below O_p.out hb)
      replace O_rd := Lib.hid (Own.below O_rd.out hb)
      replace Y1 := Lib.hid (RdY.below Y1.out hb); replace Y2 := Lib.hid (RdY.below Y2.out hb)
      replace C := Lib.hid (Below.step C.out hb)
      clear hb
      clear hT
      clear O_rd
      go_wp2_with fail
      refine (drawNextSystem_any _ l1 _ Y1.out).mono ?_
      rintro e w20 ⟨v_q, lq, rfl, ho, hl, hb⟩
      obtain ⟨qa, qn, qc, rfl⟩ := ho.form'
      have LQ := Lib.hid hl; clear hl
      replace O_p := Lib.hid (Own.below O_p.out hb)
      replace Y1 := Lib.hid (RdY.below Y1.out hb); replace Y2 := Lib.hid (RdY.below Y2.out hb)
      replace C := Lib.hid (Below.step C.out hb)
      clear hb
      have O_q := Lib.hid ho; clear ho
      go_wp2_with fail
      refine (impl_NextSystem lq _ _ O_q.out.rd (by have := LQ.out; omega)).mono ?_
      rintro e w21 ⟨v_nx, rfl, ho, hb⟩
      obtain ⟨nxa, nxn, nxc, rfl⟩ := ho.form'
      replace O_p := Lib.hid (Own.below O_p.out hb)
      replace O_q := Lib.hid (Own.below O_q.out hb)
      replace Y1 := Lib.hid (RdY.below Y1.out hb); replace Y2 := Lib.hid (RdY.below Y2.out hb)
      replace C := Lib.hid (Below.step C.out hb)
      clear hb
      have O_nx := Lib.hid ho; clear ho
      have L_nx : Hid ((res_NextSystem lq).length ≤ 1048576) := Nat.le_trans (len_NextSystem lq) (by omega)
      go_wp2_with fail
      refine (spec_NextSystem lq _ _ O_q.out.rd (by have := LQ.out; omega)).mono ?_
      rintro e w22 ⟨v_nxw, rfl, ho, hb⟩
      obtain ⟨nxwa, nxwn, nxwc, rfl⟩ := ho.form'
      replace O_p := Lib.hid (Own.below O_p.out hb)
      replace O_q := Lib.hid (Own.below O_q.out hb)
      replace O_nx := Lib.hid (Own.below O_nx.out hb)
      replace Y1 := Lib.hid (RdY.below Y1.out hb); replace Y2 := Lib.hid (RdY.below Y2.out hb)
      replace C := Lib.hid (Below.step C.out hb)
      clear hb
      have O_nxw := Lib.hid ho; clear ho
      have L_nxw : Hid ((res_NextSystem lq).length ≤ 1048576) := Nat.le_trans (len_NextSystem lq) (by omega)
      go_wp2_with fail
      refine (sSame_yes _ _ _ _ _ O_nx.out.rd O_nxw.out.rd rfl).mono ?_
      rintro e w23 ⟨rfl, hb⟩
      replace O_p := Lib.hid (Own.below O_p.out hb)
      replace O_q := Lib.hid (Own.below O_q.out hb)
      replace O_nx := Lib.hid (Own.below O_nx.out hb)
      replace O_nxw := Lib.hid (Own.below O_nxw.out hb)
      replace Y1 := Lib.hid (RdY.below Y1.out hb); replace Y2 := Lib.hid (RdY.below Y2.out hb)
      replace C := Lib.hid (Below.step C.out hb)
      clear hb
      clear O_nxw
      clear O_q
      clear O_nx
      cases okS with
      | false =>
        go_wp2_with fail
        go_ret
        exact ⟨rfl, C.out⟩
      | true =>
        obtain ⟨f1, f2, f3, f4, f5, f6, f7⟩ := law_with HOK.out
        have F2 := Lib.hid f2; have F3 := Lib.hid f3; have F4 := Lib.hid f4; have F7 := Lib.hid f7
        have hwy : IntKind.i64.wrap (y + 1) = y + 1 := IntWalk.i64_in _ (by have := HY.out; omega)
        have hts := Lib.hid (Nat.le_trans (text_small (res_SystemWith x y)) (show 12 ≤ 1048576 by omega))
        clear f2 f3 f4 f7
        go_wp2_with fail
        refine (impl_RankSystem (res_SystemWith x y) _ _ O_p.out.rd L_p.out).mono ?_
        rintro e w24 ⟨rfl, hb⟩
        replace O_p := Lib.hid (Own.below O_p.out hb)
        replace Y1 := Lib.hid (RdY.below Y1.out hb); replace Y2 := Lib.hid (RdY.below Y2.out hb)
        replace C := Lib.hid (Below.step C.out hb)
        clear hb
        rw [F2.out]
        go_wp2_with fail
        refine (impl_NextSystem (res_SystemWith x y) _ _ O_p.out.rd L_p.out).mono ?_
        rintro e w25 ⟨v_la, rfl, ho, hb⟩
        obtain ⟨laa, lan, lac, rfl⟩ := ho.form'
        replace O_p := Lib.hid (Own.below O_p.out hb)
        replace Y1 := Lib.hid (RdY.below Y1.out hb); replace Y2 := Lib.hid (RdY.below Y2.out hb)
        replace C := Lib.hid (Below.step C.out hb)
        clear hb
        have O_la := Lib.hid ho; clear ho
        rw [F3.out]
        have L_la : Hid ((res_NextSystem (res_SystemWith x y)).length ≤ 1048576) := Nat.le_trans (len_NextSystem (res_SystemWith x y)) (by omega)
        go_wp2_with fail
        refine (impl_SystemWith x (y + 1) _ (by have := HX.out; omega) (by have := HY.out; omega)).mono ?_
        rintro e w26 ⟨v_ow, rfl, ho, hb⟩
        obtain ⟨owa, own, owc, rfl⟩ := ho.form'
        replace O_p := Lib.hid (Own.below O_p.out hb)
        replace O_la := Lib.hid (Own.below O_la.out hb)
        replace Y1 := Lib.hid (RdY.below Y1.out hb); replace Y2 := Lib.hid (RdY.below Y2.out hb)
        replace C := Lib.hid (Below.step C.out hb)
        clear hb
        have O_ow := Lib.hid ho; clear ho
        have L_ow : Hid ((res_SystemWith x (y + 1)).length ≤ 1048576) := Nat.le_trans (len_SystemWith x (y + 1)) (by omega)
        go_wp2_with fail
        refine (impl_SystemText (res_SystemWith x y) _ _ O_p.out.rd L_p.out).mono ?_
        rintro e w27 ⟨rfl, hb⟩
        replace O_p := Lib.hid (Own.below O_p.out hb)
        replace O_la := Lib.hid (Own.below O_la.out hb)
        replace O_ow := Lib.hid (Own.below O_ow.out hb)
        replace Y1 := Lib.hid (RdY.below Y1.out hb); replace Y2 := Lib.hid (RdY.below Y2.out hb)
        replace C := Lib.hid (Below.step C.out hb)
        clear hb
        go_wp2_with fail
        refine (impl_ParseSystem (res_SystemText (res_SystemWith x y)) _ hts.out).mono ?_
        rintro e w28 ⟨v_ag, rfl, ho, hb⟩
        obtain ⟨aga, agn, agc, rfl⟩ := ho.form'
        replace O_p := Lib.hid (Own.below O_p.out hb)
        replace O_la := Lib.hid (Own.below O_la.out hb)
        replace O_ow := Lib.hid (Own.below O_ow.out hb)
        replace Y1 := Lib.hid (RdY.below Y1.out hb); replace Y2 := Lib.hid (RdY.below Y2.out hb)
        replace C := Lib.hid (Below.step C.out hb)
        clear hb
        have O_ag := Lib.hid ho; clear ho
        have L_ag : Hid ((res_ParseSystem (res_SystemText (res_SystemWith x y))).length ≤ 1048576) := Nat.le_trans (len_ParseSystem (res_SystemText (res_SystemWith x y))) (by omega)
        go_wp2_with fail
        refine (sSame_yes _ _ _ _ _ O_la.out.rd O_ow.out.rd F4.out).mono ?_
        rintro e w29 ⟨rfl, hb⟩
        replace O_p := Lib.hid (Own.below O_p.out hb)
        replace O_la := Lib.hid (Own.below O_la.out hb)
        replace O_ow := Lib.hid (Own.below O_ow.out hb)
        replace O_ag := Lib.hid (Own.below O_ag.out hb)
        replace Y1 := Lib.hid (RdY.below Y1.out hb); replace Y2 := Lib.hid (RdY.below Y2.out hb)
        replace C := Lib.hid (Below.step C.out hb)
        clear hb
        go_wp2_with fail
        refine (sSame_yes _ _ _ _ _ O_ag.out.rd O_p.out.rd F7.out).mono ?_
        rintro e w30 ⟨rfl, hb⟩
        replace O_p := Lib.hid (Own.below O_p.out hb)
        replace O_la := Lib.hid (Own.below O_la.out hb)
        replace O_ow := Lib.hid (Own.below O_ow.out hb)
        replace O_ag := Lib.hid (Own.below O_ag.out hb)
        replace Y1 := Lib.hid (RdY.below Y1.out hb); replace Y2 := Lib.hid (RdY.below Y2.out hb)
        replace C := Lib.hid (Below.step C.out hb)
        clear hb
        go_wp2_with fail
        go_ret
        exact ⟨by simp, C.out⟩
end Go.Proofs.Ytbinpefogecgmaa

namespace Go.Proofs.Ytbinpefogecgmaa.fnSystemsListed
open Go.ChangeShapes Go.WideShapes Go.ChangeAt Go.RowKit
set_option linter.unusedVariables false
set_option linter.unusedSimpArgs false

theorem own : ownKnob Try.prog.godebug = none := by kernel_rfl
theorem laidOut : laidOutB Try.prog = true := by kernel_rfl

set_option maxRecDepth 100000 in
theorem lifted (os : Os) (started : os.Started) (H : Type) (enc : TypeId × Value → H) :
    ReturnsInHanded {} Try.checked os 3 .any (Rows.fnSystemsListedSpec.pre6 enc Try.prog Try.f3 Rows.fnSystemsListedRow.domain false) (Rows.fnSystemsListedSpec.post enc Try.prog Try.f3 false true false false) := by
  refine returnsInHanded_of_change (C := Try.checked) own started (by kernel_rfl) Try.func3
    (ChangeSpec.witness6 (enc := enc) (C := Try.checked) false ⟨#[], #[.slice none 0 0, .slice none 0 0], []⟩ 8 (by kernel_rfl) (by kernel_rfl) (by kernel_rfl) (by kernel_rfl)) ?_
  intro W base args ds gs before hval0 hW hcnd _
  have hval : ∀ (j : Nat) t v, Try.f3.params[j]? = some t → args[j]? = some v → Value.okWide Try.prog W .any base t v := hval0
  have hW' := hW
  obtain ⟨p, q, hA0, hV, rfl, hfz, hnd⟩ := hW
  have hA : DataW.TrodAll enc Try.prog W 0 (fun _ => true) true Try.f3.params.toList args.toList ds p := hA0
  rw [Try.params3] at hA hval
  obtain ⟨v0, vs0, d0, ds0, p0, q0, hargs, rfl, rfl, h0, r0⟩ := trodAll_cons hA
  obtain ⟨v1, vs1, d1, ds1, p1, q1, rfl, rfl, rfl, h1, r1⟩ := trodAll_cons r0
  obtain ⟨rfl, rfl, rfl⟩ := trodAll_nil r1
  obtain rfl : args = #[v0, v1] := by cases args; simp_all
  obtain ⟨rfl, rfl⟩ := trodVars_none hV
  obtain ⟨a0, len0, cap0, rfl⟩ := okWide_slice Try.underlying22 (hval 0 22 v0 rfl rfl)
  have k0 := h0
  have lt0 : ∀ x ∈ p0, x.block < W.heap.size := by obtain ⟨m, hm⟩ := k0; exact DataW.trod_lt m _ _ _ hm
  obtain ⟨z0, w0⟩ : ∃ zs, RdY W (.slice a0 len0 cap0) zs := by
    obtain ⟨fuel, hf⟩ := h0
    rcases open_ints Try.underlying22 Try.underlying5 (by kernel_rfl) hf with ⟨hcs, _⟩ | ⟨x, l, c, zs, hcs, _, hl, hm, hz, _, hcell, hwz⟩
    · simp [Value.cells] at hcs
      obtain ⟨rfl, rfl, rfl⟩ := hcs
      exact ⟨[], rdY_nil W⟩
    · simp [Value.cells] at hcs
      obtain ⟨rfl, rfl, rfl⟩ := hcs
      exact ⟨zs.take _, rdY_row W x _ _ zs hl hm (by simpa using hz) hcell hwz⟩
  obtain ⟨a1, len1, cap1, rfl⟩ := okWide_slice Try.underlying22 (hval 1 22 v1 rfl rfl)
  have k1 := h1
  have lt1 : ∀ x ∈ p1, x.block < W.heap.size := by obtain ⟨m, hm⟩ := k1; exact DataW.trod_lt m _ _ _ hm
  obtain ⟨z1, w1⟩ : ∃ zs, RdY W (.slice a1 len1 cap1) zs := by
    obtain ⟨fuel, hf⟩ := h1
    rcases open_ints Try.underlying22 Try.underlying5 (by kernel_rfl) hf with ⟨hcs, _⟩ | ⟨x, l, c, zs, hcs, _, hl, hm, hz, _, hcell, hwz⟩
    · simp [Value.cells] at hcs
      obtain ⟨rfl, rfl, rfl⟩ := hcs
      exact ⟨[], rdY_nil W⟩
    · simp [Value.cells] at hcs
      obtain ⟨rfl, rfl, rfl⟩ := hcs
      exact ⟨zs.take _, rdY_row W x _ _ zs hl hm (by simpa using hz) hcell hwz⟩
  clear hA0 hval0
  refine (walk_SystemsListed a0 len0 cap0 z0 a1 len1 cap1 z1 W w0 w1).mono fun e W' ⟨he, bel⟩ => ?_
  subst he
  exact ⟨_, rfl, _, _, _, [], _, [], hW', trodAll_mk1 (shut_bool Try.underlying4 _), (trodAll_cons_mk (Below.trod laidOut (by kernel_rfl) (of_decide_eq_true (by kernel_rfl)) k0 bel lt0) (trodAll_cons_mk (Below.trod laidOut (by kernel_rfl) (of_decide_eq_true (by kernel_rfl)) k1 bel lt1) trodAll_mk0)), rfl, bel.frame _, fun h => by cases h⟩

theorem over : Rows.fnSystemsListedRow.holds Try.pinned (OpenSpec.ofChange Rows.fnSystemsListedSpec) :=
  OpenClaim.holds_of_wide 3 Try.f3 rfl rfl rfl rfl rfl rfl rfl ⟨rfl, rfl, rfl, rfl, rfl⟩ rfl rfl rfl rfl rfl (by kernel_rfl) Try.func3 (by kernel_rfl)
    (of_decide_eq_true (by kernel_rfl)) (by unfold Func.isWrapper; first | (rw [if_pos (by decide +kernel)]; kernel_rfl) | (rw [if_neg (by decide +kernel)]; exact ⟨rfl, rfl⟩))
    (fun os started H enc _ => lifted os started H enc)

theorem proved : Rows.FnSystemsListedSaid := over
#print axioms proved
end Go.Proofs.Ytbinpefogecgmaa.fnSystemsListed
