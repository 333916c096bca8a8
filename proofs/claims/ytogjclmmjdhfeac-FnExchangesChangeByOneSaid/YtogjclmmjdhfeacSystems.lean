/- All systems, systems with ranks: the program's functions and the model's. -/
import Derived.Test.YtogjclmmjdhfeacAhAll
import Derived.Test.YtogjclmmjdhfeacFill
import Derived.Test.YtogjclmmjdhfeacListsLaw
namespace Go.Proofs.Ytogjclmmjdhfeac
open Go.RowKit
set_option linter.unusedSimpArgs false
set_option linter.unusedVariables false

def ok_AllSystems (n : Int) : Bool := inB n 0 6
def res_AllSystems (n : Int) : List (List Int) := if ok_AllSystems n then allL n.toNat else []
theorem rows_AllSystems (n : Int) : (res_AllSystems n).length ≤ 1000 ∧ ∀ i, i < (res_AllSystems n).length → ((res_AllSystems n).getD i []).length ≤ 12 := by
  unfold res_AllSystems
  split
  · next h =>
    have := inB_iff.1 h
    refine ⟨ahL_short (by omega) (by omega), fun i hi => Nat.le_trans (row_len hi) (by omega)⟩
  · simp

theorem len_AllSystems (n : Int) : tot (res_AllSystems n) ≤ 1000000 ∧ ∀ i, i < (res_AllSystems n).length → ((res_AllSystems n).getD i []).length ≤ 1000000 := by
  have h := rows_AllSystems n
  exact ⟨Nat.le_trans (tot_le (K := 12) h.2) (by omega), fun i hi => Nat.le_trans (h.2 i hi) (by omega)⟩
theorem ranked_take (n k N : Nat) (hk : k < N) : (((List.range N).map (rankedL n)).take k ++ List.replicate (N - k) []).set k (rankedL n k) = ((List.range N).map (rankedL n)).take (k + 1) ++ List.replicate (N - (k + 1)) [] := by
  have h1 : (((List.range N).map (rankedL n)).take k).length = k := by simp; omega
  have e : List.replicate (N - k) ([] : List Int) = [] :: List.replicate (N - (k + 1)) [] := by
    rw [show N - k = (N - (k + 1)) + 1 by omega, List.replicate_succ]
  rw [List.set_append_right _ _ (by omega), h1, Nat.sub_self, e, List.set_cons_zero, List.take_succ_eq_append_getElem (by simpa using hk), List.append_assoc]
  simp

set_option maxHeartbeats 2000000 in
theorem impl_AllSystems (x : Int) (w : World) : Calls Try.prog 32 #[.int .i64 x] w (GivesLL w (res_AllSystems x) (ok_AllSystems x)) := by
  by_cases h : 0 ≤ x ∧ x ≤ 6
  · obtain ⟨n, rfl⟩ := Int.eq_ofNat_of_zero_le h.1
    have hn : n ≤ 6 := by omega
    have hb := inB_yes h.1 h.2
    have e1 : ok_AllSystems (n : Int) = true := hb
    have e2 : res_AllSystems (n : Int) = (List.range (catN n)).map (rankedL n) := by rw [res_AllSystems, e1, if_pos rfl, Int.toNat_natCast, allL_ranked hn]
    rw [e1, e2]
    have hcat := fun w => catalan_N n hn w
    have bN := (catN_bd n hn).2
    have hrk := fun r hr w => systemRanked_any n r w hn hr
    have hstep := fun k hk => ranked_take n k (catN n) hk
    have hlen := fun r => rankedL_length n r
    generalize catN n = N at *
    have HB := Lib.hid hb; have HC := Lib.hid hcat; have HRK := Lib.hid hrk; have HST := Lib.hid hstep; have HLN := Lib.hid hlen
    clear hb h e1 e2 hcat hrk hstep hlen
    go_enter Try.func32, Try.ntmps32
    go_wp2_with (first
      | (go_at_call 70; refine (isArchCount_any _ _).mono ?_; rintro e w' ⟨rfl, rfl⟩; rw [HB.out])
      | (go_at_call 71; ((with_reducible refine (HC.out _).mono ?_); rintro e w' ⟨rfl, rfl⟩))
      | (at_make; refine wp_makeLL _ rfl _ _ rfl N _ _ rfl rfl rfl rfl (by omega) ?_; intro w1 hown hbel hsz; have HOWN := Lib.hid hown; have HBEL := Lib.hid hbel; clear hown hbel))
    go_loopw [14] (fun i wr => ∃ (k : Nat) (vs : List Value), k ≤ N ∧ i = .int .i64 (k : Int) ∧ OwnLL w.heap.size wr.heap.size wr (.slice (some ⟨w.heap.size, 0, none⟩) N N) vs (((List.range N).map (rankedL n)).take k ++ List.replicate (N - k) []) ∧ Below w.heap.size w wr) (fun i _ => N - (intOf i).toNat)
    case atStart => exact ⟨0, _, by omega, rfl, by simpa using HOWN.out, HBEL.out⟩
    case round =>
      obtain ⟨k, vs, hk, rfl, hown, hbel⟩ := hrel
      clear HOWN HBEL
      generalize wr = wa at *
      by_cases hlt : k < N
      · have hr := fun w => HRK.out k hlt w
        have HS := Lib.hid (HST.out k hlt)
        have hL12 : Hid ((rankedL n k).length ≤ 12) := by show _ ≤ _; rw [HLN.out]; omega
        have hsz0 := hbel.size
        have hlenk : (((List.range N).map (rankedL n)).take k ++ List.replicate (N - k) []).length = N := by simp; omega
        generalize ((List.range N).map (rankedL n)).take k ++ List.replicate (N - k) [] = O at hown HS hlenk
        generalize rankedL n k = L at *
        have HR := Lib.hid hr; have HO := Lib.hid hown; have HB2 := Lib.hid hbel; have HLK := Lib.hid hlenk
        clear hr hown hbel hlenk
        go_wp2_with (first
          | (go_at_call 72; ((with_reducible refine (HR.out _).mono ?_); rintro e w2 ⟨rfl, hb2⟩; have HB3 := Lib.hid hb2; clear hb2))
          | (go_at_call 52; refine (list_any _ _ hL12.out).mono ?_; rintro e w3 ⟨v, rfl, hv, hb3⟩; obtain ⟨a3, n3, c3, rfl⟩ := hv.form'; have hb4 := Below.step HB3.out hb3; have ho3 := HO.out.below hb4; obtain ⟨g, hge, _, _, hcell, hfr⟩ := ho3.at (by rw [HLK.out]; omega); simp at hge; subst hge; have hc3 := hcell k (by rw [HLK.out]; exact hlt); have hf3 := hfr k; have HST3 := Lib.hid (ho3.stored hv HB3.out.size (by have := HB3.out.size; omega) k (by rw [HLK.out]; exact hlt)); have HB5 := Lib.hid ((Below.step HB2.out hb4).setCell (p := ⟨w.heap.size, k, none⟩) (Nat.le_refl _) (.slice a3 n3 c3)); clear hcell hfr ho3 hv hb3 hb4))
        rw [HS.out] at HST3
        go_roundw
        case rel => exact ⟨k + 1, _, by omega, by go_num, by simpa using HST3.out, HB5.out⟩
        case measure => simp [intOf]; omega
      · obtain rfl : k = N := by omega
        rw [List.take_of_length_le (by simp), Nat.sub_self, List.replicate_zero, List.append_nil] at hown
        go_wp2
        go_ret2
        exact ⟨_, _, rfl, hown, hbel⟩
  · have hb := inB_no (lo := 0) (hi := 6) (n := x) h
    have e1 : ok_AllSystems x = false := hb
    have e2 : res_AllSystems x = [] := by rw [res_AllSystems, e1]; rfl
    rw [e1, e2]
    have HB := Lib.hid hb; clear hb h e1 e2
    go_enter Try.func32, Try.ntmps32
    go_wp2_with (go_at_call 70; refine (isArchCount_any _ _).mono ?_; rintro e w' ⟨rfl, rfl⟩; rw [HB.out])
    go_ret2
    exact ⟨_, _, rfl, OwnLL.nil _ _ (Nat.le_refl _), Below.refl _ _⟩

end Go.Proofs.Ytogjclmmjdhfeac
