/- AllSemis: the program's function and the model's. -/
import Derived.Test.YteeoepbbocdchaaSemis
namespace Go.Proofs.Yteeoepbbocdchaa
open Go.RowKit
set_option linter.unusedSimpArgs false
set_option linter.unusedVariables false

theorem semisL_facts {n : Nat} (hn : n ≤ 6) : (semisL n).length ≤ 132 ∧ (∀ k, k < (semisL n).length → goodB ((semisL n).getD k []) = true ∧ ((semisL n).getD k []).length = 2 * n) := by
  have h1 : ∀ l ∈ semisL n, goodB l = true ∧ l.length = 2 * n := by
    intro l hl
    unfold semisL at hl
    obtain ⟨hm, _⟩ := List.mem_filter.1 hl
    obtain ⟨k, hk, rfl⟩ := List.mem_iff_getElem.1 hm
    have := allL_good hn hk
    rw [show (allL n).getD k [] = (allL n)[k] by simp [List.getD, hk]] at this
    exact this
  refine ⟨?_, fun k hk => ?_⟩
  · have := List.length_filter_le semiB (allL n)
    rw [allL_length hn] at this
    have := (catN_bd n hn).2
    unfold semisL
    omega
  · rw [show (semisL n).getD k [] = (semisL n)[k] by simp [List.getD, hk]]
    exact h1 _ (List.getElem_mem hk)

def ok_AllSemis (x : Int) : Bool := inB x 1 6
def res_AllSemis (x : Int) : List (List Int) := if inB x 1 6 then semisL x.toNat else []
theorem allSemis_yes {n : Nat} (h1 : 1 ≤ n) (h6 : n ≤ 6) : res_AllSemis (n : Int) = semisL n ∧ ok_AllSemis (n : Int) = true := by
  have := inB_yes (n := (n : Int)) (lo := 1) (hi := 6) (by omega) (by omega)
  unfold res_AllSemis ok_AllSemis
  rw [this]
  exact ⟨rfl, rfl⟩
theorem allSemis_no {x : Int} (h : ¬ (1 ≤ x ∧ x ≤ 6)) : res_AllSemis x = [] ∧ ok_AllSemis x = false := by
  unfold res_AllSemis ok_AllSemis
  rw [inB_no h]
  exact ⟨rfl, rfl⟩
theorem len_AllSemis (x : Int) : tot (res_AllSemis x) ≤ 1000000 ∧ ∀ i, i < (res_AllSemis x).length → ((res_AllSemis x).getD i []).length ≤ 1000000 := by
  by_cases h : 1 ≤ x ∧ x ≤ 6
  · obtain ⟨n, rfl⟩ := Int.eq_ofNat_of_zero_le (by omega : 0 ≤ x)
    rw [(allSemis_yes (by omega) (by omega)).1]
    have hf := semisL_facts (n := n) (by omega)
    have h3 : ∀ i, i < (semisL n).length → ((semisL n).getD i []).length ≤ 12 := fun i hi => by have := (hf.2 i hi).2; omega
    exact ⟨by have := tot_le h3; have := hf.1; omega, fun i hi => Nat.le_trans (h3 i hi) (by omega)⟩
  · rw [(allSemis_no h).1]
    exact ⟨by simp [tot], fun i hi => by simp at hi⟩


set_option maxHeartbeats 2000000 in
set_option maxRecDepth 100000 in
theorem listsSys_any (ls : List (List Int)) (hgd : ∀ k, k < ls.length → (ls.getD k []).length ≤ 12) (hn : ls.length ≤ 20000) (B : Nat) (w : World) (v : Value) (hown : OwnS B w v ls) :
    Calls Try.prog 48 #[v] w (MadeLL w ls) := by
  have HLC := Lib.hid (fun k (hk : k < ls.length) w => list_any (ls.getD k []) w (hgd k hk))
  have HGL := Lib.hid hgd
  have HTS : Hid (∀ k, k < ls.length → ls.take (k + 1) = ls.take k ++ [ls.getD k []]) := fun k hk => by
    rw [List.take_succ_eq_append_getElem hk]
    simp [List.getD, hk]
  clear hgd
  obtain ⟨a0, c0, rfl, hx1, hx2⟩ := hown.form
  unfold maxLen at hx2
  have HO := Lib.hid hown
  clear hown
  go_enter Try.func48, Try.ntmps48
  go_wp2_with fail
  go_loopw [3, 8] (fun o i wr => ∃ (k : Nat) (vs : List Value), k ≤ ls.length ∧ i = .int .i64 (k : Int) ∧ OwnLL w.heap.size wr.heap.size wr o vs (ls.take k) ∧ Below w.heap.size w wr) (fun _ i _ => ls.length - (intOf i).toNat)
  case atStart => exact ⟨0, [], by omega, rfl, OwnLL.nil _ _ (Nat.le_refl _), Below.refl _ _⟩
  case round =>
    obtain ⟨k, vs, hk, rfl, hown, hbel⟩ := hrel
    generalize wr = wc at *
    by_cases hlt : k < ls.length
    · obtain ⟨g, rfl, hy1, hy2, hy3, hrg⟩ := (HO.out.below hbel).at (by omega)
      have hr := hrg k hlt
      have hts := HTS.out k hlt
      have hcall := HLC.out k hlt
      have hgl := HGL.out k hlt
      have HLT : Hid ((ls.take k).length ≤ ls.length) := by show _ ≤ _; rw [List.length_take]; omega
      generalize ls.getD k [] = t at *
      generalize ls.take k = S at *
      have HR := Lib.hid hr; have HCL := Lib.hid hcall; have HOQ := Lib.hid hown; have HBE := Lib.hid hbel; have HTS2 := Lib.hid hts; have HGL2 := Lib.hid hgl
      have hsz := hbel.size
      clear hy1 hy2 hy3 hrg hr hcall hown hbel hts hgl
      go_wp2_with (first
        | (with_reducible refine boxS_load rfl (.tmp 10) rfl g (k * 13) t HGL2.out rfl HR.out ?_)
        | ((with_reducible refine wp_storeNew rfl (.tmp 5) (.tmp 11) rfl _ t HGL2.out rfl rfl ?_); intro w5 hs5 hb5; have HS5 := Lib.hid hs5; have HB5 := Lib.hid hb5; clear hs5 hb5)
        | (with_reducible refine wp_loadSys rfl (.tmp 5) rfl wc.heap.size t HGL2.out rfl HS5.out ?_)
        | fail)
      show Calls Try.prog 200 #[.agg (sysC t)] _ _
      refine (HCL.out _).mono ?_
      rintro e w6 ⟨p, rfl, hp, hb6⟩
      have HP := Lib.hid hp; have HB6 := Lib.hid (Below.step HB5.out hb6); have HZ5 := Lib.hid HB5.out.size; have HZ6 := Lib.hid hb6.size
      obtain ⟨p1, p2, p3, rfl⟩ := hp.form'
      clear hp hb6
      go_wp2_with (at_builtin; refine wp_appendLL _ rfl (.tmp 12) (.tmp 16) rfl w.heap.size wc.heap.size w5.heap.size w6.heap.size _ (.slice p1 p2 p3) vs S t rfl rfl (cell_lit1 _ _ _) (OwnLL.below HOQ.out (HB6.out.alloc HB6.out.size _)) (Own.below HP.out (Below.alloc1 _ _)) HZ5.out (by have := HZ5.out; omega) (by have := HLT.out; omega) (by have := HB6.out.size; simp; omega) ?_; intro v' w7 hown7 hgr7 hbel7 _; have HO7 := Lib.hid hown7; have HB7 := Lib.hid (chain1 HBE.out hsz HB6.out hbel7); clear hown7 hgr7 hbel7)
      go_roundw
      case rel => exact ⟨k + 1, _, by omega, by go_num, by rw [HTS2.out]; exact HO7.out, HB7.out⟩
      case measure => simp [intOf]; omega
    · obtain rfl : k = ls.length := by omega
      rw [List.take_length] at hown
      obtain ⟨a5, c5, rfl, _⟩ := hown.form
      have HOQ := Lib.hid hown; have HBE := Lib.hid hbel
      clear hown hbel
      go_wp2_with fail
      go_ret
      exact ⟨_, vs, rfl, HOQ.out, HBE.out⟩




end Go.Proofs.Yteeoepbbocdchaa
