/- The pairs of all systems by the ranks of both. -/
import Derived.Test.YtgaaddfipkdlaabPairsS
import Derived.Test.YtgaaddfipkdlaabCountComp
namespace Go.Proofs.Ytgaaddfipkdlaab
open Go.RowKit
set_option linter.unusedSimpArgs false
set_option linter.unusedVariables false

def rowP (L : List (List Int)) (p : List Int) : List (List Int × List Int) := L.map (fun q => (p, q))
def tblP (n : Nat) : List (List (List Int × List Int)) := (allL n).map (rowP (allL n))
theorem map_take_succ (L M : List (List Int)) (k : Nat) (hk : k < L.length) : (L.take (k + 1)).map (rowP M) = (L.take k).map (rowP M) ++ [rowP M (L.getD k [])] := by
  rw [List.take_add_one, List.map_append]
  simp [List.getElem?_eq_getElem hk, List.getD]
def MadePP (w : World) (R : List (List (List Int × List Int))) (e : Ending) (w' : World) : Prop := ∃ v vs, e = .returned v ∧ OwnPP w.heap.size w'.heap.size w' v vs R ∧ Below w.heap.size w w'
theorem OwnPP.form {lo hi : Nat} {w : World} {v : Value} {vs : List Value} {ls : List (List (List Int × List Int))} (h : OwnPP lo hi w v vs ls) : ∃ a c, v = .slice a ls.length c ∧ ls.length ≤ c ∧ c ≤ maxLen := by
  rcases h.row.2 with ⟨rfl, hn⟩ | ⟨g, cap, cur, hv, hB, hg, hnc, hcm, _⟩
  · exact ⟨none, 0, by rw [hn], by omega, by unfold maxLen; omega⟩
  · exact ⟨_, cap, hv, hnc, hcm⟩
set_option maxRecDepth 100000 in
set_option maxHeartbeats 2000000 in
theorem allPairs_any (n : Nat) (hn : n ≤ 4) (w : World) : Calls Try.prog 46 #[.int .i64 (n : Int)] w (MadePP w (tblP n)) := by
  have h14 := allL_14 hn
  have hN := allL_length (n := n) (by omega)
  have hct : ∀ w, Calls Try.prog 72 #[.int .i64 (n : Int)] w (fun e w' => e = .returned (.int .i64 ((allL n).length : Int)) ∧ w = w') := fun w => by rw [hN]; exact catalan_N n (by omega) w
  have hsr : ∀ k, k < (allL n).length → ∀ w, Calls Try.prog 74 #[.int .i64 (n : Int), .int .i64 (k : Int)] w (SysOut w ((allL n).getD k [])) := by
    intro k hk w
    rw [allL_get (by omega) (by omega)]
    exact systemRanked_any n k w (by omega) (by omega)
  have hpu : ∀ k, k < (allL n).length → ∀ w, Calls Try.prog 73 #[.agg (sysC ((allL n).getD k []))] w (MadeP w (rowP (allL n) ((allL n).getD k []))) := by
    intro k hk w
    have h := mem_good (by omega) (allL_mem hk)
    have := pairsUnder_any ((allL n).getD k []) h.1 w
    unfold underL at this
    rw [h.2, Nat.mul_div_cancel_left _ (by omega)] at this
    exact this
  have hfull : tblP n = ((allL n).take (allL n).length).map (rowP (allL n)) := by rw [List.take_length]; rfl
  rw [hfull]
  have HSU := Lib.hid (fun k => map_take_succ (allL n) (allL n) k)
  have HUL : Hid (∀ k, (((allL n).take k).map (rowP (allL n))).length ≤ 14) := by
    intro k
    rw [List.length_map, List.length_take]
    omega
  generalize allL n = L at *
  have HCT := Lib.hid hct; have HSR := Lib.hid hsr; have HPU := Lib.hid hpu
  clear hct hsr hpu hN hfull
  go_enter Try.func46, Try.ntmps46
  go_wp2_with (go_at_call 72; ((with_reducible refine (HCT.out _).mono ?_); rintro e w1 ⟨rfl, rfl⟩))
  go_loopw [3, 7] (fun o i wr => ∃ (k : Nat) (vs : List Value), k ≤ L.length ∧ i = .int .i64 (k : Int) ∧ OwnPP w.heap.size wr.heap.size wr o vs ((L.take k).map (rowP L)) ∧ Below w.heap.size w wr) (fun _ i _ => L.length - (intOf i).toNat)
  case atStart => exact ⟨0, [], by omega, rfl, OwnPP.nil _ _ (Nat.le_refl _), Below.refl _ _⟩
  case round =>
    obtain ⟨k, vs, hk, rfl, hown, hbel⟩ := hrel
    generalize wr = wc at *
    by_cases hlt : k < L.length
    · have hsuc := HSU.out k hlt
      have hle := HUL.out k
      have hs := HSR.out k hlt
      have hp := HPU.out k hlt
      generalize (L.take k).map (rowP L) = S at *
      generalize L.getD k [] = q at *
      generalize rowP L q = Q at *
      have HS := Lib.hid hs; have HP := Lib.hid hp; have HO := Lib.hid hown; have HBE := Lib.hid hbel; have HSC := Lib.hid hsuc
      have hsz := hbel.size
      clear hs hp hown hbel hsuc
      go_wp2_with (first
        | (go_at_call 74; ((with_reducible refine (HS.out _).mono ?_); rintro e w5 ⟨rfl, hb5⟩; have HB5 := Lib.hid hb5; clear hb5))
        | (go_at_call 73; ((with_reducible refine (HP.out _).mono ?_); rintro e w6 ⟨pv, rfl, hop, hb6⟩; have HB6 := Lib.hid (Below.step HB5.out hb6); have HO6 := Lib.hid ((HO.out.below HB5.out).below hb6); have HZ5 := Lib.hid HB5.out.size; clear hb6; obtain ⟨pa, pc, rfl, hp1, hp2⟩ := hop.form; have HOP := Lib.hid hop; clear hop))
        | (at_builtin; refine wp_appendPP _ rfl (.tmp 10) (.tmp 15) rfl w.heap.size _ _ w6.heap.size _ _ vs S Q rfl rfl (by rw [cell_of_row _ _ _ _ _ _ (heap_alloc_new w6 _)]; rfl) (HO6.out.below (Below.alloc1 _ _)) (HOP.out.below (Below.alloc1 _ _)) HZ5.out (by have := HZ5.out; omega) (by omega) (by have := HB6.out.size; simp; omega) ?_; intro o' w7 ho7 hg7 hb7 hw7; have HO7 := Lib.hid ho7; have HB7 := Lib.hid (((HBE.out.trans (HB6.out.mono hsz)).trans ((Below.alloc1 w6 _).mono (by have := HB6.out.size; omega))).trans hb7); clear ho7 hg7 hb7 hw7))
      go_roundw
      case rel => exact ⟨k + 1, _, by omega, by go_num, by rw [HSC.out]; exact HO7.out, HB7.out⟩
      case measure => simp [intOf]; omega
    · obtain rfl : k = L.length := by omega
      obtain ⟨a5, c5, rfl, _⟩ := hown.form
      have HOQ := Lib.hid hown; have HBE := Lib.hid hbel
      clear hown hbel
      go_wp2_with fail
      go_ret
      exact ⟨_, _, rfl, HOQ.out, HBE.out⟩

end Go.Proofs.Ytgaaddfipkdlaab
