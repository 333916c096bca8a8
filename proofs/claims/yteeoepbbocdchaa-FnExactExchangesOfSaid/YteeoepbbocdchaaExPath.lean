/- All exchanges, those that merge or split, paths: the program. -/
import Derived.Test.YteeoepbbocdchaaExCh
import Derived.Test.YteeoepbbocdchaaExDist
import Derived.Test.YteeoepbbocdchaaSysS
import Derived.Test.YteeoepbbocdchaaAmong
namespace Go.Proofs.Yteeoepbbocdchaa
open Go.RowKit
set_option linter.unusedSimpArgs false
set_option linter.unusedVariables false

theorem pairRow_low (l : List Int) (i : Nat) : ∀ k, k ≤ i + 1 → pairRow l i k = []
  | 0, _ => rfl
  | k + 1, h => by
    rw [pairRow, pairRow_low l i k (by omega), if_neg (by simp; omega)]; rfl
theorem pairRow_len (l : List Int) (i : Nat) : ∀ k, (pairRow l i k).length ≤ k
  | 0 => Nat.le_refl _
  | k + 1 => by
    have := pairRow_len l i k
    rw [pairRow, List.length_append]
    split <;> simp <;> omega
theorem pairUp_len (l : List Int) : ∀ n, (pairUp l n).length ≤ n * l.length
  | 0 => by simp [pairUp]
  | n + 1 => by
    have := pairUp_len l n
    have := pairRow_len l n l.length
    rw [pairUp, List.length_append, Nat.add_mul]
    omega
theorem exs_good {l : List Int} (hg : goodB l = true) {q : List Int} (h : q ∈ exsL l) : goodB q = true ∧ q.length = l.length := by
  unfold exsL at h
  obtain ⟨p, hp, rfl⟩ := List.mem_map.1 h
  exact ⟨(ex_facts hg).2.1 p hp, exL_length _ _ _⟩
/-- the systems behind exchanges that change the number of components by a number -/
def nextB (t b : List Int) (by_ : Int) (q : List Int) : Bool := decide (((compsL q b : Nat) : Int) = ((compsL t b : Nat) : Int) + by_)
def nextsL (t b : List Int) (by_ : Int) : List (List Int) := (exsL t).filter (nextB t b by_)
def tailF (b : List Int) (by_ : Int) : Nat → List Int → List (List Int)
  | 0, _ => []
  | f + 1, t => match (nextsL t b by_).head? with
    | none => []
    | some q => q :: tailF b by_ f q
/-- how many steps may come -/
def meas (b : List Int) (by_ : Int) (t : List Int) : Nat := if by_ = 1 then 12 - compsL t b else compsL t b
theorem next_facts {t b : List Int} {by_ : Int} (hg : goodB t = true) {q : List Int} (h : q ∈ nextsL t b by_) : goodB q = true ∧ q.length = t.length ∧ ((compsL q b : Nat) : Int) = ((compsL t b : Nat) : Int) + by_ := by
  obtain ⟨h1, h2⟩ := List.mem_filter.1 h
  exact ⟨(exs_good hg h1).1, (exs_good hg h1).2, of_decide_eq_true h2⟩
theorem meas_next {t b : List Int} {by_ : Int} (hb : by_ = 1 ∨ by_ = -1) (hg : goodB t = true) {q : List Int} (h : q ∈ nextsL t b by_) : meas b by_ q + 1 = meas b by_ t := by
  have h1 := next_facts hg h
  have h2 := compsL_le q b
  have h3 := good_len' hg
  unfold meas
  rcases hb with rfl | rfl
  · rw [if_pos rfl, if_pos rfl]; omega
  · rw [if_neg (by decide), if_neg (by decide)]; omega
theorem nexts_len {t b : List Int} {by_ : Int} (hg : goodB t = true) : (nextsL t b by_).length ≤ 66 := by
  refine Nat.le_trans (List.length_filter_le _ _) ?_
  unfold exsL
  rw [List.length_map]
  exact (ex_facts hg).2.2.2

set_option maxHeartbeats 4000000 in
set_option maxRecDepth 100000 in
theorem exchanges_any (l : List Int) (hg : goodB l = true) (w : World) : Calls Try.prog 49 #[.agg (sysC l)] w (MadeS w (exsL l)) := by
  have hl := good_len' hg
  have hbx : SysIn (w.alloc (.cells (sysC l) 59)) w.heap.size l := heap_alloc_new w _
  have hsz : ∀ W, SysIn W w.heap.size l → W.cell? ⟨w.heap.size, 12, none⟩ = some (.int .i64 (l.length : Int)) := fun W h => h.size hl
  have hex : ∀ (i j : Nat) (w : World), i < j → j < l.length → Calls Try.prog 83 #[.agg (sysC l), .int .i64 (i : Int), .int .i64 (j : Int)] w (ExdOut w (if shareB l (i : Int) (j : Int) then exL l (i : Int) (j : Int) else []) (shareB l (i : Int) (j : Int))) := fun i j w h1 h2 => exchanged_any l i j w hg h1 h2
  have hel : ∀ i j, (exL l i j).length ≤ 12 := fun i j => by rw [exL_length]; exact hl
  have hup : ∀ i, pairUp l (i + 1) = pairUp l i ++ pairRow l i l.length := fun i => rfl
  have hrow : ∀ i k, pairRow l i (k + 1) = pairRow l i k ++ if decide (i < k) && shareB l i k then [[(i : Int), (k : Int)]] else [] := fun i k => rfl
  have hul := fun i => pairUp_len l i
  have HEQ : Hid (exsL l = (pairUp l l.length).map (exP l)) := rfl
  rw [HEQ.out]
  have hc0 := hsz _ hbx
  obtain ⟨n, hn⟩ : ∃ n, n = l.length := ⟨_, rfl⟩
  rw [← hn] at hl hex hup hul hc0 ⊢
  simp only [← hn] at hsz
  have HX := Lib.hid hbx; have HSZ := Lib.hid hsz; have HEX := Lib.hid hex; have HEL := Lib.hid hel; have HUP := Lib.hid hup; have HROW := Lib.hid hrow; have HUL := Lib.hid hul; have HN := Lib.hid hn
  have HL : Hid (l.length ≤ 12) := by rw [← hn]; exact hl
  clear hbx hsz hex hel hup hrow hul hn HEQ hg
  go_enter Try.func49, Try.ntmps49
  go_wp2
  clear hc0
  go_loopw [3, 10] (fun o i wr => ∃ k : Nat, k ≤ n ∧ i = .int .i64 (k : Int) ∧ OwnS (w.heap.size + 1) wr o ((pairUp l k).map (exP l)) ∧ Below (w.heap.size + 1) (w.alloc (.cells (sysC l) 59)) wr) (fun _ i _ => n - (intOf i).toNat)
  case atStart => exact ⟨0, by omega, rfl, OwnS.nil _ _, by have := Below.refl (w.alloc (.cells (sysC l) 59)).heap.size (w.alloc (.cells (sysC l) 59)); rwa [World.size_alloc] at this⟩
  case round =>
    obtain ⟨k, hk, rfl, hown, hbel⟩ := hrel
    generalize wr = wa at *
    by_cases hlt : k < n
    · have hR : (pairUp l (k + 1)).map (exP l) = (pairUp l k).map (exP l) ++ (pairRow l k n).map (exP l) := by rw [HUP.out, List.map_append]
      have hul := HUL.out k
      have hul2 : (pairUp l k).length ≤ 144 := Nat.le_trans hul (Nat.le_trans (Nat.mul_le_mul hk hl) (Nat.mul_le_mul hl (Nat.le_refl 12)))
      have HR := Lib.hid hR; have HOW := Lib.hid hown; have HBE := Lib.hid hbel
      have HUL2 : Hid (((pairUp l k).map (exP l)).length ≤ 144) := by show _ ≤ _; rw [List.length_map]; exact hul2
      have hw : IntKind.i64.wrap ((k : Int) + 1) = (k : Int) + 1 := IntWalk.i64_in _ (by omega)
      clear hR hown hbel hul hul2
      generalize (pairUp l k).map (exP l) = U at *
      go_wp2_with fail
      go_loopw [3, 5] (fun o i wr => ∃ j : Nat, k + 1 ≤ j ∧ j ≤ n ∧ i = .int .i64 (j : Int) ∧ OwnS (w.heap.size + 1) wr o (U ++ (pairRow l k j).map (exP l)) ∧ Below (w.heap.size + 1) (w.alloc (.cells (sysC l) 59)) wr) (fun _ i _ => n - (intOf i).toNat)
      case atStart => exact ⟨k + 1, Nat.le_refl _, by omega, by go_num, by rw [pairRow_low l k (k + 1) (Nat.le_refl _)]; simpa using HOW.out, HBE.out⟩
      case round =>
        obtain ⟨j, hj1, hj2, rfl, hown, hbel⟩ := hrel
        clear HOW HBE
        generalize wr = wc at *
        have hx2 : SysIn wc w.heap.size l := HX.out.below (by rw [World.size_alloc]; exact hbel)
        have hcs := HSZ.out _ hx2
        by_cases hjl : j < n
        · have hcall := fun w => HEX.out k j w (by omega) hjl
          have hrw := HROW.out k j
          rw [decide_eq_true (by omega : k < j), Bool.true_and] at hrw
          have HEL2 := Lib.hid (HEL.out (k : Int) (j : Int))
          have hep : exP l [(k : Int), (j : Int)] = exL l (k : Int) (j : Int) := rfl
          have HRL : Hid (((pairRow l k j).map (exP l)).length ≤ 12) := by show _ ≤ _; rw [List.length_map]; have := pairRow_len l k j; omega
          have hmap : (pairRow l k (j + 1)).map (exP l) = (pairRow l k j).map (exP l) ++ if shareB l (k : Int) (j : Int) = true then [exL l (k : Int) (j : Int)] else [] := by
            rw [hrw, List.map_append]
            cases shareB l (k : Int) (j : Int) <;> rfl
          have HMAP := Lib.hid hmap
          clear hrw hmap hep
          generalize (pairRow l k j).map (exP l) = V at *
          generalize exL l (k : Int) (j : Int) = E at *
          generalize shareB l (k : Int) (j : Int) = M at *
          have HX2 := Lib.hid hx2; have HCL := Lib.hid hcall; have HOW := Lib.hid hown; have HBE := Lib.hid hbel
          have HZ : Hid (w.heap.size + 1 ≤ wc.heap.size) := by have := hbel.size; rw [World.size_alloc] at this; exact this
          clear hx2 hcall hown hbel
          cases M with
          | true =>
            simp only [if_true] at HCL HMAP
            go_wp2_with (first
              | (with_reducible refine wp_loadSys rfl (.tmp 1) rfl w.heap.size l HL.out rfl HX2.out ?_)
              | (go_at_call 83; ((with_reducible refine (HCL.out _).mono ?_); rintro e w1 ⟨rfl, hb1⟩; have HB1 := Lib.hid hb1; clear hb1))
              | ((with_reducible refine wp_storeNew rfl (.tmp 6) (.tmp 26) rfl _ E HEL2.out rfl rfl ?_); intro w2 hs2 hb2; have HS2 := Lib.hid hs2; have HB2 := Lib.hid (Below.step HB1.out hb2); clear hs2 hb2)
              | (with_reducible refine wp_loadSys rfl (.tmp 6) rfl w1.heap.size E HEL2.out rfl HS2.out ?_)
              | (with_reducible refine wp_buildS _ rfl (.tmp 30) rfl E HEL2.out rfl ?_)
              | (at_builtin; refine wp_appendS _ rfl (.tmp 29) (.tmp 31) rfl (w.heap.size + 1) w2.heap.size 1 1 _ (U ++ V) [E] rfl rfl rfl (fun j hj => builtS w2 E HEL2.out j (by simpa using hj)) ((HOW.out.below HB2.out).below (Below.alloc1 _ _)) (by have := HUL2.out; have := HRL.out; simp only [List.length_append, List.length_cons, List.length_nil]; omega) (by have := HB2.out.size; have := HZ.out; simp; omega) ?_; intro o' w3 ho3 hg3 hb3 hw3; have HO3 := Lib.hid ho3; have HB3 := Lib.hid (chain1 HBE.out HZ.out HB2.out hb3); clear ho3 hg3 hb3 hw3))
            go_roundw
            case rel => exact ⟨j + 1, by omega, by omega, by go_num, by rw [HMAP.out, ← List.append_assoc]; exact HO3.out, HB3.out⟩
            case measure => simp [intOf]; omega
          | false =>
            simp only [Bool.false_eq_true, if_false, List.append_nil] at HCL HMAP
            go_wp2_with (first
              | (with_reducible refine wp_loadSys rfl (.tmp 1) rfl w.heap.size l HL.out rfl HX2.out ?_)
              | (go_at_call 83; ((with_reducible refine (HCL.out _).mono ?_); rintro e w1 ⟨rfl, hb1⟩; have HB1 := Lib.hid hb1; clear hb1))
              | ((with_reducible refine wp_storeNew rfl (.tmp 6) (.tmp 26) rfl _ [] (Nat.zero_le _) rfl rfl ?_); intro w2 hs2 hb2; have HB2 := Lib.hid (Below.step HB1.out hb2); clear hs2 hb2))
            go_roundw
            case rel => exact ⟨j + 1, by omega, by omega, by go_num, by rw [HMAP.out]; exact HOW.out.below HB2.out, HBE.out.trans (HB2.out.mono HZ.out)⟩
            case measure => simp [intOf]; omega
        · obtain rfl : j = n := by omega
          have HOW := Lib.hid hown; have HBE := Lib.hid hbel
          clear hown hbel
          go_wp2_with fail
          go_roundw
          case rel => exact ⟨k + 1, by omega, by go_num, by rw [HR.out]; exact HOW.out, HBE.out⟩
          case measure => simp [intOf]; omega
    · obtain rfl : k = n := by omega
      obtain ⟨a5, c5, rfl, _⟩ := hown.form
      have HOW := Lib.hid hown; have HBE := Lib.hid hbel
      clear hown hbel
      go_wp2_with fail
      go_ret
      exact ⟨_, rfl, HOW.out.mono (Nat.le_succ _), (Below.alloc1 _ _).trans (HBE.out.mono (Nat.le_succ _))⟩



end Go.Proofs.Yteeoepbbocdchaa
