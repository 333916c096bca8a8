/- All exchanges, those that merge or split, paths: the program. -/
import Derived.Test.YtogjclmmjdhfeacExCh
import Derived.Test.YtogjclmmjdhfeacExDist
import Derived.Test.YtogjclmmjdhfeacSemis2
import Derived.Test.YtogjclmmjdhfeacAmong
namespace Go.Proofs.Ytogjclmmjdhfeac
open Go.RowKit
set_option linter.unusedSimpArgs false
set_option linter.unusedVariables false

theorem pairRow_low (l : List Int) (i : Nat) : ∀ k, k ≤ i + 1 → pairRow l i k = []
  | 0, _ => rfl
  | k + 1, h => by
    rw [pairRow, pairRow_low l i k (by omega), if_neg (by simp; omega)]; rfl
theorem pairRow_len (l : List Int) (i : Nat) : ∀ k, (pairRow l i k).length ≤ k
  | 0 => Nat.le_refl _
  | k + 1 => by
    have := pairRow_len l i k
    rw [pairRow, List.length_append]
    split <;> simp <;> omega
theorem pairUp_len (l : List Int) : ∀ n, (pairUp l n).length ≤ n * l.length
  | 0 => by simp [pairUp]
  | n + 1 => by
    have := pairUp_len l n
    have := pairRow_len l n l.length
    rw [pairUp, List.length_append, Nat.add_mul]
    omega
theorem exs_good {l : List Int} (hg : goodB l = true) {q : List Int} (h : q ∈ exsL l) : goodB q = true ∧ q.length = l.length := by
  unfold exsL at h
  obtain ⟨p, hp, rfl⟩ := List.mem_map.1 h
  exact ⟨(ex_facts hg).2.1 p hp, exL_length _ _ _⟩
/-- the systems behind exchanges that change the number of components by a number -/
def nextB (t b : List Int) (by_ : Int) (q : List Int) : Bool := decide (((compsL q b : Nat) : Int) = ((compsL t b : Nat) : Int) + by_)
def nextsL (t b : List Int) (by_ : Int) : List (List Int) := (exsL t).filter (nextB t b by_)
def tailF (b : List Int) (by_ : Int) : Nat → List Int → List (List Int)
  | 0, _ => []
  | f + 1, t => match (nextsL t b by_).head? with
    | none => []
    | some q => q :: tailF b by_ f q
/-- how many steps may come -/
def meas (b : List Int) (by_ : Int) (t : List Int) : Nat := if by_ = 1 then 12 - compsL t b else compsL t b
theorem next_facts {t b : List Int} {by_ : Int} (hg : goodB t = true) {q : List Int} (h : q ∈ nextsL t b by_) : goodB q = true ∧ q.length = t.length ∧ ((compsL q b : Nat) : Int) = ((compsL t b : Nat) : Int) + by_ := by
  obtain ⟨h1, h2⟩ := List.mem_filter.1 h
  exact ⟨(exs_good hg h1).1, (exs_good hg h1).2, of_decide_eq_true h2⟩
theorem meas_next {t b : List Int} {by_ : Int} (hb : by_ = 1 ∨ by_ = -1) (hg : goodB t = true) {q : List Int} (h : q ∈ nextsL t b by_) : meas b by_ q + 1 = meas b by_ t := by
  have h1 := next_facts hg h
  have h2 := compsL_le q b
  have h3 := good_len' hg
  unfold meas
  rcases hb with rfl | rfl
  · rw [if_pos rfl, if_pos rfl]; omega
  · rw [if_neg (by decide), if_neg (by decide)]; omega
theorem nexts_len {t b : List Int} {by_ : Int} (hg : goodB t = true) : (nextsL t b by_).length ≤ 66 := by
  refine Nat.le_trans (List.length_filter_le _ _) ?_
  unfold exsL
  rw [List.length_map]
  exact (ex_facts hg).2.2.2

set_option maxHeartbeats 4000000 in
set_option maxRecDepth 100000 in
theorem exchanges_any (l : List Int) (hg : goodB l = true) (w : World) : Calls Try.prog 61 #[.agg (sysC l)] w (MadeS w (exsL l)) := by
  have hl := good_len' hg
  have hbx : SysIn (w.alloc (.cells (sysC l) 56)) w.heap.size l := heap_alloc_new w _
  have hsz : ∀ W, SysIn W w.heap.size l → W.cell? ⟨w.heap.size, 12, none⟩ = some (.int .i64 (l.length : Int)) := fun W h => h.size hl
  have hex : ∀ (i j : Nat) (w : World), i < j → j < l.length → Calls Try.prog 57 #[.agg (sysC l), .int .i64 (i : Int), .int .i64 (j : Int)] w (ExdOut w (if shareB l (i : Int) (j : Int) then exL l (i : Int) (j : Int) else []) (shareB l (i : Int) (j : Int))) := fun i j w h1 h2 => exchanged_any l i j w hg h1 h2
  have hel : ∀ i j, (exL l i j).length ≤ 12 := fun i j => by rw [exL_length]; exact hl
  have hup : ∀ i, pairUp l (i + 1) = pairUp l i ++ pairRow l i l.length := fun i => rfl
  have hrow : ∀ i k, pairRow l i (k + 1) = pairRow l i k ++ if decide (i < k) && shareB l i k then [[(i : Int), (k : Int)]] else [] := fun i k => rfl
  have hul := fun i => pairUp_len l i
  have HEQ : Hid (exsL l = (pairUp l l.length).map (exP l)) := rfl
  rw [HEQ.out]
  have hc0 := hsz _ hbx
  obtain ⟨n, hn⟩ : ∃ n, n = l.length := ⟨_, rfl⟩
  rw [← hn] at hl hex hup hul hc0 ⊢
  simp only [← hn] at hsz
  have HX := Lib.hid hbx; have HSZ := Lib.hid hsz; have HEX := Lib.hid hex; have HEL := Lib.hid hel; have HUP := Lib.hid hup; have HROW := Lib.hid hrow; have HUL := Lib.hid hul; have HN := Lib.hid hn
  have HL : Hid (l.length ≤ 12) := by rw [← hn]; exact hl
  clear hbx hsz hex hel hup hrow hul hn HEQ hg
  go_enter Try.func61, Try.ntmps61
  go_wp2
  clear hc0
  go_loopw [3, 10] (fun o i wr => ∃ k : Nat, k ≤ n ∧ i = .int .i64 (k : Int) ∧ OwnS (w.heap.size + 1) wr o ((pairUp l k).map (exP l)) ∧ Below (w.heap.size + 1) (w.alloc (.cells (sysC l) 56)) wr) (fun _ i _ => n - (intOf i).toNat)
  case atStart => exact ⟨0, by omega, rfl, OwnS.nil _ _, by have := Below.refl (w.alloc (.cells (sysC l) 56)).heap.size (w.alloc (.cells (sysC l) 56)); rwa [World.size_alloc] at this⟩
  case round =>
    obtain ⟨k, hk, rfl, hown, hbel⟩ := hrel
    generalize wr = wa at *
    by_cases hlt : k < n
    · have hR : (pairUp l (k + 1)).map (exP l) = (pairUp l k).map (exP l) ++ (pairRow l k n).map (exP l) := by rw [HUP.out, List.map_append]
      have hul := HUL.out k
      have hul2 : (pairUp l k).length ≤ 144 := Nat.le_trans hul (Nat.le_trans (Nat.mul_le_mul hk hl) (Nat.mul_le_mul hl (Nat.le_refl 12)))
      have HR := Lib.hid hR; have HOW := Lib.hid hown; have HBE := Lib.hid hbel
      have HUL2 : Hid (((pairUp l k).map (exP l)).length ≤ 144) := by show _ ≤ _; rw [List.length_map]; exact hul2
      have hw : IntKind.i64.wrap ((k : Int) + 1) = (k : Int) + 1 := IntWalk.i64_in _ (by omega)
      clear hR hown hbel hul hul2
      generalize (pairUp l k).map (exP l) = U at *
      go_wp2_with fail
      go_loopw [3, 5] (fun o i wr => ∃ j : Nat, k + 1 ≤ j ∧ j ≤ n ∧ i = .int .i64 (j : Int) ∧ OwnS (w.heap.size + 1) wr o (U ++ (pairRow l k j).map (exP l)) ∧ Below (w.heap.size + 1) (w.alloc (.cells (sysC l) 56)) wr) (fun _ i _ => n - (intOf i).toNat)
      case atStart => exact ⟨k + 1, Nat.le_refl _, by omega, by go_num, by rw [pairRow_low l k (k + 1) (Nat.le_refl _)]; simpa using HOW.out, HBE.out⟩
      case round =>
        obtain ⟨j, hj1, hj2, rfl, hown, hbel⟩ := hrel
        clear HOW HBE
        generalize wr = wc at *
        have hx2 : SysIn wc w.heap.size l := HX.out.below (by rw [World.size_alloc]; exact hbel)
        have hcs := HSZ.out _ hx2
        by_cases hjl : j < n
        · have hcall := fun w => HEX.out k j w (by omega) hjl
          have hrw := HROW.out k j
          rw [decide_eq_true (by omega : k < j), Bool.true_and] at hrw
          have HEL2 := Lib.hid (HEL.out (k : Int) (j : Int))
          have hep : exP l [(k : Int), (j : Int)] = exL l (k : Int) (j : Int) := rfl
          have HRL : Hid (((pairRow l k j).map (exP l)).length ≤ 12) := by show _ ≤ _; rw [List.length_map]; have := pairRow_len l k j; omega
          have hmap : (pairRow l k (j + 1)).map (exP l) = (pairRow l k j).map (exP l) ++ if shareB l (k : Int) (j : Int) = true then [exL l (k : Int) (j : Int)] else [] := by
            rw [hrw, List.map_append]
            cases shareB l (k : Int) (j : Int) <;> rfl
          have HMAP := Lib.hid hmap
          clear hrw hmap hep
          generalize (pairRow l k j).map (exP l) = V at *
          generalize exL l (k : Int) (j : Int) = E at *
          generalize shareB l (k : Int) (j : Int) = M at *
          have HX2 := Lib.hid hx2; have HCL := Lib.hid hcall; have HOW := Lib.hid hown; have HBE := Lib.hid hbel
          have HZ : Hid (w.heap.size + 1 ≤ wc.heap.size) := by have := hbel.size; rw [World.size_alloc] at this; exact this
          clear hx2 hcall hown hbel
          cases M with
          | true =>
            simp only [if_true] at HCL HMAP
            go_wp2_with (first
              | (with_reducible refine wp_loadSys rfl (.tmp 1) rfl w.heap.size l HL.out rfl HX2.out ?_)
              | (go_at_call 57; ((with_reducible refine (HCL.out _).mono ?_); rintro e w1 ⟨rfl, hb1⟩; have HB1 := Lib.hid hb1; clear hb1))
              | ((with_reducible refine wp_storeNew rfl (.tmp 6) (.tmp 26) rfl _ E HEL2.out rfl rfl ?_); intro w2 hs2 hb2; have HS2 := Lib.hid hs2; have HB2 := Lib.hid (Below.step HB1.out hb2); clear hs2 hb2)
              | (with_reducible refine wp_loadSys rfl (.tmp 6) rfl w1.heap.size E HEL2.out rfl HS2.out ?_)
              | (with_reducible refine wp_buildS _ rfl (.tmp 30) rfl E HEL2.out rfl ?_)
              | (at_builtin; refine wp_appendS _ rfl (.tmp 29) (.tmp 31) rfl (w.heap.size + 1) w2.heap.size 1 1 _ (U ++ V) [E] rfl rfl rfl (fun j hj => builtS w2 E HEL2.out j (by simpa using hj)) ((HOW.out.below HB2.out).below (Below.alloc1 _ _)) (by have := HUL2.out; have := HRL.out; simp only [List.length_append, List.length_cons, List.length_nil]; omega) (by have := HB2.out.size; have := HZ.out; simp; omega) ?_; intro o' w3 ho3 hg3 hb3 hw3; have HO3 := Lib.hid ho3; have HB3 := Lib.hid (chain1 HBE.out HZ.out HB2.out hb3); clear ho3 hg3 hb3 hw3))
            go_roundw
            case rel => exact ⟨j + 1, by omega, by omega, by go_num, by rw [HMAP.out, ← List.append_assoc]; exact HO3.out, HB3.out⟩
            case measure => simp [intOf]; omega
          | false =>
            simp only [Bool.false_eq_true, if_false, List.append_nil] at HCL HMAP
            go_wp2_with (first
              | (with_reducible refine wp_loadSys rfl (.tmp 1) rfl w.heap.size l HL.out rfl HX2.out ?_)
              | (go_at_call 57; ((with_reducible refine (HCL.out _).mono ?_); rintro e w1 ⟨rfl, hb1⟩; have HB1 := Lib.hid hb1; clear hb1))
              | ((with_reducible refine wp_storeNew rfl (.tmp 6) (.tmp 26) rfl _ [] (Nat.zero_le _) rfl rfl ?_); intro w2 hs2 hb2; have HB2 := Lib.hid (Below.step HB1.out hb2); clear hs2 hb2))
            go_roundw
            case rel => exact ⟨j + 1, by omega, by omega, by go_num, by rw [HMAP.out]; exact HOW.out.below HB2.out, HBE.out.trans (HB2.out.mono HZ.out)⟩
            case measure => simp [intOf]; omega
        · obtain rfl : j = n := by omega
          have HOW := Lib.hid hown; have HBE := Lib.hid hbel
          clear hown hbel
          go_wp2_with fail
          go_roundw
          case rel => exact ⟨k + 1, by omega, by go_num, by rw [HR.out]; exact HOW.out, HBE.out⟩
          case measure => simp [intOf]; omega
    · obtain rfl : k = n := by omega
      obtain ⟨a5, c5, rfl, _⟩ := hown.form
      have HOW := Lib.hid hown; have HBE := Lib.hid hbel
      clear hown hbel
      go_wp2_with fail
      go_ret
      exact ⟨_, rfl, HOW.out.mono (Nat.le_succ _), (Below.alloc1 _ _).trans (HBE.out.mono (Nat.le_succ _))⟩

theorem boxP_loadX {ops : Array Oper} {rest : List Oper} {o : Oper} {a : Act} {w : World} {Q : Exit → Act → World → Prop} (hgd : o.guard = none) (x : Operand) (ho : o.op = .load 58 x)
    (g off : Nat) (t b : List Int) (hx : a.eval x = .pointer (some ⟨g, off, none⟩)) (hg : w.rangeAt g off (pairC t b).toList)
    (h : wpList Try.prog ops Q rest (a.put o.dst (.agg (pairC t b))) w) : wpList Try.prog ops Q (o :: rest) a w :=
  wpList_load_mid hgd _ x ho g off hx (pairC t b).toList _ hg Try.underlying58 rfl (by rw [pair_info]; rfl) h
/-- a system read out of a pair, its cells one by one -/
theorem wp_loadMidL {ops : Array Oper} {rest : List Oper} {o : Oper} {a : Act} {w : World} {Q : Exit → Act → World → Prop} (hgd : o.guard = none) (x : Operand) (ho : o.op = .load 56 x)
    (g off : Nat) (s : List Int) (hx : a.eval x = .pointer (some ⟨g, off, none⟩)) (hg : w.rangeAt g off [sysV s 0, sysV s 1, sysV s 2, sysV s 3, sysV s 4, sysV s 5, sysV s 6, sysV s 7, sysV s 8, sysV s 9, sysV s 10, sysV s 11, sysV s 12])
    (h : wpList Try.prog ops Q rest (a.put o.dst (.agg #[sysV s 0, sysV s 1, sysV s 2, sysV s 3, sysV s 4, sysV s 5, sysV s 6, sysV s 7, sysV s 8, sysV s 9, sysV s 10, sysV s 11, sysV s 12])) w) : wpList Try.prog ops Q (o :: rest) a w :=
  wpList_load_mid hgd _ x ho g off hx _ _ hg Try.underlying56 rfl (by rw [sys_info]; rfl) h
theorem thirteen' {j : Nat} (h : j < 13) : j = 0 ∨ j = 1 ∨ j = 2 ∨ j = 3 ∨ j = 4 ∨ j = 5 ∨ j = 6 ∨ j = 7 ∨ j = 8 ∨ j = 9 ∨ j = 10 ∨ j = 11 ∨ j = 12 := by omega
theorem rp_top {W : World} {g : Nat} {t b : List Int} (h : PairIn W g t b) : W.rangeAt g 0 [sysV t 0, sysV t 1, sysV t 2, sysV t 3, sysV t 4, sysV t 5, sysV t 6, sysV t 7, sysV t 8, sysV t 9, sysV t 10, sysV t 11, sysV t 12] := by
  intro j v hj
  have hlt : j < 13 := (List.getElem?_eq_some_iff.1 hj).1
  rw [Nat.zero_add, cell_of_row _ _ j _ _ _ h]
  rcases thirteen' hlt with rfl | rfl | rfl | rfl | rfl | rfl | rfl | rfl | rfl | rfl | rfl | rfl | rfl <;> (simp at hj; subst hj; rfl)
theorem rp_bot {W : World} {g : Nat} {t b : List Int} (h : PairIn W g t b) : W.rangeAt g 13 [sysV b 0, sysV b 1, sysV b 2, sysV b 3, sysV b 4, sysV b 5, sysV b 6, sysV b 7, sysV b 8, sysV b 9, sysV b 10, sysV b 11, sysV b 12] := by
  intro j v hj
  have hlt : j < 13 := (List.getElem?_eq_some_iff.1 hj).1
  rw [cell_of_row _ _ (13 + j) _ _ _ h]
  rcases thirteen' hlt with rfl | rfl | rfl | rfl | rfl | rfl | rfl | rfl | rfl | rfl | rfl | rfl | rfl <;> (simp at hj; subst hj; rfl)
structure EB (w0 : World) (g2 g8 : Nat) (t b q : List Int) (W : World) : Prop where
  p : PairIn W g2 t b
  q : PairIn W g8 q b
  bel : Below w0.heap.size w0 W
theorem EB.below {w0 W W' : World} {g2 g8 : Nat} {t b q : List Int} (h : EB w0 g2 g8 t b q W) (hb : Below W.heap.size W W') : EB w0 g2 g8 t b q W' := ⟨h.p.below hb, h.q.below hb, Below.step h.bel hb⟩
attribute [local go_sem ↓] lQ_eqD
theorem EB.to {w0 W : World} {g2 g8 : Nat} {t b q : List Int} {P Q : Array Value} (e1 : pairC t b = P) (e2 : pairC q b = Q) (h : EB w0 g2 g8 t b q W) : Hid (EB w0 g2 g8 t b q W) ∧ (loadD (.pointer (some ⟨g2, 0, none⟩))).run Try.prog W = .ok (.agg P) W ∧ (loadD (.pointer (some ⟨g8, 0, none⟩))).run Try.prog W = .ok (.agg Q) W :=
  ⟨h, by rw [← e1]; exact run_loadAt_mid W g2 0 58 (pairC t b).toList _ (row_atP h.p) Try.underlying58 rfl (by rw [pair_info]; rfl), by rw [← e2]; exact run_loadAt_mid W g8 0 58 (pairC q b).toList _ (row_atP h.q) Try.underlying58 rfl (by rw [pair_info]; rfl)⟩

set_option maxHeartbeats 8000000 in
set_option maxRecDepth 100000 in
theorem exchangesBy_any (t b : List Int) (by_ : Int) (gt : goodB t = true) (gb : goodB b = true) (hl : t.length = b.length) (hby : -1 ≤ by_ ∧ by_ ≤ 1) (w : World) :
    Calls Try.prog 102 #[.agg (pairC t b), .int .i64 by_] w (MadeP w ((nextsL t b by_).map fun q => (q, b))) := by
  have l12 := good_len' gt
  have HEX := Lib.hid (fun w => exchanges_any t gt w)
  have HCT := Lib.hid (fun w => components_any t b gt gb hl w)
  have hcq : ∀ k, k < (exsL t).length → ∀ w, Calls Try.prog 43 #[.agg (pairC ((exsL t).getD k []) b)] w fun e w' => e = .returned (.int .i64 ((compsL ((exsL t).getD k []) b : Nat) : Int)) ∧ Below w.heap.size w w' := by
    intro k hk w
    have hm : (exsL t).getD k [] ∈ exsL t := by simp [List.getD, hk]
    have := exs_good gt hm
    exact components_any _ b this.1 gb (by rw [this.2, hl]) w
  have hql : ∀ k, k < (exsL t).length → ((exsL t).getD k []).length ≤ 12 := by
    intro k hk
    have hm : (exsL t).getD k [] ∈ exsL t := by simp [List.getD, hk]
    rw [(exs_good gt hm).2]; exact l12
  have hnb : ∀ q, nextB t b by_ q = (((compsL q b : Nat) : Int) == ((compsL t b : Nat) : Int) + by_) := fun q => by unfold nextB; rw [Bool.eq_iff_iff]; simp
  have hcb := compsL_le t b
  have hlen66 : (exsL t).length ≤ 66 := by unfold exsL; rw [List.length_map]; exact (ex_facts gt).2.2.2
  unfold nextsL
  have HFT := Lib.hid (fun k => filter_take_succ (nextB t b by_) (exsL t) k)
  have hfl : (exsL t).filter (nextB t b by_) = ((exsL t).take (exsL t).length).filter (nextB t b by_) := by rw [List.take_length]
  rw [hfl]
  have HNB := Lib.hid hnb
  generalize nextB t b by_ = nb at *
  generalize exsL t = L at *
  generalize compsL t b = ct at *
  have HFL : Hid (∀ k, ((L.take k).filter nb).length ≤ 66) := fun k => Nat.le_trans (List.length_filter_le _ _) (by rw [List.length_take]; omega)
  have HCQ := Lib.hid hcq; have HQL := Lib.hid hql; have HL66 := Lib.hid hlen66
  have HP := Lib.hid (PairIn.new w t b)
  have hw : IntKind.i64.wrap ((ct : Int) + by_) = (ct : Int) + by_ := IntWalk.i64_in _ (by omega)
  have HL12 := Lib.hid l12
  clear hcq hql hnb hfl gt gb hl hby hcb hlen66 l12
  go_enter Try.func102, Try.ntmps102
  have HLT : Hid (Calls Try.prog 61 #[.agg #[sysV t 0, sysV t 1, sysV t 2, sysV t 3, sysV t 4, sysV t 5, sysV t 6, sysV t 7, sysV t 8, sysV t 9, sysV t 10, sysV t 11, sysV t 12]] (w.alloc (.cells (pairC t b) 58)) (MadeS (w.alloc (.cells (pairC t b) 58)) L)) := by
    have := HEX.out (w.alloc (.cells (pairC t b) 58))
    rw [sysC_lit HL12.out] at this
    exact this
  go_wp2_with (first
    | (with_reducible refine wp_loadMidL rfl (.tmp 9) rfl w.heap.size 0 t rfl (rp_top HP.out) ?_)
    | (go_at_call 61; ((with_reducible refine HLT.out.mono ?_); rintro e w1 ⟨v1, rfl, ho1, hb1⟩; obtain ⟨a1, c1, rfl, hc1, hc2⟩ := ho1.form; unfold maxLen at hc2; have HO1 := Lib.hid ho1; have HP1 := Lib.hid (HP.out.below hb1); have HB1 := Lib.hid (Below.step (Below.alloc1 _ _) hb1); clear ho1 hb1)))
  go_loopw [5, 13] (fun o i wr => ∃ k : Nat, k ≤ L.length ∧ i = .int .i64 (k : Int) ∧ OwnP w1.heap.size wr o (((L.take k).filter nb).map fun q => (q, b)) ∧ Below w1.heap.size w1 wr) (fun _ i _ => L.length - (intOf i).toNat)
  case atStart => exact ⟨0, by omega, rfl, OwnP.nil _ _, Below.refl _ _⟩
  case round =>
    obtain ⟨k, hk, rfl, hown, hbel⟩ := hrel
    generalize wr = wc at *
    by_cases hlt : k < L.length
    · obtain ⟨g, rfl, _, _, _, hrg⟩ := (HO1.out.below hbel).at (by omega)
      have hr := hrg k hlt
      have hsuc := HFT.out k hlt
      have hle := HFL.out k
      have hcall := HCQ.out k hlt
      have hq12 := HQL.out k hlt
      rw [HNB.out] at hsuc
      generalize L.getD k [] = q at *
      generalize compsL q b = cq at *
      generalize (L.take k).filter nb = U at *
      have HP2 := Lib.hid (HP1.out.below hbel)
      have HR := Lib.hid hr; have HCL := Lib.hid hcall; have HOQ := Lib.hid hown; have HBE := Lib.hid hbel; have HSU := Lib.hid hsuc; have HQ12 := Lib.hid hq12; have HUL : Hid ((U.map fun q => (q, b)).length ≤ 66) := by show _ ≤ _; rw [List.length_map]; exact hle
      have hsz := hbel.size
      clear hrg hr hcall hown hbel hsuc hq12 hle
      go_wp2_with (first
        | (with_reducible refine boxS_load rfl (.tmp 15) rfl g (k * 13) q HQ12.out rfl HR.out ?_)
        | ((with_reducible refine wp_storeNew rfl (.tmp 7) (.tmp 16) rfl _ q HQ12.out rfl rfl ?_); intro w5 hs5 hb5; have HS5 := Lib.hid hs5; have HP5 := Lib.hid (HP2.out.below hb5); have HB5 := Lib.hid hb5; clear hs5 hb5)
        | (with_reducible refine wp_loadLit rfl (.tmp 7) rfl wc.heap.size q HQ12.out rfl HS5.out ?_)
        | (with_reducible refine wp_loadMidL rfl (.tmp 18) rfl w.heap.size 13 b rfl (rp_bot HP5.out) ?_)
        | ((with_reducible refine wp_storePairN rfl (.tmp 8) (.tmp 20) rfl q b rfl rfl ?_); intro w6 hs6 hb6; have HEB : EB wc w.heap.size w5.heap.size t b q w6 := ⟨HP5.out.below hb6, hs6, Below.step HB5.out hb6⟩; clear hs6 hb6))
      obtain ⟨PT, hPT⟩ : ∃ P, pairC t b = P := ⟨_, rfl⟩
      obtain ⟨PQ, hPQ⟩ : ∃ P, pairC q b = P := ⟨_, rfl⟩
      have HPT := Lib.hid hPT; have HPQ := Lib.hid hPQ
      have HCT2 := HCT
      rw [hPT] at HCT2
      rw [hPQ] at HCL
      have hS := (HEB.below (Below.refl w6.heap.size w6).drew).to hPT hPQ
      have HSP := Lib.hid hS.1.out
      obtain ⟨g8, hg8⟩ : ∃ g8, w5.heap.size = g8 := ⟨_, rfl⟩
      rw [hg8] at hS HSP ⊢
      clear hPT hPQ HEB HP5 HS5 HB5 HP2 hg8
      go_region_held3 (fun W => Hid (EB wc w.heap.size g8 t b q W) ∧ (loadD (.pointer (some ⟨w.heap.size, 0, none⟩))).run Try.prog W = .ok (.agg PT) W ∧ (loadD (.pointer (some ⟨g8, 0, none⟩))).run Try.prog W = .ok (.agg PQ) W)
        (first | assumption | exact ((by assumption : Hid (EB wc w.heap.size g8 t b q _) ∧ _).1.out.below (by assumption)).to HPT.out HPQ.out)
        (first
          | (go_at_call_of 43 (Value.agg PQ); ((refine (HCL.out _).mono ?_); rintro e w7 ⟨rfl, hb7⟩; have HSP := Lib.hid ((by assumption : Hid (EB wc w.heap.size g8 t b q _) ∧ _).1.out.below hb7)))
          | (go_at_call_of 43 (Value.agg PT); ((refine (HCT2.out _).mono ?_); rintro e w7 ⟨rfl, hb7⟩; have HSP := Lib.hid ((by assumption : Hid (EB wc w.heap.size g8 t b q _) ∧ _).1.out.below hb7))))
      all_goals
        by_cases hc : (cq : Int) = (ct : Int) + by_
        · have hc' : ((cq : Int) == (ct : Int) + by_) = true := beq_iff_eq.2 hc
          have hsu := HSU.out
          rw [hc', if_pos rfl] at hsu
          have HSU2 := Lib.hid hsu
          have HXW := Lib.hid HSP.out.bel
          clear hc hsu
          go_wp2_with (first
            | (with_reducible refine wp_loadPair rfl (.tmp 8) rfl g8 q b rfl HSP.out.q ?_)
            | (with_reducible refine wp_buildP1 _ rfl (.tmp 29) rfl q b rfl ?_)
            | (at_builtin; refine wp_appendPs _ rfl (.tmp 28) (.tmp 30) rfl w1.heap.size w7.heap.size 1 1 _ (U.map fun q => (q, b)) [(q, b)] rfl rfl rfl (fun j hj => built_cells w7 q b j hj) ((HOQ.out.below HXW.out).below (Below.alloc1 _ _)) (by have := HUL.out; simp only [List.length_cons, List.length_nil]; omega) (by have := HXW.out.size; simp; omega) ?_; intro o' w9 ho9 hg9 hb9 hw9; have HO9 := Lib.hid ho9; have HB9 := Lib.hid ((HBE.out.trans ((HXW.out.trans ((Below.alloc1 w7 (.cells (pairC q b) 58)).mono HXW.out.size)).mono hsz)).trans hb9); clear ho9 hg9 hb9 hw9))
          go_roundw
          case rel => exact ⟨k + 1, by omega, by go_num, by rw [HSU2.out, List.map_append]; exact HO9.out, HB9.out⟩
          case measure => simp [intOf]; omega
        · have hc' : ((cq : Int) == (ct : Int) + by_) = false := beq_eq_false_iff_ne.2 hc
          have hsu := HSU.out
          rw [hc'] at hsu
          simp only [Bool.false_eq_true, if_false, List.append_nil] at hsu
          have HSU2 := Lib.hid hsu
          have HXW := Lib.hid HSP.out.bel
          clear hc hsu
          go_wp2
          go_roundw
          case rel => exact ⟨k + 1, by omega, by go_num, by rw [HSU2.out]; exact HOQ.out.below HXW.out, Below.step HBE.out HXW.out⟩
          case measure => simp [intOf]; omega
    · obtain rfl : k = L.length := by omega
      obtain ⟨a5, c5, rfl, _⟩ := hown.form
      have HOW := Lib.hid hown; have HBE := Lib.hid hbel
      clear hown hbel
      go_wp2_with fail
      go_ret
      exact ⟨_, rfl, HOW.out.mono HB1.out.size, Below.step HB1.out HBE.out⟩

theorem OwnP.lit1 (B : Nat) (w : World) (t b : List Int) (hB : B ≤ w.heap.size) : OwnP B (w.alloc (.cells (pairC t b) 58)) (.slice (some ⟨w.heap.size, 0, none⟩) 1 1) [(t, b)] := by
  have h : (w.alloc (.cells (pairC t b) 58)).ownsRow B 58 26 (.slice (some ⟨w.heap.size, 0, none⟩) 1 1) 1 (pairC t b).toList := World.ownsRow_lit w (pairC t b) 1 hB (by unfold maxLen; omega) (by rw [pairC_size])
  unfold OwnP
  rw [pairsC_cons, pairsC_nil, List.append_nil]
  exact h
def PathOut (B : Nat) (w : World) (ps : List (List Int × List Int)) (e : Ending) (w' : World) : Prop := ∃ v', e = .returned v' ∧ OwnP B w' v' ps ∧ Below B w w'
set_option maxHeartbeats 4000000 in
set_option maxRecDepth 100000 in
theorem extended_stop (t b : List Int) (by_ : Int) (gt : goodB t = true) (gb : goodB b = true) (hl : t.length = b.length) (hb : by_ = 1 ∨ by_ = -1) (he : nextsL t b by_ = []) (ps : List (List Int × List Int)) (hp : ps.length ≤ 100) (B : Nat) (w : World) (v : Value) (hown : OwnP B w v (ps ++ [(t, b)])) (hB : B ≤ w.heap.size) :
    Calls Try.prog 75 #[.int .i64 by_, v] w (PathOut B w (ps ++ [(t, b)])) := by
  have HX := Lib.hid (fun w => exchangesBy_any t b by_ gt gb hl (by omega) w)
  rw [he] at HX
  obtain ⟨a, c, rfl, hc1, hc2⟩ := hown.form
  obtain ⟨g, rfl, _, _, _, hrg, _⟩ := hown.at (by simp)
  have hr := hrg ps.length (by simp)
  have hgd : (ps ++ [(t, b)]).getD ps.length ([], []) = (t, b) := by simp [List.getD]
  rw [hgd] at hr
  have hN : (ps ++ [(t, b)]).length = ps.length + 1 := by simp
  generalize ps ++ [(t, b)] = qs at *
  generalize qs.length = N at *
  generalize ps.length = m at *
  have hw : IntKind.i64.wrap ((N : Int) - 1) = (m : Int) := by rw [show (N : Int) - 1 = (m : Int) by omega]; exact IntWalk.i64_in _ (by omega)
  have i1 : (m : Int) < (N : Int) := by omega
  have i2 : m < N := by omega
  have HO := Lib.hid hown; have HR := Lib.hid hr; have HBW := Lib.hid hB
  unfold maxLen at hc2
  clear hown hr hrg hgd he gt gb hl hN hB
  go_enter Try.func75, Try.ntmps75
  go_wp2_with (first
    | (with_reducible refine boxP_loadX rfl (.tmp 10) rfl g (m * 26) t b rfl HR.out ?_)
    | (go_at_call 102; ((with_reducible refine (HX.out _).mono ?_); rintro e w1 ⟨v1, rfl, ho1, hb1⟩; obtain ⟨a1, c1, rfl, hq1, hq2⟩ := ho1.form; have HB1 := Lib.hid hb1; clear ho1 hb1)))
  go_ret
  exact ⟨_, rfl, HO.out.below HB1.out, HB1.out.mono HBW.out⟩
set_option maxHeartbeats 4000000 in
set_option maxRecDepth 100000 in
theorem extended_go (t b q : List Int) (r : List (List Int)) (by_ : Int) (gt : goodB t = true) (gb : goodB b = true) (hl : t.length = b.length) (hb : by_ = 1 ∨ by_ = -1) (he : nextsL t b by_ = q :: r) (ps : List (List Int × List Int)) (hp : ps.length ≤ 100) (B : Nat) (w : World) (v : Value) (hown : OwnP B w v (ps ++ [(t, b)])) (hB : B ≤ w.heap.size) (RES : List (List Int × List Int))
    (hrec : ∀ w' v', OwnP B w' v' (ps ++ [(t, b)] ++ [(q, b)]) → B ≤ w'.heap.size → Calls Try.prog 75 #[.int .i64 by_, v'] w' (PathOut B w' RES)) :
    Calls Try.prog 75 #[.int .i64 by_, v] w (PathOut B w RES) := by
  have hnl := nexts_len (t := t) (b := b) (by_ := by_) gt
  have HX := Lib.hid (fun w => exchangesBy_any t b by_ gt gb hl (by omega) w)
  rw [he] at HX hnl
  obtain ⟨a, c, rfl, hc1, hc2⟩ := hown.form
  obtain ⟨g, rfl, _, _, _, hrg, _⟩ := hown.at (by simp)
  have hr := hrg ps.length (by simp)
  have hgd : (ps ++ [(t, b)]).getD ps.length ([], []) = (t, b) := by simp [List.getD]
  rw [hgd] at hr
  have hN : (ps ++ [(t, b)]).length = ps.length + 1 := by simp
  generalize ps ++ [(t, b)] = qs at *
  have HQS : Hid (qs.length ≤ 101) := by show _ ≤ _; omega
  have HO := Lib.hid hown
  obtain ⟨N, hNN⟩ : ∃ N, qs.length = N := ⟨_, rfl⟩
  rw [hNN] at hc1 hN HO ⊢
  generalize ps.length = m at *
  have hw : IntKind.i64.wrap ((N : Int) - 1) = (m : Int) := by rw [show (N : Int) - 1 = (m : Int) by omega]; exact IntWalk.i64_in _ (by omega)
  have i1 : (m : Int) < (N : Int) := by omega
  have i2 : m < N := by omega
  have HR := Lib.hid hr; have HBW := Lib.hid hB; have HREC := Lib.hid hrec
  unfold maxLen at hc2
  clear hown hr hrg hgd he gt gb hl hN hB hrec hNN
  go_enter Try.func75, Try.ntmps75
  go_wp2_with (first
    | (with_reducible refine boxP_loadX rfl (.tmp 10) rfl g (m * 26) t b rfl HR.out ?_)
    | (go_at_call 102; ((with_reducible refine (HX.out _).mono ?_); rintro e w1 ⟨v1, rfl, ho1, hb1⟩; obtain ⟨a1, c1, rfl, hq1, hq2⟩ := ho1.form; obtain ⟨g1, rfl, _, _, _, hrg1, _⟩ := ho1.at (by simp); have hr1 := hrg1 0 (by simp); rw [Nat.zero_mul] at hr1; have HR1 : Hid (w1.rangeAt g1 0 (pairC q b).toList) := hr1; have HL1 : Hid (((q :: r).map fun q => (q, b)).length = r.length + 1) := (by show _ = _; simp); rw [HL1.out] at hq1 ⊢; have hne : (((r.length + 1 : Nat) : Int) == 0) = false := beq_eq_false_iff_ne.2 (by omega); have i5 : (0 : Int) < ((r.length + 1 : Nat) : Int) := (by omega); have HB1 := Lib.hid hb1; generalize r.length + 1 = rl at *; clear ho1 hb1 hrg1 hr1))
    | (with_reducible refine boxP_loadX rfl (.tmp 21) rfl g1 0 q b rfl HR1.out ?_)
    | (with_reducible refine wp_buildP1 _ rfl (.tmp 22) rfl q b rfl ?_)
    | (at_builtin; refine wp_appendPs _ rfl (.tmp 19) (.tmp 23) rfl B w1.heap.size 1 1 _ qs [(q, b)] rfl rfl rfl (fun j hj => built_cells w1 q b j hj) ((HO.out.below HB1.out).below (Below.alloc1 _ _)) (by have := HQS.out; simp only [List.length_cons, List.length_nil]; omega) (by have := HB1.out.size; have := HBW.out; simp; omega) ?_; intro o' w9 ho9 hg9 hb9 hw9; have HO9 := Lib.hid ho9; have HB9 := Lib.hid (((HB1.out.trans ((Below.alloc1 w1 (.cells (pairC q b) 58)).mono HB1.out.size)).mono HBW.out).trans hb9); clear ho9 hg9 hb9 hw9)
    | (go_at_call 75; ((refine (HREC.out _ _ HO9.out (Nat.le_trans HBW.out HB9.out.size)).mono ?_); rintro e w10 ⟨v10, rfl, ho10, hb10⟩; obtain ⟨x1, x2, rfl, _⟩ := ho10.form; have HO10 := Lib.hid ho10; have HB10 := Lib.hid (HB9.out.trans hb10); clear ho10 hb10)))
  go_ret
  exact ⟨_, rfl, HO10.out, HB10.out⟩
theorem extended_any (b : List Int) (by_ : Int) (hb : by_ = 1 ∨ by_ = -1) (gb : goodB b = true) : ∀ (f : Nat) (t : List Int) (ps : List (List Int × List Int)) (B : Nat) (w : World) (v : Value), goodB t = true → t.length = b.length → meas b by_ t ≤ f → ps.length + f ≤ 100 → OwnP B w v (ps ++ [(t, b)]) → B ≤ w.heap.size →
    Calls Try.prog 75 #[.int .i64 by_, v] w (PathOut B w (ps ++ [(t, b)] ++ (tailF b by_ f t).map fun q => (q, b)))
  | f, t, ps, B, w, v, gt, hl, hm, hp, hown, hB => by
    cases hn : nextsL t b by_ with
    | nil =>
      have e : tailF b by_ f t = [] := by
        cases f with
        | zero => rfl
        | succ f => rw [tailF, hn]; rfl
      rw [e, List.map_nil, List.append_nil]
      exact extended_stop t b by_ gt gb hl hb hn ps (by omega) B w v hown hB
    | cons q r =>
      have hq : q ∈ nextsL t b by_ := by rw [hn]; exact List.mem_cons_self ..
      have h1 := meas_next hb gt hq
      have h2 := next_facts gt hq
      obtain ⟨f, rfl⟩ : ∃ g, f = g + 1 := ⟨f - 1, by omega⟩
      have e : tailF b by_ (f + 1) t = q :: tailF b by_ f q := by rw [tailF, hn]; rfl
      rw [e, List.map_cons]
      refine extended_go t b q r by_ gt gb hl hb hn ps (by omega) B w v hown hB _ (fun w' v' ho' hB' => ?_)
      have := extended_any b by_ hb gb f q (ps ++ [(t, b)]) B w' v' h2.1 (by rw [h2.2.1, hl]) (by omega) (by simp; omega) ho' hB'
      rw [List.append_assoc (ps ++ [(t, b)])] at this
      exact this
theorem tailF_facts (b : List Int) (by_ : Int) : ∀ (f : Nat) (t : List Int), goodB t = true → (∀ q ∈ tailF b by_ f t, goodB q = true ∧ q.length = t.length) ∧ (tailF b by_ f t).length ≤ f
  | 0, t, _ => ⟨fun q hq => by simp [tailF] at hq, by simp [tailF]⟩
  | f + 1, t, gt => by
    rw [tailF]
    cases hn : (nextsL t b by_).head? with
    | none => exact ⟨fun q hq => by simp at hq, by simp⟩
    | some q =>
      have hq : q ∈ nextsL t b by_ := List.mem_of_mem_head? (by rw [hn]; rfl)
      have h2 := next_facts gt hq
      have ih := tailF_facts b by_ f q h2.1
      refine ⟨fun x hx => ?_, by simp; exact ih.2⟩
      rcases List.mem_cons.1 hx with rfl | hx
      · exact ⟨h2.1, h2.2.1⟩
      · have := ih.1 x hx
        exact ⟨this.1, by rw [this.2, h2.2.1]⟩

end Go.Proofs.Ytogjclmmjdhfeac
