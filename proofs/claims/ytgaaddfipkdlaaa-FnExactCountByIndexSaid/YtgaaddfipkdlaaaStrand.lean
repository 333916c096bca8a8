/- The program follows one curve. -/
import Derived.Test.YtgaaddfipkdlaaaSortI
import Derived.Test.YtgaaddfipkdlaaaIdx
import Derived.Test.YtgaaddfipkdlaaaMeander
import Derived.Test.YtgaaddfipkdlaaaAppStep
import Derived.Deep.RegionLaw
namespace Go.Proofs.Ytgaaddfipkdlaaa
open Go.RowKit
set_option linter.unusedSimpArgs false
set_option linter.unusedVariables false

theorem wp_storeB2 {ops : Array Oper} {rest : List Oper} {o : Oper} {a : Act} {w : World} {Q : Exit → Act → World → Prop} (hgd : o.guard = none) (x y : Operand) (ho : o.op = .store 4 x y)
    (T : TypeId) (g : Nat) (z : Bool) (v1 v2 : Value) (hx : a.eval x = .pointer (some ⟨g, 1, none⟩)) (hy : a.eval y = .bool z) (hb : Box2 T w g v1 v2)
    (h : ∀ w', Box2 T w' g v1 (.bool z) → w.grownBy w' (some g) → wpList Try.prog ops Q rest (a.put o.dst undef) w') : wpList Try.prog ops Q (o :: rest) a w := by
  have hc := hb.c1; have hf := hb.free 1
  have h := h _ (hb.set1 (.bool z)) ⟨rfl, rfl, rfl, by simp, fun k _ hk => heap_setCell_other w ⟨g, 1, none⟩ k _ (fun e => hk (by simp [e]))⟩
  clear hb
  refine wpList_plain hgd fun _ hK => ?_
  have hK' := hK _ _ h
  unfold Oper.wp execOp
  simp only [ho, hx, hy, Instr.storeAt, Instr.sureAddr, Sem.run_bind, Sem.run_pure, Result.andThen_ok]
  go_simp
  exact hK'
theorem step_storeS2 {ops : Array Oper} {o : Oper} {a : Act} {K : Act → World → Prop} {Q : Exit → Act → World → Prop} {E : Prop} (w : World) (hgd : o.guard = none) (x y : Operand) (ho : o.op = .store 22 x y)
    (T : TypeId) (g : Nat) (p : Option Addr) (n c : Nat) (v1 v2 : Value) (hx : a.eval x = .pointer (some ⟨g, 0, none⟩)) (hy : a.eval y = .slice p n c) (hb : Box2 T w g v1 v2)
    (h : ∀ w', Box2 T w' g (.slice p n c) v2 → w.grownBy w' (some g) → K (a.put o.dst undef) w') :
    if Region.wanted o (yielded ops a.tmps) = true then Oper.wp Try.prog o a w K Q else E := by
  have hc := hb.c0; have hf := hb.free 0
  have h := h _ (hb.set0 (.slice p n c)) ⟨rfl, rfl, rfl, by simp, fun k _ hk => heap_setCell_other w ⟨g, 0, none⟩ k _ (fun e => hk (by simp [e]))⟩
  clear hb
  have hw : Region.wanted o (yielded ops a.tmps) = true := by simp [Region.wanted, hgd]
  rw [if_pos hw]
  unfold Oper.wp execOp
  simp only [ho, hx, hy, Instr.storeAt, Instr.sureAddr, Sem.run_bind, Sem.run_pure, Result.andThen_ok]
  go_simp
  exact h

theorem strand_info : (Try.prog.info? 55).map (·.size) = some 2 := by kernel_rfl
def StrandOut (w : World) (l : List Int) (p : Bool) (e : Ending) (w' : World) : Prop := ∃ v, e = .returned (.agg #[v, .bool p]) ∧ Own w.heap.size w' v l ∧ Below w.heap.size w w'
theorem results_strand (tmps : Array Value) (w : World) (g : Nat) (a : Option Addr) (n c : Nat) (b : Bool) (hg : Box2 55 w g (.slice a n c) (.bool b)) (h4 : tmps.getD 4 undef = .pointer (some ⟨g, 0, none⟩)) :
    (results Try.f61 tmps).run Try.prog w = .ok (.agg #[.slice a n c, .bool b]) w := by
  have h4' : tmps[4]?.getD undef = .pointer (some ⟨g, 0, none⟩) := by simpa using h4
  have hr : Try.f61.results = #[.cell 4 55] := by kernel_rfl
  have hl : (loadVar 55 ⟨g, 0, none⟩).run Try.prog w = .ok (.agg #[.slice a n c, .bool b]) w := run_loadVar_row w g _ _ #[.slice a n c, .bool b] _ _ hg Try.underlying55 rfl (by rw [strand_info]; rfl)
  simp [results, hr, h4', asAddr, hl]
theorem box_not {B b : Nat} {w : World} {v v1 v2 : Value} {l : List Int} (h : Own B w v l) (hb : Box2 55 w b v1 v2) : v.ownBlock ≠ some b := by
  rcases h.2 with ⟨rfl, _⟩ | ⟨g, cap, cur, rfl, _, hg, _⟩
  · simp [Value.ownBlock]
  · intro e
    have e' : g = b := by simpa [Value.ownBlock] using e
    subst e'
    unfold Box2 at hb
    rw [hb] at hg
    simp at hg
set_option maxHeartbeats 1000000 in
set_option maxRecDepth 100000 in
theorem strandOf_any (i n : Nat) (T B : Nat → Nat) (w : World) (g1 g2 c1 c2 : Nat) (hi : i < n) (hn : n ≤ 20) (hc1 : n ≤ c1 ∧ c1 ≤ maxLen) (hc2 : n ≤ c2 ∧ c2 ≤ maxLen) (hT : Inv n T) (hB : Inv n B)
    (ht : ∀ j, j < n → w.cell? ⟨g1, j, none⟩ = some (.int .i64 (T j : Nat))) (hb : ∀ j, j < n → w.cell? ⟨g2, j, none⟩ = some (.int .i64 (B j : Nat))) :
    Calls Try.prog 61 #[.int .i64 i, .agg #[.slice (some ⟨g1, 0, none⟩) n c1, .slice (some ⟨g2, 0, none⟩) n c2]] w (StrandOut w (natL (comp n T B i)) (endB T B (comp n T B i))) := by
  have HT := Lib.hid ht; have HBT := Lib.hid hb; have H1 := Lib.hid hT; have H2 := Lib.hid hB
  unfold maxLen at hc1 hc2
  clear ht hb hT hB
  have i0 : ∀ W, (Instr.index 83 (.agg #[.slice (some ⟨g1, 0, none⟩) n c1, .slice (some ⟨g2, 0, none⟩) n c2]) (.int .i64 0)).run Try.prog W = .ok (.slice (some ⟨g1, 0, none⟩) n c1) W := fun _ => by kernel_rfl
  have i1 : ∀ W, (Instr.index 83 (.agg #[.slice (some ⟨g1, 0, none⟩) n c1, .slice (some ⟨g2, 0, none⟩) n c2]) (.int .i64 1)).run Try.prog W = .ok (.slice (some ⟨g2, 0, none⟩) n c2) W := fun _ => by kernel_rfl
  go_enter Try.func61, Try.ntmps61
  go_wp2
  obtain ⟨W2, hW2⟩ : ∃ W2, W2 = ((w.alloc (.cells #[.slice (some ⟨g1, 0, none⟩) n c1, .slice (some ⟨g2, 0, none⟩) n c2] 83)).alloc (.cells #[.slice none 0 0, .bool false] 55)) := ⟨_, rfl⟩
  have hs2 : W2.heap.size = w.heap.size + 2 := by rw [hW2]; simp
  have hbw : Below w.heap.size w W2 := by rw [hW2]; exact (Below.alloc1 _ _).alloc (by simp) _
  have hA0 : Box2 83 W2 w.heap.size (.slice (some ⟨g1, 0, none⟩) n c1) (.slice (some ⟨g2, 0, none⟩) n c2) := by rw [hW2]; exact (Box2.new _ w _ _).below (Below.alloc1 _ _)
  have hR0 : Box2 55 W2 (w.heap.size + 1) (.slice none 0 0) (.bool false) := by rw [hW2]; have := Box2.new 55 (w.alloc (.cells #[.slice (some ⟨g1, 0, none⟩) n c1, .slice (some ⟨g2, 0, none⟩) n c2] 83)) (.slice none 0 0) (.bool false); rwa [World.size_alloc] at this
  have HR := Lib.hid hR0
  have hO0 : Own W2.heap.size (W2.alloc (.cells #[.int .i64 i] 3)) (.slice (some ⟨W2.heap.size, 0, none⟩) 1 1) [(i : Int)] := Own.lit1 _ _ _ (Nat.le_refl _)
  have hO1 := Own.below hO0 (Below.alloc1 _ (.cells #[.slice (some ⟨W2.heap.size, 0, none⟩) 1 1, .bool false] 55))
  have hX0 := Box2.new 55 (W2.alloc (.cells #[.int .i64 i] 3)) (.slice (some ⟨W2.heap.size, 0, none⟩) 1 1) (.bool false)
  have hB0 : Below W2.heap.size W2 ((W2.alloc (.cells #[.int .i64 i] 3)).alloc (.cells #[.slice (some ⟨W2.heap.size, 0, none⟩) 1 1, .bool false] 55)) := (Below.alloc1 _ _).alloc (by simp) _
  rw [World.size_alloc] at hX0
  rw [← hW2]
  have e2 : w.heap.size + 1 + 1 = W2.heap.size := by omega
  rw [e2]
  generalize hW4 : (W2.alloc (.cells #[.int .i64 i] 3)).alloc (.cells #[.slice (some ⟨W2.heap.size, 0, none⟩) 1 1, .bool false] 55) = W4 at *
  have HBW := Lib.hid hbw; have HA := Lib.hid hA0; have HO := Lib.hid hO1; have HX := Lib.hid hX0; have HB4 := Lib.hid hB0
  have HBR := Lib.hid (show W2.heap.size = w.heap.size + 2 from hs2)
  obtain ⟨b5, hb5⟩ : ∃ b5, b5 = W2.heap.size + 1 := ⟨_, rfl⟩
  rw [← hb5] at HX ⊢
  have HN5 : Hid (some W2.heap.size ≠ some b5) := Lib.hid (by rw [hb5]; simp)
  have HB5 := Lib.hid (show W2.heap.size ≤ b5 by omega)
  clear hR0
  clear hbw hA0 hO0 hO1 hX0 hB0 hs2 e2 hW2 hW4 hb5
  go_loopw [6] (fun i2 wr => ∃ (k : Nat) (ps : List Nat) (pv : Value), k ≤ ps.length ∧ i2 = .int .i64 k ∧ Hid (Met n T B i k ps) ∧ Hid (Box2 55 wr b5 pv (.bool (endB T B (ps.take k)))) ∧ Hid (Own W2.heap.size wr pv (natL ps)) ∧ Hid (pv.ownBlock ≠ some b5) ∧ Hid (Below W2.heap.size W2 wr)) (fun i2 _ => n - (intOf i2).toNat)
  case atStart => exact ⟨0, [i], _, by simp, rfl, Met.start hi, HX, HO, HN5, HB4⟩
  case round =>
    obtain ⟨k, ps, pv, hk, rfl, HM, HX, HO, HNI, HBW2⟩ := hrel
    obtain ⟨x1, z1, rfl, hz1, hz2⟩ := HO.out.form
    have hlen := natL_len ps
    have hpn := HM.out.le
    have hx0 := HX.out.c0
    generalize hm : (natL ps).length = m at *
    unfold maxLen at hz2
    by_cases hkm : k < m
    · have hkp : k < ps.length := by omega
      obtain ⟨gp, cp, hv⟩ : ∃ gp cp, Value.slice x1 m z1 = .slice (some ⟨gp, 0, none⟩) m cp := by
        rcases HO.out.shape with ⟨_, h0⟩ | ⟨gp, cp, hv, _⟩
        · rw [h0] at hm; simp at hm; omega
        · rw [hm] at hv; exact ⟨gp, cp, hv⟩
      obtain ⟨rfl, rfl⟩ : x1 = some ⟨gp, 0, none⟩ ∧ z1 = cp := by simp at hv; exact hv
      have hrow := HO.out.cellAt k (by rw [hm]; exact hkm)
      rw [natL_get hkp] at hrow
      have ha : ps.getD k 0 < n := (HM.out.rch _ (by simp [List.getD, hkp])).2
      have HST := Lib.hid (step_met H1.out H2.out HM.out hkp)
      have HSE := Lib.hid (step_end (T := T) (B := B) hkp)
      have HSL := Lib.hid (stepP_len (T := T) (B := B) (a := ps.getD k 0) (ps := ps) 2)
      generalize ps.getD k 0 = a at *
      have hA := HA.out.below HBW2.out
      have kx0 := hA.c0; have kx1 := hA.c1
      clear hA hv HM hz1 hz2
      generalize wr = wa at *
      go_wp2
      go_loopw [26] (fun i3 wr => ∃ (q : Nat) (pv : Value), q ≤ 2 ∧ i3 = .int .i64 q ∧ Hid (Box2 55 wr b5 pv (.bool (stepE T B a (endB T B (ps.take k)) q))) ∧ Hid (Own W2.heap.size wr pv (natL (stepP T B a ps q))) ∧ Hid (pv.ownBlock ≠ some b5) ∧ Hid (Below W2.heap.size W2 wr)) (fun i3 _ => 2 - (intOf i3).toNat)
      case atStart => exact ⟨0, _, by omega, rfl, HX, HO, HNI, HBW2⟩
      case round =>
        obtain ⟨q, pv, hq, rfl, HX3, HO3, HNI3, HB3⟩ := hrel
        obtain ⟨x3, m3, z3, rfl⟩ := HO3.out.form'
        have hP := stepP_max (T := T) (B := B) (a := a) (ps := ps) q
        by_cases hq2 : q < 2
        · obtain ⟨gs, cs, y, hsel, HCS, HP, HE⟩ : ∃ (gs cs y : Nat), (q = 0 ∧ gs = g1 ∧ cs = c1 ∨ q = 1 ∧ gs = g2 ∧ cs = c2) ∧ Hid (∀ W, Below W2.heap.size W2 W → W.cell? ⟨gs, a, none⟩ = some (.int .i64 (y : Nat))) ∧ Hid (stepP T B a ps (q + 1) = putNew (stepP T B a ps q) y) ∧ Hid (stepE T B a (endB T B (ps.take k)) (q + 1) = (stepE T B a (endB T B (ps.take k)) q || (y == a))) := by
            have keep : ∀ (W : World), Below W2.heap.size W2 W → ∀ (d : Addr) v, w.cell? d = some v → W.cell? d = some v := fun W hW d v hv => ((Below.step HBW.out hW).cell (World.block_lt_of_cell? w _ hv)).trans hv
            rcases (show q = 0 ∨ q = 1 by omega) with rfl | rfl
            · exact ⟨g1, c1, T a, .inl ⟨rfl, rfl, rfl⟩, fun W hW => keep W hW _ _ (HT.out a ha), rfl, rfl⟩
            · exact ⟨g2, c2, B a, .inr ⟨rfl, rfl, rfl⟩, fun W hW => keep W hW _ _ (HBT.out a ha), rfl, rfl⟩
          generalize stepP T B a ps q = PS at *
          generalize stepE T B a (endB T B (ps.take k)) q = es at *
          have HPL := Lib.hid hP
          clear hP hrow hx0
          have hcS := HCS.out wr HB3.out
          have hb0 := HX3.out.c0
          obtain ⟨e5, HE5, hya⟩ : ∃ e5, Hid (stepE T B a (endB T B (ps.take k)) (q + 1) = e5) ∧ (y = a ∧ e5 = true ∨ ¬ (y : Int) = a ∧ e5 = es) := by
            by_cases hya : y = a
            · exact ⟨true, HE.out.trans (by simp [hya]), .inl ⟨hya, rfl⟩⟩
            · exact ⟨es, HE.out.trans (by rw [show (y == a) = false by simp; omega]; simp), .inr ⟨by omega, rfl⟩⟩
          rcases hya with ⟨rfl, rfl⟩ | ⟨hya, rfl⟩
          all_goals rcases hsel with ⟨rfl, rfl, rfl⟩ | ⟨rfl, rfl, rfl⟩
          all_goals
            go_wp2_with (refine wp_storeB2 rfl (.tmp 35) (.const (.bool true)) rfl 55 b5 true _ _ rfl rfl HX3.out ?_; intro w5 hx5 hg5; have HX5 := Lib.hid hx5; have HO5 := Lib.hid (Own.grown HO3.out hg5 (fun k hk e => HNI3.out (by rw [hk, e]))); have HB6 := Lib.hid (HB3.out.trans (below_grown hg5 HB3.out.size (fun k hk => by cases hk; exact HB5.out))); have kc5 := HCS.out w5 HB6.out; have kb5 := hx5.c0; clear hx5 hg5)
            first
              | have HQ := HX5; clear HQ
              | clear hya; generalize wr = w5 at *; have HX5 := HX3; have HO5 := HO3; have HB6 := HB3; have kc5 := hcS; have kb5 := hb0
            clear hcS hb0
            have hcn : ∀ d, Calls Try.prog 64 #[.slice x3 m3 z3, .int .i64 y] (w5.drewN d) fun e w' => e = .returned (.bool (decide ((y : Int) ∈ natL PS))) ∧ w' = w5.drewN d := fun d => (contains_any _ (natL PS) y (w5.drewN d) (Rd.drewN HO5.out.rd d) (by have := HPL.out; rw [natL_len]; omega)).mono fun e w' h => ⟨h.1, h.2.symm⟩
            by_cases hin : y ∈ PS
            · rw [decide_eq_true (natL_in.2 hin)] at hcn
              have HCN := Lib.hid hcn
              have HPE := Lib.hid (HP.out.trans (if_pos hin : putNew PS y = PS))
              clear hcn hin
              go_quiet ((go_at_call 64; with_reducible exact Calls.quiet_of_same (HCN.out _)))
              go_wp2
              go_roundw
              case rel =>
                first
                  | exact ⟨0 + 1, .slice x3 m3 z3, by omega, by go_num, by rw [HE5.out]; exact HX5, by rw [HPE.out]; exact HO5, HNI3, Below.drewN HB6.out _⟩
                  | exact ⟨1 + 1, .slice x3 m3 z3, by omega, by go_num, by rw [HE5.out]; exact HX5, by rw [HPE.out]; exact HO5, HNI3, Below.drewN HB6.out _⟩
              case measure => simp [intOf]
            · rw [decide_eq_false (fun h => hin (natL_in.1 h))] at hcn
              have HCN := Lib.hid hcn
              have HPE := Lib.hid (HP.out.trans (if_neg hin : putNew PS y = PS ++ [y]))
              clear hcn hin
              go_quiet ((go_at_call 64; with_reducible exact Calls.quiet_of_same (HCN.out _)))
              have HX6 : Hid (Box2 55 (w5.drewN nq) b5 _ _) := HX5.out
              have HO6 : Hid (Own W2.heap.size (w5.drewN nq) (.slice x3 m3 z3) (natL PS)) := HO5.out
              have HB7 := Lib.hid (Below.drewN HB6.out nq)
              have kc6 := HCS.out (w5.drewN nq) HB7.out
              have kb6 := HX6.out.c0
              clear HX5 HO5 HB6 kc5 kb5 HCN
              generalize w5.drewN nq = w6 at *
              have kb8 := (HX6.out.below (Below.alloc1 w6 (.cells #[.int .i64 y] 3))).c0
              have kb9 := (HX6.out.below (Below.alloc1 w6 (.cells #[.int .i64 y] 3)).drew).c0
              go_wp2
              go_region_law (first
                | (refine step_appendI _ (by rfl) (.tmp 45) (.tmp 50) (by rfl) W2.heap.size (.slice x3 m3 z3) (.slice (some ⟨w6.heap.size, 0, none⟩) 1 1) (natL PS) [(y : Int)] (by rfl) (by rfl) (Own.below HO6.out (Below.alloc1 w6 (.cells #[.int .i64 y] 3)).drew) (Own.rd (Own.lit1 w6.heap.size w6 y (Nat.le_refl _))) (by have := HPL.out; rw [natL_len]; simp; omega) (by have := HB7.out.size; simp; omega) ?_; intro v7 w7 ho7 hg7 hb7; obtain ⟨x7, m7, z7, rfl⟩ := ho7.form'; have HB8 := Lib.hid ((HB7.out.alloc HB7.out.size (.cells #[.int .i64 y] 3)).drew.trans hb7); have HX7 := Lib.hid ((HX6.out.below (Below.alloc1 w6 (.cells #[.int .i64 y] 3)).drew).grown hg7 (fun e => HNI3.out e.symm)); have HO7 := Lib.hid ho7; have kb7 := HX7.out.c0; have kf7 := HX7.out.free 0; clear ho7 hg7 hb7))
              all_goals
               have hg8 : w7.grownBy (w7.setCell ⟨b5, 0, none⟩ (.slice x7 m7 z7)) (some b5) := ⟨rfl, rfl, rfl, by simp, fun k _ hk => heap_setCell_other w7 ⟨b5, 0, none⟩ k _ (fun e => hk (by simp [e]))⟩
               have HX8 := Lib.hid (HX7.out.set0 (.slice x7 m7 z7))
               have HO8 := Lib.hid (Own.grown HO7.out hg8 (fun k hk e => box_not HO7.out HX7.out (by rw [hk, e])))
               have HB9 := Lib.hid (HB8.out.trans (below_grown hg8 HB8.out.size (fun k hk => by cases hk; exact HB5.out)))
               clear hg8 kb7 kf7
               rw [← natL_put, ← HPE.out] at HO8
               go_wp2
               go_roundw
               case rel =>
                 first
                   | exact ⟨0 + 1, _, by omega, by go_num, by rw [HE5.out]; exact HX8, HO8, box_not HO8.out HX8.out, HB9⟩
                   | exact ⟨1 + 1, _, by omega, by go_num, by rw [HE5.out]; exact HX8, HO8, box_not HO8.out HX8.out, HB9⟩
               case measure => simp [intOf]
        · obtain rfl : q = 2 := by omega
          go_wp2
          go_roundw
          case rel => exact ⟨k + 1, _, _, by have := HSL.out; omega, by go_num, HST, by rw [← HSE.out]; exact HX3, HO3, HNI3, HB3⟩
          case measure => simp [intOf]; omega
    · have hpos : 0 < ps.length := List.length_pos_of_mem HM.out.mem
      have HAS := Lib.hid (asc_met HM.out (by omega : ps.length ≤ k))
      have HEM := Lib.hid (end_met HM.out (by omega : ps.length ≤ k))
      have HSO := Lib.hid (sortI_any W2.heap.size (.slice x1 m z1) (natL ps) wr HO.out (by omega) (by omega) HBW2.out.size)
      obtain rfl : k = m := by omega
      have HLN := Lib.hid hlen
      clear hpos HM hlen hm hpn hk
      go_wp2_with (go_at_call 65; ((with_reducible refine HSO.out.mono ?_); rintro e w8 ⟨rfl, ho8, hg8, hb8⟩; have HO8 := Lib.hid ho8; have HX8 := Lib.hid (HX.out.grown hg8 (fun e => HNI.out e.symm)); have HB8 := Lib.hid (HBW2.out.trans hb8); have q0 := HX8.out.c0; have q1 := HX8.out.c1; have HR8 := Lib.hid (HR.out.below HB8.out); have r0 := HR8.out.c0; have r1 := HR8.out.c1; have r2 := HR8.out.free 0; have r3 := HR8.out.free 1; clear ho8 hg8 hb8))
      rw [HAS.out] at HO8
      have hbx := (HR8.out.set0 (.slice x1 k z1)).set1 (.bool (endB T B (ps.take k)))
      rw [HEM.out] at hbx
      have hfar : ∀ r, (Value.slice x1 k z1).ownBlock = some r → some (w.heap.size + 1) ≠ some r := fun r hr e => by have := (HO8.out.lt r hr).1; have := HBR.out; cases e; omega
      have ho9 := Own.grown (w' := w8.setCell ⟨w.heap.size + 1, 0, none⟩ (.slice x1 k z1)) HO8.out ⟨rfl, rfl, rfl, by simp, fun r _ hr => heap_setCell_other w8 ⟨w.heap.size + 1, 0, none⟩ r _ (fun e => hr (by simp [e]))⟩ hfar
      have ho10 := Own.grown (w' := (w8.setCell ⟨w.heap.size + 1, 0, none⟩ (.slice x1 k z1)).setCell ⟨w.heap.size + 1, 1, none⟩ (.bool (endB T B (ps.take k)))) ho9 ⟨rfl, rfl, rfl, by simp, fun r _ hr => heap_setCell_other _ ⟨w.heap.size + 1, 1, none⟩ r _ (fun e => hr (by simp [e]))⟩ hfar
      have hbb := ((Below.step HBW.out HB8.out).setCell (p := ⟨w.heap.size + 1, 0, none⟩) (by show w.heap.size ≤ w.heap.size + 1; omega) (.slice x1 k z1)).setCell (p := ⟨w.heap.size + 1, 1, none⟩) (by show w.heap.size ≤ w.heap.size + 1; omega) (.bool (endB T B (ps.take k)))
      rw [HEM.out] at ho10 hbb ⊢
      exact bodyPost_ret (results_strand _ _ (w.heap.size + 1) x1 k z1 _ hbx rfl) rfl ⟨_, rfl, ho10.mono (by have := HBR.out; omega), hbb⟩
end Go.Proofs.Ytgaaddfipkdlaaa
