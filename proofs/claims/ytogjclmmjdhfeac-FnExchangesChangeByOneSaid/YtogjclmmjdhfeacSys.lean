/- The program's own systems: an array of partners and a size, in a struct. -/
import Derived.Test.YtogjclmmjdhfeacOwn
import Derived.Test.YtogjclmmjdhfeacNum
import Derived.Deep.QuietTactic
import Derived.BigQuiet
import Derived.Laws.CopyOwn
namespace Go.Proofs.Ytogjclmmjdhfeac
open Go.RowKit
set_option linter.unusedSimpArgs false
set_option linter.unusedVariables false

/-- the cells of a system -/
def sysL (l : List Int) : List Value := ints (l ++ List.replicate (12 - l.length) 0) ++ [.int .i64 l.length]
def sysC (l : List Int) : Array Value := (sysL l).toArray

theorem sysL_length {l : List Int} (h : l.length ≤ 12) : (sysL l).length = 13 := by simp [sysL, ints]; omega
theorem sysC_size {l : List Int} (h : l.length ≤ 12) : (sysC l).size = 13 := by simp [sysC, sysL_length h]

theorem sysC_get {l : List Int} (h : l.length ≤ 12) (i : Nat) (hi : i < 12) : (sysC l)[i]? = some (.int .i64 (l.getD i 0)) := by
  simp only [sysC, List.getElem?_toArray, sysL]
  have hlen : (ints (l ++ List.replicate (12 - l.length) 0)).length = 12 := by simp [ints]; omega
  rw [List.getElem?_append_left (by omega)]
  simp only [ints, List.getElem?_map, List.getElem?_append, List.getD, List.getElem?_replicate]
  by_cases h1 : i < l.length
  · simp [h1]
  · simp [h1, show i - l.length < 12 - l.length by omega]

theorem sysC_last {l : List Int} (h : l.length ≤ 12) : (sysC l)[12]? = some (.int .i64 (l.length : Int)) := by
  simp only [sysC, List.getElem?_toArray, sysL]
  have hlen : (ints (l ++ List.replicate (12 - l.length) 0)).length = 12 := by simp [ints]; omega
  rw [List.getElem?_append_right (by omega), hlen]
  rfl

theorem arrayLen12 : Try.prog.arrayLen 54 = 12 := by kernel_rfl
theorem arrayElem12 : Try.prog.elem 54 = 3 := by kernel_rfl
theorem arrayUnder12 : Try.prog.underlying 54 = some (.array 12 3) := by kernel_rfl

/-- 's.mate[:n]' -/
theorem run_mates (b n : Nat) (w : World) (hn : n ≤ 12) : (Instr.sliceAt 54 (.pointer (some ⟨b, 0, none⟩)) none (some (.int .i64 (n : Int))) none).run Try.prog w = .ok (.slice (some ⟨b, 0, none⟩) n 12) w := by
  have h := run_sliceAt_array_h (P := Try.prog) w 54 ⟨b, 0, none⟩ (by rw [arrayLen12, arrayElem12]; exact arrayUnder12) .i64 (n : Int) (by omega) (by rw [arrayLen12]; omega)
  rw [h, arrayLen12, arrayElem12]
  obtain ⟨i0, hi, hz0, hz1, hz2⟩ := info_parts Try.info3
  simp [sizeOf, typeInfo, hi, hz1, slicedAt, Result.andThen, Addr.add]
/-- 's.mate[:]' -/
theorem run_mates_all (b : Nat) (w : World) : (Instr.sliceAt 54 (.pointer (some ⟨b, 0, none⟩)) none none none).run Try.prog w = .ok (.slice (some ⟨b, 0, none⟩) 12 12) w := by
  have h := run_sliceAt_array_all (P := Try.prog) w 54 ⟨b, 0, none⟩ (by rw [arrayLen12, arrayElem12]; exact arrayUnder12)
  rw [h, arrayLen12, arrayElem12]
  obtain ⟨i0, hi, hz0, hz1, hz2⟩ := info_parts Try.info3
  simp [sizeOf, typeInfo, hi, hz1, slicedAt, Result.andThen, Addr.add]

def SysIn (w : World) (b : Nat) (l : List Int) : Prop := w.heap[b]? = some (.cells (sysC l) 56 (0, 0))

theorem SysIn.below {w w' : World} {b : Nat} {l : List Int} (h : SysIn w b l) (hb : Below w.heap.size w w') : SysIn w' b l :=
  (hb.block b (Array.getElem?_eq_some_iff.1 h).1).trans h
theorem SysIn.under {w w' : World} {b B : Nat} {l : List Int} (h : SysIn w b l) (hb : Below B w w') (hB : b < B) : SysIn w' b l := (hb.block b hB).trans h

theorem sys_info : (Try.prog.info? 56).map (·.size) = some 13 := by kernel_rfl
theorem infoInt1 : (Try.prog.info? 3).map (·.size) = some 1 := by kernel_rfl

theorem sysC_one (l : List Int) : (sysC l).all (·.oneCell') = true := by
  rw [Array.all_eq_true_iff_forall_mem]
  intro x hx
  simp only [sysC, sysL, ints, List.mem_toArray, List.mem_append, List.mem_map, List.mem_singleton] at hx
  rcases hx with ⟨y, _, rfl⟩ | rfl <;> rfl

/-- 'copy(v, u)': v the call's own, as long as u -/
theorem wp_copy {ops : Array Oper} {rest : List Oper} {o : Oper} {a : Act} {Q : Exit → Act → World → Prop} (w : World)
    (hgd : o.guard = none) (d s : Operand) (hop : o.op = Op.call { callee := Callee.builtin Builtin.copy, args := #[d, s], argTypes := #[24, 24] })
    (B g n cap : Nat) (u : Value) (l0 l1 : List Int) (hd : a.eval d = .slice (some ⟨g, 0, none⟩) n cap) (hs : a.eval s = u) (hown : Own B w (.slice (some ⟨g, 0, none⟩) n cap) l0) (hrd : Rd w u l1) (hlen : l1.length = n)
    (hK : ∀ w' x, Own B w' (.slice (some ⟨g, 0, none⟩) n cap) l1 → w.grownBy w' (some g) → Below B w w' → wpList Try.prog ops Q rest (a.put o.dst x) w') :
    wpList Try.prog ops Q (o :: rest) a w := by
  obtain ⟨ad, c, rfl, hlc, hcm, hn, hc⟩ := hrd
  have hown0 := hown
  rcases hown.2 with ⟨h0, _⟩ | ⟨g', cap', cur, hv, hB, hg, hnc, hcm', hcs, htake⟩
  · cases h0
  · simp only [Value.slice.injEq, Option.some.injEq, Addr.mk.injEq, and_true, true_and] at hv
    obtain ⟨rfl, hn2, rfl⟩ := hv
    rw [Nat.mul_one] at hcs htake
    by_cases hz : n = 0
    · subst hz
      refine wpList_copy_nothing hgd d s 24 24 hop 3 Try.underlying24 infoInt1 _ _ 0 cap l1.length c hd hs (by rw [hlen]; rfl) ?_
      have e1 : l1 = [] := List.eq_nil_of_length_eq_zero hlen
      have e0 : l0 = [] := List.eq_nil_of_length_eq_zero hn2.symm
      subst e1; subst e0
      exact hK w _ hown0 (World.grownBy.refl _ _) (Below.refl _ _)
    · rcases hc with rfl | ⟨b, off, rfl, hcell⟩
      · simp at hlen; omega
      refine wpList_copy_own hgd d s 24 24 hop 3 Try.underlying24 infoInt1 g 0 n cap ⟨b, off, none⟩ l1.length c hd hs cur 3 hg (ints l1) (by rw [ints_length, hlen]; exact (Nat.min_self n).symm) ?_ (by rw [ints_length]; omega) (ints_one _) ?_
      · intro j v hj
        have hjl : j < l1.length := by
          have := (List.getElem?_eq_some_iff.1 hj).1
          simpa [ints] using this
        rw [Addr.add_lit, hcell j hjl]
        simp [ints, List.getElem?_eq_getElem hjl] at hj
        simp [List.getD, List.getElem?_eq_getElem hjl, hj]
      · have hgr : w.grownBy (w.setRow g (cur.toList.take 0 ++ (ints l1 ++ cur.toList.drop (0 + (ints l1).length))).toArray) (some g) :=
          ⟨rfl, rfl, rfl, by simp, fun k _ hk => setRow_other w g k _ (fun e => hk (by simp [e]))⟩
        refine hK _ _ ?_ hgr (below_grown hgr (by have := (Array.getElem?_eq_some_iff.1 hg).1; omega) (by intro k hk; simp at hk; omega))
        refine ⟨by simp [ints], .inr ⟨g, cap, _, by rw [hlen], hB, setRow_heap w g _ _ _ _ hg, by omega, hcm', ?_, ?_⟩⟩
        · simp [ints_length]; omega
        · simp [ints]

/-- a whole system read out of a variable -/
theorem wp_loadSys {ops : Array Oper} {rest : List Oper} {o : Oper} {a : Act} {w : World} {Q : Exit → Act → World → Prop} (hgd : o.guard = none) (x : Operand) (ho : o.op = .load 56 x)
    (g : Nat) (l : List Int) (hl : l.length ≤ 12) (hx : a.eval x = .pointer (some ⟨g, 0, none⟩)) (hg : SysIn w g l)
    (h : wpList Try.prog ops Q rest (a.put o.dst (.agg (sysC l))) w) : wpList Try.prog ops Q (o :: rest) a w :=
  wpList_load_row hgd _ x ho g hx _ (sysC l) (0, 0) _ hg Try.underlying56 rfl (by rw [sys_info, sysC_size hl]) h

theorem wpList_wanted {P : Program} {ops : Array Oper} {rest : List Oper} {o : Oper} {a : Act} {w : World} {Q : Exit → Act → World → Prop} (hw : Region.wanted o (yielded ops a.tmps) = true)
    (h : ∀ K : Act → World → Prop, (∀ a w, wpList P ops Q rest a w → K a w) → o.wp P a w K Q) : wpList P ops Q (o :: rest) a w :=
  wpList_step fun K hK => by rw [if_pos hw]; exact h K hK

/-- the same where the load is guarded -/
theorem wp_loadSysG {ops : Array Oper} {rest : List Oper} {o : Oper} {a : Act} {w : World} {Q : Exit → Act → World → Prop} (x : Operand) (ho : o.op = .load 56 x)
    (g : Nat) (l : List Int) (hl : l.length ≤ 12) (hx : a.eval x = .pointer (some ⟨g, 0, none⟩)) (hg : SysIn w g l) (hw : Region.wanted o (yielded ops a.tmps) = true)
    (h : wpList Try.prog ops Q rest (a.put o.dst (.agg (sysC l))) w) : wpList Try.prog ops Q (o :: rest) a w :=
  wpList_wanted hw fun _ hK => wp_load_row _ x ho g hx _ (sysC l) (0, 0) _ hg Try.underlying56 rfl (by rw [sys_info, sysC_size hl]) (hK _ _ h)

/-- a whole system stored into a variable -/
theorem wp_storeSys {ops : Array Oper} {rest : List Oper} {o : Oper} {a : Act} {w : World} {Q : Exit → Act → World → Prop} (hgd : o.guard = none) (x y : Operand) (ho : o.op = .store 56 x y)
    (g : Nat) (l l0 : List Int) (hl : l.length ≤ 12) (hl0 : l0.length ≤ 12) (hx : a.eval x = .pointer (some ⟨g, 0, none⟩)) (hy : a.eval y = .agg (sysC l)) (hg : SysIn w g l0)
    (h : ∀ w', SysIn w' g l → w.grownBy w' (some g) → wpList Try.prog ops Q rest (a.put o.dst undef) w') : wpList Try.prog ops Q (o :: rest) a w := by
  refine wpList_store_row hgd _ x y ho g (sysC l) hx hy 56 (sysC l0) hg (by rw [sys_info, sysC_size hl]) (by rw [sysC_size hl, sysC_size hl0]) (sysC_one l) ?_
  refine h _ (setRow_heap w g _ _ _ _ hg) ⟨rfl, rfl, rfl, by simp, fun k _ hk => setRow_other w g k _ (fun e => hk (by simp [e]))⟩

/-- the empty system stored into a variable -/
theorem wp_storeSys0 {ops : Array Oper} {rest : List Oper} {o : Oper} {a : Act} {w : World} {Q : Exit → Act → World → Prop} (hgd : o.guard = none) (x y : Operand) (ho : o.op = .store 56 x y)
    (g : Nat) (l0 : List Int) (hl0 : l0.length ≤ 12) (hx : a.eval x = .pointer (some ⟨g, 0, none⟩)) (hy : a.eval y = .agg #[.int .i64 0, .int .i64 0, .int .i64 0, .int .i64 0, .int .i64 0, .int .i64 0, .int .i64 0, .int .i64 0, .int .i64 0, .int .i64 0, .int .i64 0, .int .i64 0, .int .i64 0]) (hg : SysIn w g l0)
    (h : ∀ w', SysIn w' g [] → w.grownBy w' (some g) → wpList Try.prog ops Q rest (a.put o.dst undef) w') : wpList Try.prog ops Q (o :: rest) a w :=
  wp_storeSys hgd x y ho g [] l0 (by simp) hl0 hx hy hg h

theorem SysIn.grown {w w' : World} {b g : Nat} {l : List Int} (h : SysIn w b l) (hg : w.grownBy w' (some g)) (hne : b ≠ g) : SysIn w' b l :=
  (hg.block b (Array.getElem?_eq_some_iff.1 h).1 (by simp; exact hne)).trans h

theorem SysIn.lt {w : World} {b : Nat} {l : List Int} (h : SysIn w b l) : b < w.heap.size := (Array.getElem?_eq_some_iff.1 h).1

theorem SysIn.rd {w : World} {b : Nat} {l : List Int} (h : SysIn w b l) (hl : l.length ≤ 12) : Rd w (.slice (some ⟨b, 0, none⟩) l.length 12) l := by
  refine ⟨_, 12, rfl, hl, by unfold maxLen; omega, by simp, .inr ⟨b, 0, rfl, fun k hk => ?_⟩⟩
  rw [Nat.zero_add, cell_of_row w b k _ _ _ h, sysC_get hl k (by omega)]

theorem SysIn.cell {w : World} {b : Nat} {l : List Int} (h : SysIn w b l) (hl : l.length ≤ 12) (k : Nat) (hk : k < 12) : w.cell? ⟨b, k, none⟩ = some (.int .i64 (l.getD k 0)) := by
  rw [cell_of_row w b k _ _ _ h, sysC_get hl k hk]
theorem SysIn.size {w : World} {b : Nat} {l : List Int} (h : SysIn w b l) (hl : l.length ≤ 12) : w.cell? ⟨b, 12, none⟩ = some (.int .i64 (l.length : Int)) := by
  rw [cell_of_row w b 12 _ _ _ h, sysC_last hl]
theorem SysIn.free {w : World} {b : Nat} {l : List Int} (h : SysIn w b l) (k : Nat) : w.frozen? ⟨b, k, none⟩ = false := frozen_of_row w b k _ _ h

set_option maxHeartbeats 1000000 in
theorem list_any (l : List Int) (w : World) (h : l.length ≤ 12) :
    Calls Try.prog 52 #[.agg (sysC l)] w fun e w' => ∃ v', e = .returned v' ∧ Own w.heap.size w' v' l ∧ Below w.heap.size w w' := by
  have hlast := sysC_last h
  obtain ⟨n, hn⟩ : ∃ n, n = l.length := ⟨_, rfl⟩
  rw [← hn] at hlast h
  have HN := Lib.hid hn; clear hn
  have hal := fun b w => run_mates b n w h
  have hsys : SysIn (w.alloc (.cells (sysC l) 56)) w.heap.size l := heap_alloc_new w _
  go_enter Try.func52, Try.ntmps52
  go_wp2_with (first
    | (at_make; refine wp_make _ rfl _ _ rfl n _ _ rfl rfl rfl rfl (by omega) ?_; intro w1 hown hbel hsz; have hsys1 := hsys.below hbel; have hcs := hsys1.size (by rw [← HN.out]; exact h); rw [← HN.out] at hcs; have hrd := hsys1.rd (by rw [← HN.out]; exact h); rw [← HN.out] at hrd; simp only [World.size_alloc] at hown)
    | ((with_reducible refine wp_copy _ rfl (.tmp 7) (.tmp 11) rfl (w.heap.size + 1) (w.heap.size + 1) n n (.slice (some ⟨w.heap.size, 0, none⟩) n 12) (List.replicate n 0) l rfl rfl hown hrd HN.out.symm ?_); intro w2 x hown2 hgr hbel2))
  go_ret
  refine ⟨_, rfl, hown2.mono (by omega), ((Below.alloc1 w _).trans (hbel.mono (by simp))).trans (hbel2.mono (by omega))⟩

set_option maxHeartbeats 1000000 in
theorem isPaired_any (l : List Int) (R : Bool) (w : World) (h : l.length ≤ 12) (hR : allFrom (pairB l) 0 l.length = R) :
    Calls Try.prog 87 #[.agg (sysC l)] w fun e w' => e = .returned (.bool R) ∧ Below w.heap.size w w' := by
  have hlast := sysC_last h
  obtain ⟨n, hn⟩ : ∃ n, n = l.length := ⟨_, rfl⟩
  rw [← hn] at hlast hR h
  have HG := Lib.hid (fun i hi => sysC_get (l := l) (by rw [← hn]; exact h) i hi)
  have HN := Lib.hid hn; clear hn
  have HR := Lib.hid hR; clear hR
  have hal := fun b w => run_mates b n w h
  go_enter Try.func87, Try.ntmps87
  go_wp2
  clear hal
  go_loop [10] (fun i => ∃ k : Nat, k ≤ n ∧ i = .int .i64 k ∧ Hid (allFrom (pairB l) k (n - k) = R)) (fun i => n - (intOf i).toNat)
  case atStart => exact ⟨0, by omega, rfl, HR.out⟩
  case round =>
    obtain ⟨k, hk, rfl, HK⟩ := hrel
    clear HR
    by_cases hlt : k < n
    · have hc1 := HG.out k (by omega)
      have hK := HK.out
      rw [show n - k = (n - (k + 1)) + 1 by omega] at hK
      clear HK
      by_cases h1 : 0 ≤ l.getD k 0
      · by_cases h2 : l.getD k 0 < (n : Int)
        · have e1 := par_int h1
          obtain ⟨j, hj⟩ : ∃ j, j = par l k := ⟨_, rfl⟩
          have hjn : j < n := by omega
          have hc2 := HG.out j (by omega)
          by_cases h3 : j = k
          · have HK := Lib.hid (allFrom_no hK (by simp only [pairB, Bool.and_eq_false_iff, decide_eq_false_iff_not]; exact .inl (.inr (by omega)))); clear hK
            rw [← e1, ← hj, h3] at hc1
            clear h1 h2 e1 hj hc2 h3 hjn
            go_wp2
            go_ret
            exact ⟨by rw [HK.out]; rfl, Below.alloc1 _ _⟩
          · by_cases h4 : l.getD j 0 = (k : Int)
            · have HK := Lib.hid (allFrom_yes hK (by simp only [pairB, Bool.and_eq_true, decide_eq_true_eq]; exact ⟨⟨⟨h1, by rw [← HN.out]; exact h2⟩, by omega⟩, by rw [← hj]; exact h4⟩)); clear hK
              rw [← e1, ← hj] at hc1
              rw [h4] at hc2
              clear h1 h2 e1 hj h4
              have h5 : ((j : Int) == (k : Int)) = false := by simp; omega
              go_wp2
              go_round
              case rel => exact ⟨k + 1, by omega, by go_num, HK.out⟩
              case measure => simp [intOf]; omega
            · have HK := Lib.hid (allFrom_no hK (by simp only [pairB, Bool.and_eq_false_iff, decide_eq_false_iff_not]; exact .inr (by rw [← hj]; exact h4))); clear hK
              rw [← e1, ← hj] at hc1
              generalize l.getD j 0 = y at hc2 h4
              clear h1 h2 e1 hj
              have h5 : ((j : Int) == (k : Int)) = false := by simp; omega
              have h6 : (y != (k : Int)) = true := by simp; omega
              clear h4
              go_wp2
              go_ret
              exact ⟨by rw [HK.out]; rfl, Below.alloc1 _ _⟩
        · have HK := Lib.hid (allFrom_no hK (by simp only [pairB, Bool.and_eq_false_iff, decide_eq_false_iff_not]; exact .inl (.inl (.inr (by rw [← HN.out]; exact h2))))); clear hK
          generalize l.getD k 0 = x at hc1 h1 h2
          go_wp2
          go_ret
          exact ⟨by rw [HK.out]; rfl, Below.alloc1 _ _⟩
      · have HK := Lib.hid (allFrom_no hK (by simp only [pairB, Bool.and_eq_false_iff, decide_eq_false_iff_not]; exact .inl (.inl (.inl h1)))); clear hK
        generalize l.getD k 0 = x at hc1 h1
        go_wp2
        go_ret
        exact ⟨by rw [HK.out]; rfl, Below.alloc1 _ _⟩
    · obtain rfl : k = n := by omega
      go_wp2
      go_ret
      have hK := HK.out
      rw [Nat.sub_self] at hK
      exact ⟨by rw [← hK]; rfl, Below.alloc1 _ _⟩

set_option maxHeartbeats 1000000 in
theorem crosses_any (l : List Int) (R : Bool) (w : World) (h : l.length ≤ 12) (hr : rangeB l = true) (hR : allFrom (freeB l) 0 l.length = R) :
    Calls Try.prog 88 #[.agg (sysC l)] w fun e w' => e = .returned (.bool (!R)) ∧ Below w.heap.size w w' := by
  have hlast := sysC_last h
  have HRng := Lib.hid ((allFrom_iff _ _ _).1 hr); clear hr
  obtain ⟨n, hn⟩ : ∃ n, n = l.length := ⟨_, rfl⟩
  rw [← hn] at hlast hR h HRng
  have HG := Lib.hid (fun i hi => sysC_get (l := l) (by rw [← hn]; exact h) i hi)
  have HN := Lib.hid hn; clear hn
  have HR := Lib.hid hR; clear hR
  go_enter Try.func88, Try.ntmps88
  go_wp2
  go_loopw [7] (fun i wr => ∃ k q : Nat, k ≤ n ∧ i = .int .i64 k ∧ wr = (w.alloc (.cells (sysC l) 56)).drewN q ∧ Hid (allFrom (freeB l) k (n - k) = R)) (fun i _ => n - (intOf i).toNat)
  case atStart => exact ⟨0, 0, by omega, rfl, rfl, HR.out⟩
  case round =>
    obtain ⟨k, q, hk, rfl, rfl, HK⟩ := hrel
    clear HR
    by_cases hlt : k < n
    · have hr1 := inB_iff.1 (HRng.out k (by omega) (by omega))
      have e1 := par_int hr1.1
      obtain ⟨j, hj⟩ : ∃ j, j = par l k := ⟨_, rfl⟩
      have hjn : j < n := by omega
      have hc1 := HG.out k (by omega)
      have hK := HK.out
      rw [show n - k = (n - (k + 1)) + 1 by omega] at hK
      clear HK
      have hF : freeB l k = allFrom (fun t => decide (l.getD t 0 ≤ l.getD k 0)) (k + 1) (j - (k + 1)) := by rw [hj]; rfl
      have HK := Lib.hid hK; clear hK
      have HF := Lib.hid hF; clear hF
      have HE := Lib.hid (e1.symm.trans (congrArg _ hj.symm)); clear e1 hr1 hj
      rw [HE.out] at hc1
      go_wp2
      go_loopw [4] (fun i wr => ∃ t q : Nat, k + 1 ≤ t ∧ (t ≤ j ∨ t = k + 1) ∧ i = .int .i64 t ∧ wr = (w.alloc (.cells (sysC l) 56)).drewN q ∧ Hid (allFrom (fun t => decide (l.getD t 0 ≤ l.getD k 0)) t (j - t) = freeB l k)) (fun i _ => j - (intOf i).toNat)
      case atStart => exact ⟨k + 1, q, by omega, by omega, rfl, rfl, HF.out.symm⟩
      case round =>
        obtain ⟨t, q2, ht1, ht2, rfl, rfl, HT⟩ := hrel
        clear HF
        by_cases htj : t < j
        · have hc2 := HG.out t (by omega)
          have hT := HT.out
          rw [show j - t = (j - (t + 1)) + 1 by omega] at hT
          clear HT
          by_cases h4 : l.getD t 0 ≤ (j : Int)
          · have HT := Lib.hid (allFrom_yes hT (by rw [HE.out]; exact decide_eq_true h4)); clear hT
            generalize l.getD t 0 = y at hc2 h4
            have h5 : ¬ ((j : Int) < y) := by omega
            go_wp2
            go_quiet (fail)
            go_wp2
            go_roundw
            case rel => exact ⟨t + 1, _, by omega, by omega, by go_num, rfl, HT.out⟩
            case measure => simp [intOf]; omega
          · have HT := Lib.hid (allFrom_no HK.out (allFrom_no hT (by rw [HE.out]; exact decide_eq_false h4))); clear hT
            generalize l.getD t 0 = y at hc2 h4
            have h5 : (j : Int) < y := by omega
            go_wp2
            go_quiet (fail)
            go_wp2
            go_ret
            exact ⟨by rw [HT.out]; rfl, by repeat (first | exact Below.alloc1 _ _ | refine below_drewN ?_ _)⟩
        · have hT := HT.out
          rw [show j - t = 0 by omega] at hT
          have HK2 := Lib.hid (allFrom_yes HK.out hT.symm); clear hT HT
          go_wp2
          go_roundw
          case rel => exact ⟨k + 1, _, by omega, by go_num, rfl, HK2.out⟩
          case measure => simp [intOf]; omega
    · obtain rfl : k = n := by omega
      go_wp2
      go_ret
      have hK := HK.out
      rw [Nat.sub_self] at hK
      exact ⟨by rw [← hK]; rfl, by repeat (first | exact Below.alloc1 _ _ | refine below_drewN ?_ _)⟩

end Go.Proofs.Ytogjclmmjdhfeac
