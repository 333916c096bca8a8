/- Pairs of systems: the program's and the model's. -/
/- readPair: two systems in a struct. -/
import Derived.Test.YtogjclmmjdhfeacRead
import Derived.Test.YtogjclmmjdhfeacGood
import Derived.Test.YtogjclmmjdhfeacMeander
import Derived.Test.YtogjclmmjdhfeacJoin
namespace Go.Proofs.Ytogjclmmjdhfeac
open Go.RowKit
set_option linter.unusedSimpArgs false
set_option linter.unusedVariables false

def pairOk (t b : List Int) : Bool := goodB t && goodB b && decide (t.length = b.length)
def archedB (t b : List Int) : Bool := pairOk t b && decide (0 < t.length)
theorem pairOk_facts {t b : List Int} (h : pairOk t b = true) : goodB t = true ∧ goodB b = true ∧ t.length = b.length := by
  simp only [pairOk, Bool.and_eq_true, decide_eq_true_eq] at h
  exact ⟨h.1.1, h.1.2, h.2⟩

theorem mePair_any (t b : List Int) (w : World) (u1 u2 : Value) (h1 : Rd w u1 t) (h2 : Rd w u2 b) (m1 : t.length ≤ 1048576) (m2 : b.length ≤ 1048576) :
    Calls Try.prog 76 #[.agg #[u1, u2]] w (Tells w (pairOk t b)) := by
  have hg1 := fun w h => ahGood_any u1 t w h m1
  have hg2 := fun w h => ahGood_any u2 b w h m2
  have hA := Box2.new 26 w u1 u2
  have B1 : Below w.heap.size w (w.alloc (.cells #[u1, u2] 26)) := Below.alloc1 w _
  have k0 := hA.c0; have k1 := hA.c1
  have HA := Lib.hid hA; have HB := Lib.hid B1; have H1 := Lib.hid (h1.below B1); have H2 := Lib.hid (h2.below B1)
  unfold pairOk
  clear hA B1
  cases e1 : goodB t with
  | false =>
    simp only [e1] at hg1
    have HG1 := Lib.hid hg1
    clear hg1 hg2 h1 h2 e1
    go_enter Try.func76, Try.ntmps76
    go_wp2_with (go_at_call 46; ((with_reducible refine (HG1.out _ H1.out).mono ?_); rintro e w1 ⟨rfl, hb1⟩))
    go_ret
    exact ⟨rfl, Below.step HB.out hb1⟩
  | true =>
    simp only [e1] at hg1
    cases e2 : goodB b with
    | false =>
      simp only [e2] at hg2
      have HG1 := Lib.hid hg1; have HG2 := Lib.hid hg2
      clear hg1 hg2 h1 h2 e1 e2
      go_enter Try.func76, Try.ntmps76
      go_wp2_with (first
        | (go_at_call 46; ((with_reducible refine (HG1.out _ H1.out).mono ?_); rintro e w1 ⟨rfl, hb1⟩; have m1 := (HA.out.below hb1).c1))
        | (go_at_call 46; ((with_reducible refine (HG2.out _ (H2.out.below hb1)).mono ?_); rintro e w2 ⟨rfl, hb2⟩)))
      go_ret
      exact ⟨rfl, Below.step (Below.step HB.out hb1) hb2⟩
    | true =>
      simp only [e2] at hg2
      have HG1 := Lib.hid hg1; have HG2 := Lib.hid hg2
      obtain ⟨a1, c1, rfl, hlc1, hcm1, _, _⟩ := h1
      obtain ⟨a2, c2, rfl, hlc2, hcm2, _, _⟩ := h2
      unfold maxLen at hcm1 hcm2
      generalize t.length = n1 at *
      generalize b.length = n2 at *
      by_cases hn : n1 = n2
      · have hq : ((n1 : Int) == (n2 : Int)) = true := by simp; omega
        rw [decide_eq_true hn]
        clear hg1 hg2 e1 e2 hn
        go_enter Try.func76, Try.ntmps76
        go_wp2_with (first
          | (go_at_call 46; ((with_reducible refine (HG1.out _ H1.out).mono ?_); rintro e w1 ⟨rfl, hb1⟩; have m1 := (HA.out.below hb1).c1))
          | (go_at_call 46; ((with_reducible refine (HG2.out _ (H2.out.below hb1)).mono ?_); rintro e w2 ⟨rfl, hb2⟩; have r0 := ((HA.out.below hb1).below hb2).c0; have r1 := ((HA.out.below hb1).below hb2).c1)))
        go_ret
        exact ⟨rfl, Below.step (Below.step HB.out hb1) hb2⟩
      · have hq : ((n1 : Int) == (n2 : Int)) = false := by simp; omega
        rw [decide_eq_false hn]
        clear hg1 hg2 e1 e2 hn
        go_enter Try.func76, Try.ntmps76
        go_wp2_with (first
          | (go_at_call 46; ((with_reducible refine (HG1.out _ H1.out).mono ?_); rintro e w1 ⟨rfl, hb1⟩; have m1 := (HA.out.below hb1).c1))
          | (go_at_call 46; ((with_reducible refine (HG2.out _ (H2.out.below hb1)).mono ?_); rintro e w2 ⟨rfl, hb2⟩; have r0 := ((HA.out.below hb1).below hb2).c0; have r1 := ((HA.out.below hb1).below hb2).c1)))
        go_ret
        exact ⟨rfl, Below.step (Below.step HB.out hb1) hb2⟩

end Go.Proofs.Ytogjclmmjdhfeac

namespace Go.Proofs.Ytogjclmmjdhfeac
open Go.RowKit
set_option linter.unusedSimpArgs false
set_option linter.unusedVariables false

def pairC (t b : List Int) : Array Value := #[sysV t 0, sysV t 1, sysV t 2, sysV t 3, sysV t 4, sysV t 5, sysV t 6, sysV t 7, sysV t 8, sysV t 9, sysV t 10, sysV t 11, sysV t 12, sysV b 0, sysV b 1, sysV b 2, sysV b 3, sysV b 4, sysV b 5, sysV b 6, sysV b 7, sysV b 8, sysV b 9, sysV b 10, sysV b 11, sysV b 12]
theorem pairC_size (t b : List Int) : (pairC t b).size = 26 := rfl
theorem pair_info : (Try.prog.info? 58).map (·.size) = some 26 := by kernel_rfl
theorem sysV_one (l : List Int) (i : Nat) : (sysV l i).oneCell' = true := by unfold sysV; split <;> rfl
theorem pairC_one (t b : List Int) : (pairC t b).all (·.oneCell') = true := by
  simp [pairC, sysV_one]
def PairIn (w : World) (g : Nat) (t b : List Int) : Prop := w.heap[g]? = some (.cells (pairC t b) 58 (0, 0))
theorem PairIn.below {w w' : World} {g : Nat} {t b : List Int} (h : PairIn w g t b) (hb : Below w.heap.size w w') : PairIn w' g t b := (hb.block g (Array.getElem?_eq_some_iff.1 h).1).trans h
theorem PairIn.lt {w : World} {g : Nat} {t b : List Int} (h : PairIn w g t b) : g < w.heap.size := (Array.getElem?_eq_some_iff.1 h).1
theorem PairIn.grown {w w' : World} {g : Nat} {t b : List Int} {row : Option Nat} (h : PairIn w g t b) (hg : w.grownBy w' row) (hne : some g ≠ row) : PairIn w' g t b := (hg.block g (Array.getElem?_eq_some_iff.1 h).1 hne).trans h

/-- a system read out of a variable, its cells one by one -/
theorem wp_loadLit {ops : Array Oper} {rest : List Oper} {o : Oper} {a : Act} {w : World} {Q : Exit → Act → World → Prop} (hgd : o.guard = none) (x : Operand) (ho : o.op = .load 56 x)
    (g : Nat) (l : List Int) (hl : l.length ≤ 12) (hx : a.eval x = .pointer (some ⟨g, 0, none⟩)) (hg : SysIn w g l)
    (h : wpList Try.prog ops Q rest (a.put o.dst (.agg #[sysV l 0, sysV l 1, sysV l 2, sysV l 3, sysV l 4, sysV l 5, sysV l 6, sysV l 7, sysV l 8, sysV l 9, sysV l 10, sysV l 11, sysV l 12])) w) : wpList Try.prog ops Q (o :: rest) a w :=
  wp_loadSys hgd x ho g l hl hx hg (by rw [sysC_lit hl]; exact h)

/-- a pair stored into a variable -/
theorem wp_storePair {ops : Array Oper} {rest : List Oper} {o : Oper} {a : Act} {w : World} {Q : Exit → Act → World → Prop} (hgd : o.guard = none) (x y : Operand) (ho : o.op = .store 58 x y)
    (g : Nat) (t b t0 b0 : List Int) (hx : a.eval x = .pointer (some ⟨g, 0, none⟩)) (hy : a.eval y = .agg (pairC t b)) (hg : PairIn w g t0 b0)
    (h : ∀ w', PairIn w' g t b → w.grownBy w' (some g) → wpList Try.prog ops Q rest (a.put o.dst undef) w') : wpList Try.prog ops Q (o :: rest) a w := by
  refine wpList_store_row hgd _ x y ho g (pairC t b) hx hy 58 (pairC t0 b0) hg (by rw [pair_info, pairC_size]) (by rw [pairC_size, pairC_size]) (pairC_one t b) ?_
  refine h _ (setRow_heap w g _ _ _ _ hg) ⟨rfl, rfl, rfl, by simp, fun k _ hk => setRow_other w g k _ (fun e => hk (by simp [e]))⟩

theorem run_loadPair (w : World) (g : Nat) (t b : List Int) (hg : PairIn w g t b) : (loadVar 58 ⟨g, 0, none⟩).run Try.prog w = .ok (.agg (pairC t b)) w :=
  run_loadVar_row w g _ _ (pairC t b) _ _ hg Try.underlying58 rfl (by rw [pair_info, pairC_size])

theorem results_pair (tmps : Array Value) (w : World) (g : Nat) (t b : List Int) (ok : Bool) (hg : PairIn w g t b) (h2 : tmps.getD 2 undef = .pointer (some ⟨g, 0, none⟩)) (h3 : tmps.getD 3 undef = .bool ok) :
    (results Try.f53 tmps).run Try.prog w = .ok (.tuple #[.agg (pairC t b), .bool ok]) w := by
  have h2' : tmps[2]?.getD undef = .pointer (some ⟨g, 0, none⟩) := by simpa using h2
  have h3' : tmps[3]?.getD undef = .bool ok := by simpa using h3
  have hr : Try.f53.results = #[.cell 2 58, .tmp 3] := by kernel_rfl
  simp [results, hr, h2', h3', asAddr, run_loadPair w g t b hg]

def PairOut (w : World) (t b : List Int) (ok : Bool) (e : Ending) (w' : World) : Prop := e = .returned (.tuple #[.agg (pairC t b), .bool ok]) ∧ Below w.heap.size w w'

theorem pair_zero (w : World) : PairIn (w.alloc (.cells #[.int .i64 0, .int .i64 0, .int .i64 0, .int .i64 0, .int .i64 0, .int .i64 0, .int .i64 0, .int .i64 0, .int .i64 0, .int .i64 0, .int .i64 0, .int .i64 0, .int .i64 0, .int .i64 0, .int .i64 0, .int .i64 0, .int .i64 0, .int .i64 0, .int .i64 0, .int .i64 0, .int .i64 0, .int .i64 0, .int .i64 0, .int .i64 0, .int .i64 0, .int .i64 0] 58)) w.heap.size [] [] := heap_alloc_new w _
def zeroQ : Array Value := #[.int .i64 0, .int .i64 0, .int .i64 0, .int .i64 0, .int .i64 0, .int .i64 0, .int .i64 0, .int .i64 0, .int .i64 0, .int .i64 0, .int .i64 0, .int .i64 0, .int .i64 0, .int .i64 0, .int .i64 0, .int .i64 0, .int .i64 0, .int .i64 0, .int .i64 0, .int .i64 0, .int .i64 0, .int .i64 0, .int .i64 0, .int .i64 0, .int .i64 0, .int .i64 0]
theorem zero_in (w : World) : PairIn (w.alloc (.cells zeroQ 58)) w.heap.size [] [] := heap_alloc_new w _
theorem wp_storePairN {ops : Array Oper} {rest : List Oper} {o : Oper} {a : Act} {w : World} {Q : Exit → Act → World → Prop} (hgd : o.guard = none) (x y : Operand) (ho : o.op = .store 58 x y)
    (t b : List Int) (hx : a.eval x = .pointer (some ⟨w.heap.size, 0, none⟩)) (hy : a.eval y = .agg (pairC t b))
    (h : ∀ w', PairIn w' w.heap.size t b → Below w.heap.size w w' → wpList Try.prog ops Q rest (a.put o.dst undef) w') : wpList Try.prog ops Q (o :: rest) a (w.alloc (.cells #[.int .i64 0, .int .i64 0, .int .i64 0, .int .i64 0, .int .i64 0, .int .i64 0, .int .i64 0, .int .i64 0, .int .i64 0, .int .i64 0, .int .i64 0, .int .i64 0, .int .i64 0, .int .i64 0, .int .i64 0, .int .i64 0, .int .i64 0, .int .i64 0, .int .i64 0, .int .i64 0, .int .i64 0, .int .i64 0, .int .i64 0, .int .i64 0, .int .i64 0, .int .i64 0] 58)) := by
  refine wp_storePair hgd x y ho w.heap.size t b [] [] hx hy (pair_zero w) ?_
  intro w' hs hg
  exact h w' hs ((Below.alloc1 w _).grown hg (by simp) (by intro k hk; simp at hk; omega))

set_option maxHeartbeats 4000000 in
theorem readPair_run (t b lt lb : List Int) (o1 o2 : Bool) (R : Bool) (w : World) (u1 u2 : Value) (h1 : Rd w u1 t) (h2 : Rd w u2 b)
    (c1 : ∀ w, Rd w u1 t → Calls Try.prog 49 #[u1] w (ReadOut w lt o1)) (c2 : ∀ w, Rd w u2 b → Calls Try.prog 49 #[u2] w (ReadOut w lb o2)) (l1 : lt.length ≤ 12) (l2 : lb.length ≤ 12)
    (hR : (o1 && o2 && decide (lt.length = lb.length)) = R) :
    Calls Try.prog 53 #[.agg #[u1, u2]] w (PairOut w (if R then lt else []) (if R then lb else []) R) := by
  have B0 : Below w.heap.size w (w.alloc (.cells #[u1, u2] 26)) := Below.alloc1 w _
  have B1 := Below.step B0 (Below.alloc1 _ (.cells #[.int .i64 0, .int .i64 0, .int .i64 0, .int .i64 0, .int .i64 0, .int .i64 0, .int .i64 0, .int .i64 0, .int .i64 0, .int .i64 0, .int .i64 0, .int .i64 0, .int .i64 0, .int .i64 0, .int .i64 0, .int .i64 0, .int .i64 0, .int .i64 0, .int .i64 0, .int .i64 0, .int .i64 0, .int .i64 0, .int .i64 0, .int .i64 0, .int .i64 0, .int .i64 0] 58))
  have hA := Box2.below (Box2.new 26 w u1 u2) (Below.alloc1 _ (.cells #[.int .i64 0, .int .i64 0, .int .i64 0, .int .i64 0, .int .i64 0, .int .i64 0, .int .i64 0, .int .i64 0, .int .i64 0, .int .i64 0, .int .i64 0, .int .i64 0, .int .i64 0, .int .i64 0, .int .i64 0, .int .i64 0, .int .i64 0, .int .i64 0, .int .i64 0, .int .i64 0, .int .i64 0, .int .i64 0, .int .i64 0, .int .i64 0, .int .i64 0, .int .i64 0] 58))
  have hP := pair_zero (w.alloc (.cells #[u1, u2] 26))
  rw [World.size_alloc] at hP
  have k0 := hA.c0; have k1 := hA.c1
  have HA := Lib.hid hA; have HP := Lib.hid hP; have HB := Lib.hid B1; have H1 := Lib.hid (h1.below B1); have H2 := Lib.hid (h2.below B1); have C1 := Lib.hid c1; have C2 := Lib.hid c2; have L1 := Lib.hid l1; have L2 := Lib.hid l2
  obtain ⟨n1, hn1⟩ : ∃ n, n = lt.length := ⟨_, rfl⟩
  obtain ⟨n2, hn2⟩ : ∃ n, n = lb.length := ⟨_, rfl⟩
  have N1 := Lib.hid hn1; have N2 := Lib.hid hn2
  rw [← hn1, ← hn2] at hR
  clear hA hP B0 B1 h1 h2 c1 c2 l1 l2 hn1 hn2
  cases o1
  · obtain rfl : R = false := by rw [← hR]; rfl
    clear hR
    go_enter Try.func53, Try.ntmps53
    go_wp2_with fail
    refine (C1.out _ H1.out).mono ?_
    rintro e w1 ⟨rfl, hb1⟩
    have m1 := (HA.out.below hb1).c1
    have HP1 := Lib.hid (HP.out.below hb1); have HA1 := Lib.hid (HA.out.below hb1); have HB1 := Lib.hid (Below.step HB.out hb1); have H21 := Lib.hid (H2.out.below hb1)
    clear hb1
    go_wp2_with ((with_reducible refine wp_storeNew rfl (.tmp 4) (.tmp 12) rfl _ lt L1.out rfl rfl ?_); intro w2 hs2 hb2; have m2 := (HA1.out.below hb2).c1; have HS2 := Lib.hid hs2; have HP2 := Lib.hid (HP1.out.below hb2); have HB2 := Lib.hid (Below.step HB1.out hb2); have H22 := Lib.hid (H21.out.below hb2); clear hs2 hb2)
    refine (C2.out _ H22.out).mono ?_
    rintro e w3 ⟨rfl, hb3⟩
    have HS3 := Lib.hid (HS2.out.below hb3); have HP3 := Lib.hid (HP2.out.below hb3); have HB3 := Lib.hid (Below.step HB2.out hb3)
    clear hb3
    go_wp2_with (first
      | ((with_reducible refine wp_storeNew rfl (.tmp 6) (.tmp 18) rfl _ lb L2.out rfl rfl ?_); intro w4 hs4 hb4; have HS4 := Lib.hid (HS3.out.below hb4); have HS5 := Lib.hid hs4; have HP4 := Lib.hid (HP3.out.below hb4); have HB4 := Lib.hid (Below.step HB3.out hb4); clear hs4 hb4)
      | ((with_reducible refine wp_storePair rfl (.tmp 2) (.tmp 33) rfl (w.heap.size + 1) [] [] [] [] rfl rfl HP4.out ?_); intro w5 hp5 hg5))
    exact bodyPost_ret (results_pair _ _ (w.heap.size + 1) [] [] false hp5 rfl rfl) rfl ⟨rfl, HB4.out.grown hg5 HB4.out.size (by intro k hk; simp at hk; omega)⟩
  · cases o2
    · obtain rfl : R = false := by rw [← hR]; rfl
      clear hR
      go_enter Try.func53, Try.ntmps53
      go_wp2_with fail
      refine (C1.out _ H1.out).mono ?_
      rintro e w1 ⟨rfl, hb1⟩
      have m1 := (HA.out.below hb1).c1
      have HP1 := Lib.hid (HP.out.below hb1); have HA1 := Lib.hid (HA.out.below hb1); have HB1 := Lib.hid (Below.step HB.out hb1); have H21 := Lib.hid (H2.out.below hb1)
      clear hb1
      go_wp2_with ((with_reducible refine wp_storeNew rfl (.tmp 4) (.tmp 12) rfl _ lt L1.out rfl rfl ?_); intro w2 hs2 hb2; have m2 := (HA1.out.below hb2).c1; have HS2 := Lib.hid hs2; have HP2 := Lib.hid (HP1.out.below hb2); have HB2 := Lib.hid (Below.step HB1.out hb2); have H22 := Lib.hid (H21.out.below hb2); clear hs2 hb2)
      refine (C2.out _ H22.out).mono ?_
      rintro e w3 ⟨rfl, hb3⟩
      have HS3 := Lib.hid (HS2.out.below hb3); have HP3 := Lib.hid (HP2.out.below hb3); have HB3 := Lib.hid (Below.step HB2.out hb3)
      clear hb3
      go_wp2_with (first
        | ((with_reducible refine wp_storeNew rfl (.tmp 6) (.tmp 18) rfl _ lb L2.out rfl rfl ?_); intro w4 hs4 hb4; have HS4 := Lib.hid (HS3.out.below hb4); have HS5 := Lib.hid hs4; have HP4 := Lib.hid (HP3.out.below hb4); have HB4 := Lib.hid (Below.step HB3.out hb4); clear hs4 hb4)
        | ((with_reducible refine wp_storePair rfl (.tmp 2) (.tmp 33) rfl (w.heap.size + 1) [] [] [] [] rfl rfl HP4.out ?_); intro w5 hp5 hg5))
      exact bodyPost_ret (results_pair _ _ (w.heap.size + 1) [] [] false hp5 rfl rfl) rfl ⟨rfl, HB4.out.grown hg5 HB4.out.size (by intro k hk; simp at hk; omega)⟩
    · by_cases hn : n1 = n2
      · obtain rfl : R = true := by rw [← hR, decide_eq_true hn]; rfl
        have hq : ((n1 : Int) != (n2 : Int)) = false := by simp; omega
        clear hR hn
        go_enter Try.func53, Try.ntmps53
        go_wp2_with fail
        refine (C1.out _ H1.out).mono ?_
        rintro e w1 ⟨rfl, hb1⟩
        have m1 := (HA.out.below hb1).c1
        have HP1 := Lib.hid (HP.out.below hb1); have HA1 := Lib.hid (HA.out.below hb1); have HB1 := Lib.hid (Below.step HB.out hb1); have H21 := Lib.hid (H2.out.below hb1)
        clear hb1
        go_wp2_with ((with_reducible refine wp_storeNew rfl (.tmp 4) (.tmp 12) rfl _ lt L1.out rfl rfl ?_); intro w2 hs2 hb2; have m2 := (HA1.out.below hb2).c1; have HS2 := Lib.hid hs2; have HP2 := Lib.hid (HP1.out.below hb2); have HB2 := Lib.hid (Below.step HB1.out hb2); have H22 := Lib.hid (H21.out.below hb2); clear hs2 hb2)
        refine (C2.out _ H22.out).mono ?_
        rintro e w3 ⟨rfl, hb3⟩
        have HS3 := Lib.hid (HS2.out.below hb3); have HP3 := Lib.hid (HP2.out.below hb3); have HB3 := Lib.hid (Below.step HB2.out hb3)
        clear hb3
        go_wp2_with (first
          | ((with_reducible refine wp_storeNew rfl (.tmp 6) (.tmp 18) rfl _ lb L2.out rfl rfl ?_); intro w4 hs4 hb4; have HS4 := Lib.hid (HS3.out.below hb4); have HS5 := Lib.hid hs4; have HP4 := Lib.hid (HP3.out.below hb4); have HB4 := Lib.hid (Below.step HB3.out hb4); have z1 := HS4.out.size L1.out; have z2 := HS5.out.size L2.out; rw [← N1.out] at z1; rw [← N2.out] at z2; clear hs4 hb4)
          | (with_reducible refine wp_loadLit rfl (.tmp 4) rfl w1.heap.size lt L1.out rfl HS4.out ?_)
          | (with_reducible refine wp_loadLit rfl (.tmp 6) rfl w3.heap.size lb L2.out rfl HS5.out ?_)
          | ((with_reducible refine wp_storePair rfl (.tmp 2) (.tmp 36) rfl (w.heap.size + 1) lt lb [] [] rfl rfl HP4.out ?_); intro w5 hp5 hg5))
        exact bodyPost_ret (results_pair _ _ (w.heap.size + 1) lt lb true hp5 rfl rfl) rfl ⟨rfl, HB4.out.grown hg5 HB4.out.size (by intro k hk; simp at hk; omega)⟩
      · obtain rfl : R = false := by rw [← hR, decide_eq_false hn]; rfl
        have hq : ((n1 : Int) != (n2 : Int)) = true := by simp; omega
        clear hR hn
        go_enter Try.func53, Try.ntmps53
        go_wp2_with fail
        refine (C1.out _ H1.out).mono ?_
        rintro e w1 ⟨rfl, hb1⟩
        have m1 := (HA.out.below hb1).c1
        have HP1 := Lib.hid (HP.out.below hb1); have HA1 := Lib.hid (HA.out.below hb1); have HB1 := Lib.hid (Below.step HB.out hb1); have H21 := Lib.hid (H2.out.below hb1)
        clear hb1
        go_wp2_with ((with_reducible refine wp_storeNew rfl (.tmp 4) (.tmp 12) rfl _ lt L1.out rfl rfl ?_); intro w2 hs2 hb2; have m2 := (HA1.out.below hb2).c1; have HS2 := Lib.hid hs2; have HP2 := Lib.hid (HP1.out.below hb2); have HB2 := Lib.hid (Below.step HB1.out hb2); have H22 := Lib.hid (H21.out.below hb2); clear hs2 hb2)
        refine (C2.out _ H22.out).mono ?_
        rintro e w3 ⟨rfl, hb3⟩
        have HS3 := Lib.hid (HS2.out.below hb3); have HP3 := Lib.hid (HP2.out.below hb3); have HB3 := Lib.hid (Below.step HB2.out hb3)
        clear hb3
        go_wp2_with (first
          | ((with_reducible refine wp_storeNew rfl (.tmp 6) (.tmp 18) rfl _ lb L2.out rfl rfl ?_); intro w4 hs4 hb4; have HS4 := Lib.hid (HS3.out.below hb4); have HS5 := Lib.hid hs4; have HP4 := Lib.hid (HP3.out.below hb4); have HB4 := Lib.hid (Below.step HB3.out hb4); have z1 := HS4.out.size L1.out; have z2 := HS5.out.size L2.out; rw [← N1.out] at z1; rw [← N2.out] at z2; clear hs4 hb4)
          | ((with_reducible refine wp_storePair rfl (.tmp 2) (.tmp 33) rfl (w.heap.size + 1) [] [] [] [] rfl rfl HP4.out ?_); intro w5 hp5 hg5))
        exact bodyPost_ret (results_pair _ _ (w.heap.size + 1) [] [] false hp5 rfl rfl) rfl ⟨rfl, HB4.out.grown hg5 HB4.out.size (by intro k hk; simp at hk; omega)⟩

/-- readPair gives the pair, or the empty one and no -/
theorem readPair_any (t b : List Int) (w : World) (u1 u2 : Value) (h1 : Rd w u1 t) (h2 : Rd w u2 b) :
    Calls Try.prog 53 #[.agg #[u1, u2]] w (PairOut w (if pairOk t b then t else []) (if pairOk t b then b else []) (pairOk t b)) := by
  unfold pairOk
  cases e1 : goodB t with
  | false =>
    cases e2 : goodB b with
    | false => exact readPair_run t b [] [] false false false w u1 u2 h1 h2 (fun w h => readSystem_no u1 t w h e1) (fun w h => readSystem_no u2 b w h e2) (by simp) (by simp) rfl
    | true => exact readPair_run t b [] b false true false w u1 u2 h1 h2 (fun w h => readSystem_no u1 t w h e1) (fun w h => readSystem_yes u2 b w h e2) (by simp) (good_len e2) rfl
  | true =>
    cases e2 : goodB b with
    | false => exact readPair_run t b t [] true false false w u1 u2 h1 h2 (fun w h => readSystem_yes u1 t w h e1) (fun w h => readSystem_no u2 b w h e2) (good_len e1) (by simp) rfl
    | true => exact readPair_run t b t b true true _ w u1 u2 h1 h2 (fun w h => readSystem_yes u1 t w h e1) (fun w h => readSystem_yes u2 b w h e2) (good_len e1) (good_len e2) rfl

/-! IsPair -/
def ok_IsPair (t b : List Int) : Bool := pairOk t b

end Go.Proofs.Ytogjclmmjdhfeac
