/- CountShortest on both sides. -/
import Derived.Test.YtfcjgcbjiongpabExPath
import Derived.Test.YtfcjgcbjiongpabExAt
import Derived.Test.YtfcjgcbjiongpabExWayM
import Derived.Test.YtfcjgcbjiongpabExBtw
import Derived.Test.YtfcjgcbjiongpabSysEq
namespace Go.Proofs.Ytfcjgcbjiongpab
open Go.RowKit
set_option linter.unusedSimpArgs false
set_option linter.unusedVariables false

/-- how many shortest ways, the steps that may come -/
def waysF (b : List Int) : Nat → List Int → Nat
  | 0, t => if t = b then 1 else 0
  | f + 1, t => if t = b then 1 else ((nextsL t b 1).map (waysF b f)).foldl (fun x y => x + y) 0
def dst (b t : List Int) : Nat := t.length / 2 - compsL t b
theorem ways_same (b : List Int) (f : Nat) : waysF b f b = 1 := by
  cases f <;> simp [waysF]
theorem sum_le : ∀ (L : List Nat) (c M : Nat), (∀ x ∈ L, x ≤ M) → L.foldl (fun x y => x + y) c ≤ c + L.length * M
  | [], c, M, _ => by simp
  | x :: L, c, M, h => by
    have h1 := h x (List.mem_cons_self ..)
    have h2 := sum_le L (c + x) M (fun y hy => h y (List.mem_cons_of_mem _ hy))
    rw [List.foldl_cons, List.length_cons, Nat.add_mul]
    omega
theorem ways_bd (b : List Int) : ∀ (f : Nat) (t : List Int), goodB t = true → waysF b f t ≤ 66 ^ f
  | 0, t, _ => by rw [waysF]; split <;> simp
  | f + 1, t, gt => by
    rw [waysF]
    split
    · exact Nat.one_le_pow _ _ (by omega)
    · have h := sum_le ((nextsL t b 1).map (waysF b f)) 0 (66 ^ f) (fun x hx => by
        obtain ⟨q, hq, rfl⟩ := List.mem_map.1 hx
        exact ways_bd b f q (next_facts gt hq).1)
      rw [List.length_map] at h
      have h2 := nexts_len (t := t) (b := b) (by_ := 1) gt
      have h3 : (nextsL t b 1).length * 66 ^ f ≤ 66 * 66 ^ f := Nat.mul_le_mul_right _ h2
      rw [Nat.pow_succ, Nat.mul_comm]
      omega
theorem dst_facts {t b : List Int} (gt : goodB t = true) (gb : goodB b = true) (hl : t.length = b.length) (h10 : t.length ≤ 10) :
    (dst b t = 0 ↔ t = b) ∧ (distL t b = ((dst b t : Nat) : Int)) ∧ dst b t ≤ 5 ∧ ∀ p ∈ pairsL t, (distL (exP t p) b < distL t b ↔ nextB t b 1 (exP t p) = true) ∧ (nextB t b 1 (exP t p) = true → dst b (exP t p) + 1 = dst b t) := by
  obtain ⟨h1, h2, h3⟩ := near_facts gt gb hl h10
  have e : compsQ t b = compsL t b := rfl
  rw [e] at h1 h2
  unfold dst distL
  refine ⟨⟨fun h => h2.1 (by omega), fun h => by have := h2.2 h; omega⟩, by omega, by omega, fun p hp => ?_⟩
  have h4 : compsL (exP t p) b ≤ compsL t b + 1 := h3 p hp
  have hq : (exP t p).length = t.length := exL_length _ _ _
  have gq := (ex_facts gt).2.1 p hp
  have h5 := (near_facts gq gb (by rw [hq, hl]) (by rw [hq]; exact h10)).1
  have e5 : compsQ (exP t p) b = compsL (exP t p) b := rfl
  rw [e5, hq] at h5
  rw [hq]
  unfold nextB
  rw [decide_eq_true_eq]
  exact ⟨by omega, fun h => by omega⟩

set_option maxRecDepth 100000 in
theorem wp_eqlSys {ops : Array Oper} {rest : List Oper} {o : Oper} {a : Act} {w : World} {Q : Exit → Act → World → Prop} (hgd : o.guard = none) (x y : Operand) (r : TypeId) (ho : o.op = .binOp .eql 53 x y r)
    (t p : List Int) (hx : a.eval x = .agg #[sysV t 0, sysV t 1, sysV t 2, sysV t 3, sysV t 4, sysV t 5, sysV t 6, sysV t 7, sysV t 8, sysV t 9, sysV t 10, sysV t 11, sysV t 12]) (hy : a.eval y = .agg #[sysV p 0, sysV p 1, sysV p 2, sysV p 3, sysV p 4, sysV p 5, sysV p 6, sysV p 7, sysV p 8, sysV p 9, sysV p 10, sysV p 11, sysV p 12])
    (h : wpList Try.prog ops Q rest (a.put o.dst (.bool (twelve t == twelve p && ((t.length : Int) == (p.length : Int))))) w) : wpList Try.prog ops Q (o :: rest) a w := by
  have hm : Try.prog.eqGuardType Try.prog.depth 53 = false := by kernel_rfl
  have he := run_eqSys w 9997 t p
  refine wpList_plain hgd fun _ hK => ?_
  unfold Oper.wp execOp
  simp only [ho, hx, hy, Sem.run_bind, run_eqGuard_agg (hm := hm), Sem.run_pure, Result.andThen_ok, run_eql_struct, he]
  exact hK _ _ h
theorem same_sys {t b : List Int} (ht : t.length ≤ 12) (hl : t.length = b.length) : (twelve t == twelve b && ((t.length : Int) == (b.length : Int))) = decide (t = b) := by
  rw [Bool.eq_iff_iff]
  simp only [Bool.and_eq_true, beq_iff_eq, decide_eq_true_eq]
  constructor
  · rintro ⟨h, _⟩; exact twelve_inj ht hl h
  · rintro rfl; exact ⟨rfl, rfl⟩
set_option maxHeartbeats 4000000 in
set_option maxRecDepth 100000 in
theorem short_same (b : List Int) (hb : b.length ≤ 12) (w : World) : Calls Try.prog 47 #[.agg (pairC b b)] w fun e w' => e = .returned (.int .i64 1) ∧ Below w.heap.size w w' := by
  have HP := Lib.hid (PairIn.new w b b)
  have HS := Lib.hid (same_sys hb (rfl : b.length = b.length))
  clear hb
  go_enter Try.func47, Try.ntmps47
  go_wp2_with (first
    | (with_reducible refine wp_loadMidL rfl (.tmp 6) rfl w.heap.size 0 b rfl (rp_top HP.out) ?_)
    | (with_reducible refine wp_loadMidL rfl (.tmp 8) rfl w.heap.size 13 b rfl (rp_bot HP.out) ?_)
    | (with_reducible refine wp_eqlSys rfl (.tmp 7) (.tmp 9) _ rfl b b rfl rfl ?_; rw [HS.out, decide_eq_true rfl]))
  go_ret
  exact ⟨rfl, Below.alloc1 _ _⟩
set_option maxHeartbeats 4000000 in
set_option maxRecDepth 100000 in
theorem short_more (t b : List Int) (gt : goodB t = true) (gb : goodB b = true) (hl : t.length = b.length) (hne : t ≠ b) (W : List Int → Nat) (hb : ∀ q ∈ nextsL t b 1, W q ≤ 66 ^ 4) (w : World)
    (hrec : ∀ q ∈ nextsL t b 1, ∀ w, Calls Try.prog 47 #[.agg (pairC q b)] w fun e w' => e = .returned (.int .i64 ((W q : Nat) : Int)) ∧ Below w.heap.size w w') :
    Calls Try.prog 47 #[.agg (pairC t b)] w fun e w' => e = .returned (.int .i64 ((((nextsL t b 1).map W).foldl (fun x y => x + y) 0 : Nat) : Int)) ∧ Below w.heap.size w w' := by
  have l12 := good_len' gt
  have HP := Lib.hid (PairIn.new w t b)
  have hs := same_sys l12 hl
  rw [decide_eq_false hne] at hs
  have HS := Lib.hid hs
  have HX := Lib.hid (fun w => exchangesBy_any t b 1 gt gb hl (by omega) w)
  have hnl := nexts_len (t := t) (b := b) (by_ := 1) gt
  have HB := Lib.hid hb; have HREC := Lib.hid hrec
  obtain ⟨R, hR⟩ : ∃ R, ((nextsL t b 1).map W).foldl (fun x y => x + y) 0 = R := ⟨_, rfl⟩
  rw [hR]
  rw [List.foldl_map] at hR
  have HR : Hid (((nextsL t b 1).drop 0).foldl (fun x y => x + W y) 0 = R) := hR
  generalize nextsL t b 1 = N at *
  clear hs hb hrec hne gt gb hl l12 hR
  go_enter Try.func47, Try.ntmps47
  go_wp2_with (first
    | (with_reducible refine wp_loadMidL rfl (.tmp 6) rfl w.heap.size 0 t rfl (rp_top HP.out) ?_)
    | (with_reducible refine wp_loadMidL rfl (.tmp 8) rfl w.heap.size 13 b rfl (rp_bot HP.out) ?_)
    | (with_reducible refine wp_eqlSys rfl (.tmp 7) (.tmp 9) _ rfl t b rfl rfl ?_; rw [HS.out])
    | (with_reducible refine wp_loadPair rfl (.tmp 1) rfl w.heap.size t b rfl HP.out ?_)
    | (go_at_call 68; ((with_reducible refine (HX.out _).mono ?_); rintro e w1 ⟨v1, rfl, ho1, hb1⟩; obtain ⟨a1, c1, hv1, hq1, hq2⟩ := ho1.form; rw [List.length_map] at hv1 hq1; subst hv1; unfold maxLen at hq2; have HO1 := Lib.hid ho1; have HB1 := Lib.hid (Below.step (Below.alloc1 _ _) hb1); clear ho1 hb1)))
  go_loopw [3, 14] (fun s i wr => ∃ k c : Nat, k ≤ N.length ∧ i = .int .i64 (k : Int) ∧ s = .int .i64 (c : Int) ∧ c ≤ k * 66 ^ 4 ∧ Below w1.heap.size w1 wr ∧ Hid ((N.drop k).foldl (fun x y => x + W y) c = R)) (fun _ i _ => N.length - (intOf i).toNat)
  case atStart => exact ⟨0, 0, by omega, rfl, rfl, by omega, Below.refl _ _, HR.out⟩
  case round =>
    obtain ⟨k, c, hk, rfl, rfl, hc, hbel, HF⟩ := hrel
    generalize wr = wc at *
    by_cases hlt : k < N.length
    · obtain ⟨g, rfl, hgl, _, _, hrg, _⟩ := (HO1.out.below hbel).at (by rw [List.length_map]; omega)
      clear hgl
      have hr := hrg k (by rw [List.length_map]; exact hlt)
      have e : (N.map fun q => (q, b)).getD k ([], []) = (N.getD k [], b) := by simp [List.getD, hlt]
      rw [e] at hr
      have hm : N.getD k [] ∈ N := by simp [List.getD, hlt]
      have hfd := fold_drop [] hlt HF.out
      have hq := HB.out _ hm
      have hcall := HREC.out _ hm
      generalize N.getD k [] = q at *
      generalize W q = y at *
      have hk66 : k * 66 ^ 4 ≤ 66 * 66 ^ 4 := Nat.mul_le_mul_right _ (by omega)
      have hc2 : c + y ≤ (k + 1) * 66 ^ 4 := by rw [Nat.add_mul]; omega
      have hw : IntKind.i64.wrap ((c : Int) + (y : Int)) = (c : Int) + (y : Int) := IntWalk.i64_in _ (by omega)
      have HR2 := Lib.hid hr; have HFD := Lib.hid hfd; have HCL := Lib.hid hcall; have HBE := Lib.hid hbel; have HC2 := Lib.hid hc2
      clear hrg hr e hm hfd hq hcall hbel hk66 hc2 hc
      go_wp2_with (first
        | (with_reducible refine boxP_loadX rfl (.tmp 16) rfl g (k * 26) q b rfl HR2.out ?_)
        | ((with_reducible refine wp_storePairN rfl (.tmp 5) (.tmp 17) rfl q b rfl rfl ?_); intro w5 hs5 hb5; have HS5 := Lib.hid hs5; have HB5 := Lib.hid hb5; clear hs5 hb5)
        | (with_reducible refine wp_loadPair rfl (.tmp 5) rfl wc.heap.size q b rfl HS5.out ?_)
        | (go_at_call 47; ((with_reducible refine (HCL.out _).mono ?_); rintro e w6 ⟨rfl, hb6⟩; have HB6 := Lib.hid (Below.step HB5.out hb6); clear hb6)))
      go_roundw
      case rel => exact ⟨k + 1, c + y, by omega, by go_num, by go_num, HC2.out, Below.step HBE.out HB6.out, HFD.out⟩
      case measure => simp [intOf]; omega
    · obtain rfl : k = N.length := by omega
      have hfin := fold_end (by omega) HF.out
      subst hfin
      have HBE := Lib.hid hbel
      clear hbel
      go_wp2_with fail
      go_ret
      exact ⟨rfl, Below.step HB1.out HBE.out⟩
theorem short_any (b : List Int) (gb : goodB b = true) : ∀ (f : Nat) (t : List Int) (w : World), goodB t = true → t.length = b.length → t.length ≤ 10 → dst b t ≤ f → f ≤ 5 →
    Calls Try.prog 47 #[.agg (pairC t b)] w fun e w' => e = .returned (.int .i64 ((waysF b f t : Nat) : Int)) ∧ Below w.heap.size w w'
  | f, t, w, gt, hl, h10, hd, hf => by
    have hfa := dst_facts gt gb hl h10
    by_cases e : t = b
    · subst e
      rw [ways_same]
      exact short_same t (by omega) w
    · have hz : dst b t ≠ 0 := fun h => e (hfa.1.1 h)
      obtain ⟨f, rfl⟩ : ∃ g, f = g + 1 := ⟨f - 1, by omega⟩
      have hw : waysF b (f + 1) t = ((nextsL t b 1).map (waysF b f)).foldl (fun x y => x + y) 0 := by rw [waysF, if_neg e]
      rw [hw]
      have hnx : ∀ q ∈ nextsL t b 1, goodB q = true ∧ q.length = t.length ∧ dst b q + 1 = dst b t := by
        intro q hq
        have h1 := next_facts gt hq
        unfold nextsL exsL at hq
        obtain ⟨h2, h3⟩ := List.mem_filter.1 hq
        obtain ⟨p, hp, rfl⟩ := List.mem_map.1 h2
        exact ⟨h1.1, h1.2.1, (hfa.2.2.2 p hp).2 h3⟩
      refine short_more t b gt gb hl e (waysF b f) (fun q hq => ?_) w (fun q hq w => ?_)
      · have := ways_bd b f q (hnx q hq).1
        exact Nat.le_trans this (Nat.pow_le_pow_right (by omega) (by omega))
      · have h := hnx q hq
        exact short_any b gb f q w h.1 (by rw [h.2.1, hl]) (by rw [h.2.1]; exact h10) (by omega) (by omega)

def ok_CountShortest (t b : List Int) : Bool := fewB t b
def res_CountShortest (t b : List Int) : Int := if fewB t b then ((waysF b 5 t : Nat) : Int) else 0

set_option maxHeartbeats 1000000 in
set_option maxRecDepth 100000 in
theorem impl_CountShortest (t b : List Int) (w : World) (u1 u2 : Value) (h1 : Rd w u1 t) (h2 : Rd w u2 b) (m1 : t.length ≤ 1048576) (m2 : b.length ≤ 1048576) :
    Calls Try.prog 19 #[u1, u2] w (GivesN w (res_CountShortest t b) (ok_CountShortest t b)) := by
  unfold res_CountShortest ok_CountShortest
  have hrd := readFew_any t b w u1 u2 h1 h2
  obtain ⟨a1, c1, rfl, _⟩ := h1
  obtain ⟨a2, c2, rfl, _⟩ := h2
  clear m1 m2
  cases h : fewB t b with
  | false =>
    rw [h] at hrd
    simp only [Bool.false_eq_true, if_false] at hrd ⊢
    have HR := Lib.hid hrd; clear hrd h
    go_enter Try.func19, Try.ntmps19
    go_wp2_with (first
      | (go_at_call 46; ((with_reducible refine HR.out.mono ?_); rintro e w1 ⟨rfl, hb1⟩; have HB1 := Lib.hid hb1; clear hb1))
      | ((with_reducible refine wp_storePairN rfl (.tmp 6) (.tmp 12) rfl [] [] rfl rfl ?_); intro w2 hs2 hb2; have HB2 := Lib.hid (Below.step HB1.out hb2); clear hs2 hb2))
    go_ret2
    exact ⟨rfl, HB2.out⟩
  | true =>
    rw [h] at hrd
    obtain ⟨gt, gb, hl, h10⟩ := few_good h
    simp only [if_true] at hrd ⊢
    have hd := (dst_facts gt gb hl h10).2.2.1
    have HSW := Lib.hid (fun w => short_any b gb 5 t w gt hl h10 hd (Nat.le_refl _))
    generalize waysF b 5 t = R at *
    have HR := Lib.hid hrd
    clear hrd h gt gb hl h10 hd
    go_enter Try.func19, Try.ntmps19
    go_wp2_with (first
      | (go_at_call 46; ((with_reducible refine HR.out.mono ?_); rintro e w1 ⟨rfl, hb1⟩; have HB1 := Lib.hid hb1; clear hb1))
      | ((with_reducible refine wp_storePairN rfl (.tmp 6) (.tmp 12) rfl t b rfl rfl ?_); intro w2 hs2 hb2; have HQ2 := Lib.hid hs2; have HB2 := Lib.hid (Below.step HB1.out hb2); clear hs2 hb2)
      | (with_reducible refine wp_loadPair rfl (.tmp 6) rfl w1.heap.size t b rfl HQ2.out ?_)
      | (go_at_call 47; ((with_reducible refine (HSW.out _).mono ?_); rintro e w3 ⟨rfl, hb3⟩; have HB3 := Lib.hid (Below.step HB2.out hb3); clear hb3)))
    go_ret2
    exact ⟨rfl, HB3.out⟩

set_option maxHeartbeats 2000000 in
set_option maxRecDepth 100000 in
theorem exCount_same (t b : List Int) (D : Int) (hD : distL t b = D) (hD0 : D = 0) (gt : goodB t = true) (gb : goodB b = true) (hl : t.length = b.length) (w : World) (u1 u2 : Value) (h1 : Rd w u1 t) (h2 : Rd w u2 b) :
    Calls Try.prog 45 #[u1, u2] w fun e w' => e = .returned (.int .i64 1) ∧ Below w.heap.size w w' := by
  have HD := Lib.hid (exDistance_any t b gt gb hl w u1 u2 h1 h2)
  rw [hD, hD0] at HD
  obtain ⟨a1, c1, rfl, _⟩ := h1
  obtain ⟨a2, c2, rfl, _⟩ := h2
  clear hD hD0 gt gb hl
  go_enter Try.func45, Try.ntmps45
  go_wp2_with (go_at_call 49; ((with_reducible refine HD.out.mono ?_); rintro e w1 ⟨rfl, hb1⟩; have HB1 := Lib.hid hb1; clear hb1))
  go_ret
  exact ⟨rfl, HB1.out⟩
def scanW (t b : List Int) (W : List Int → Nat) (ps : List (List Int)) (c : Nat) : Nat := ((ps.map (exP t)).filter (nextB t b 1)).foldl (fun x y => x + W y) c
theorem scanW_yes {t b : List Int} {W : List Int → Nat} {p : List Int} {ps : List (List Int)} {c : Nat} (h : nextB t b 1 (exP t p) = true) : scanW t b W (p :: ps) c = scanW t b W ps (c + W (exP t p)) := by
  unfold scanW
  rw [List.map_cons, List.filter_cons, if_pos h]; rfl
theorem scanW_no {t b : List Int} {W : List Int → Nat} {p : List Int} {ps : List (List Int)} {c : Nat} (h : nextB t b 1 (exP t p) = false) : scanW t b W (p :: ps) c = scanW t b W ps c := by
  unfold scanW
  rw [List.map_cons, List.filter_cons, if_neg (by rw [h]; simp)]
set_option maxHeartbeats 8000000 in
set_option maxRecDepth 100000 in
theorem exCount_more (t b : List Int) (gt : goodB t = true) (gb : goodB b = true) (hl : t.length = b.length) (h10 : t.length ≤ 10) (hne : t ≠ b) (W : List Int → Nat) (hb : ∀ q ∈ nextsL t b 1, W q ≤ 66 ^ 4) (w : World) (u1 u2 : Value) (h1 : Rd w u1 t) (h2 : Rd w u2 b)
    (hrec : ∀ q ∈ nextsL t b 1, ∀ w v, Rd w v q → Rd w u2 b → Calls Try.prog 45 #[v, u2] w fun e w' => e = .returned (.int .i64 ((W q : Nat) : Int)) ∧ Below w.heap.size w w') :
    Calls Try.prog 45 #[u1, u2] w fun e w' => e = .returned (.int .i64 ((((nextsL t b 1).map W).foldl (fun x y => x + y) 0 : Nat) : Int)) ∧ Below w.heap.size w w' := by
  have hfa := dst_facts gt gb hl h10
  have hz : dst b t ≠ 0 := fun h => hne (hfa.1.1 h)
  have HD := Lib.hid (exDistance_any t b gt gb hl w u1 u2 h1 h2)
  have hdz : (distL t b == 0) = false := by rw [beq_eq_false_iff_ne, hfa.2.1]; omega
  have HDQ : Hid (∀ p ∈ pairsL t, ∀ w v, Rd w v (exP t p) → Rd w u2 b → Calls Try.prog 49 #[v, u2] w fun e w' => e = .returned (.int .i64 (distL (exP t p) b)) ∧ Below w.heap.size w w') := by
    intro p hp w v hv hu
    exact exDistance_any (exP t p) b ((ex_facts gt).2.1 p hp) gb (by unfold exP; rw [exL_length, hl]) w v u2 hv hu
  have HLT : Hid (∀ p ∈ pairsL t, (distL (exP t p) b < distL t b ↔ nextB t b 1 (exP t p) = true)) := fun p hp => (hfa.2.2.2 p hp).1
  have HIN : Hid (∀ p ∈ pairsL t, nextB t b 1 (exP t p) = true → exP t p ∈ nextsL t b 1) := fun p hp h => List.mem_filter.2 ⟨List.mem_map.2 ⟨p, hp, rfl⟩, h⟩
  have HAT : Hid (∀ p ∈ pairsL t, ∀ w, Rd w u1 t → Calls Try.prog 70 #[u1, .int .i64 (p.getD 0 0), .int .i64 (p.getD 1 0)] w (Made w (exP t p))) := by
    intro p hp w hu
    obtain ⟨i, j, h1, h2, _, rfl⟩ := pairs_mem.1 hp
    exact exAt_any t i j w u1 hu gt h1 h2
  have HT : Hid (∀ r ∈ pairsL t, r.length = 2) := fun r hr => by obtain ⟨i, j, _, _, _, rfl⟩ := pairs_mem.1 hr; rfl
  have HPA := Lib.hid (fun w h => exPairs_any t w u1 h gt)
  have hle := (ex_facts gt).2.2.2
  obtain ⟨R, hR⟩ : ∃ R, ((nextsL t b 1).map W).foldl (fun x y => x + y) 0 = R := ⟨_, rfl⟩
  rw [hR]
  rw [List.foldl_map] at hR
  have HS : Hid (scanW t b W ((pairsL t).drop 0) 0 = R) := hR
  have HB := Lib.hid hb; have HREC := Lib.hid hrec
  generalize nextsL t b 1 = NX at *
  generalize distL t b = DT at *
  generalize pairsL t = P at *
  have H1 := Lib.hid h1; have H2 := Lib.hid h2
  obtain ⟨a1, c1, rfl, _⟩ := h1
  obtain ⟨a2, c2, rfl, _⟩ := h2
  clear hfa hz gt gb hl h10 hne hb hrec hR
  go_enter Try.func45, Try.ntmps45
  go_wp2_with (first
    | (go_at_call 49; ((with_reducible refine HD.out.mono ?_); rintro e w0 ⟨rfl, hb0⟩; have HB0 := Lib.hid hb0; clear hb0))
    | (go_at_call 69; ((refine (HPA.out _ (H1.out.below HB0.out)).mono ?_); rintro e w1 ⟨vf, us, rfl, hU, hb1⟩; obtain ⟨au, cu, rfl, hcu1, hcu2⟩ := hU.form; unfold maxLen at hcu2; have HU := Lib.hid hU; have HB1 := Lib.hid (Below.step HB0.out hb1); clear hU hb1)))
  go_loopw [6, 18] (fun s i' wr => ∃ k c : Nat, k ≤ P.length ∧ i' = .int .i64 (k : Int) ∧ s = .int .i64 (c : Int) ∧ c ≤ k * 66 ^ 4 ∧ Below w1.heap.size w1 wr ∧ Hid (scanW t b W (P.drop k) c = R)) (fun _ i _ => P.length - (intOf i).toNat)
  case atStart => exact ⟨0, 0, by omega, rfl, rfl, by omega, Below.refl _ _, HS.out⟩
  case round =>
    obtain ⟨k, c, hk, rfl, rfl, hc, hbel, HF⟩ := hrel
    generalize wr = wc at *
    by_cases hlt : k < P.length
    · have hUk := HU.out.below hbel
      obtain ⟨gu, rfl, _, _, hcell, _⟩ := hUk.at (by omega)
      have hck := hcell k hlt
      have hru := hUk.own k hlt
      have hmem : P.getD k [] ∈ P := by simp [List.getD, hlt]
      have h2l := HT.out _ hmem
      have hscan := HF.out
      rw [drop_cons [] hlt] at hscan
      have hat := HAT.out _ hmem
      have hdq := HDQ.out _ hmem
      have hlt2 := HLT.out _ hmem
      have hin := HIN.out _ hmem
      generalize P.getD k [] = r at *
      generalize rowV us k = pr at *
      obtain ⟨ap, cp, rfl, hcp1, hcp2⟩ := hru.form
      rw [h2l] at hcp1 hck
      unfold maxLen at hcp2
      obtain ⟨gp, rfl, k0⟩ := hru.get 0 (by omega)
      obtain ⟨gp', e', k1⟩ := hru.get 1 (by omega)
      simp only [Option.some.injEq, Addr.mk.injEq, and_true] at e'
      subst e'
      have HSY : Hid (nextB t b 1 (exP t r) = true → scanW t b W (P.drop (k + 1)) (c + W (exP t r)) = R) := fun h => by rw [← hscan, scanW_yes h]
      have HSN : Hid (nextB t b 1 (exP t r) = false → scanW t b W (P.drop (k + 1)) c = R) := fun h => by rw [← hscan, scanW_no h]
      have HBQ : Hid (nextB t b 1 (exP t r) = true → W (exP t r) ≤ 66 ^ 4) := fun h => HB.out _ (hin h)
      have HRQ : Hid (nextB t b 1 (exP t r) = true → ∀ w v, Rd w v (exP t r) → Rd w (.slice a2 b.length c2) b → Calls Try.prog 45 #[v, .slice a2 b.length c2] w fun e w' => e = .returned (.int .i64 ((W (exP t r) : Nat) : Int)) ∧ Below w.heap.size w w') := fun h => HREC.out _ (hin h)
      generalize nextB t b 1 (exP t r) = M at *
      generalize r.getD 0 0 = r0 at *
      generalize r.getD 1 0 = r1 at *
      generalize exP t r = q at *
      generalize W q = y at *
      generalize distL q b = DQ at *
      have HATC := Lib.hid hat; have HDQC := Lib.hid hdq; have HBE := Lib.hid hbel
      have hsz := hbel.size
      have hq0 : wc.drew.cell? ⟨gp, 0, none⟩ = some (.int .i64 r0) := k0
      have hq1 : wc.drew.cell? ⟨gp, 1, none⟩ = some (.int .i64 r1) := k1
      have hk66 : k * 66 ^ 4 ≤ 66 * 66 ^ 4 := Nat.mul_le_mul_right _ (by omega)
      have hkk : (k + 1) * 66 ^ 4 = k * 66 ^ 4 + 66 ^ 4 := by rw [Nat.add_mul]
      clear hcell hru h2l hat hdq hscan hmem hUk hbel hin
      go_wp2_with fail
      go_region_with (go_at_call 70; ((refine (HATC.out wc.drew (H1.out.below (Below.step HB1.out HBE.out).drew)).mono ?_); rintro e w5 ⟨v5, rfl, ho5, hb5⟩; obtain ⟨a5, c5, rfl, _⟩ := ho5.form; have HO5 := Lib.hid ho5; have HB5 := Lib.hid (((Below.refl wc.heap.size wc).drew).trans hb5); clear ho5 hb5))
      all_goals
        clear k0 k1 hq0 hq1
        cases M with
        | true =>
          have hd1 : DQ < DT := hlt2.2 rfl
          have hy := HBQ.out rfl
          have hw : IntKind.i64.wrap ((c : Int) + (y : Int)) = (c : Int) + (y : Int) := IntWalk.i64_in _ (by omega)
          have HH := Lib.hid (HSY.out rfl)
          have HRC := Lib.hid (HRQ.out rfl)
          have HCY : Hid (c + y ≤ (k + 1) * 66 ^ 4) := by show _ ≤ _; omega
          clear hlt2 hk66 hkk hc hy
          go_wp2_with (first
            | (go_at_call 49; ((with_reducible refine (HDQC.out _ _ HO5.out.rd (H2.out.below (Below.step HB1.out (Below.step HBE.out HB5.out)))).mono ?_); rintro e w6 ⟨rfl, hb6⟩; have HO6 := Lib.hid (HO5.out.below hb6); have HB6 := Lib.hid (Below.step HB5.out hb6); clear hb6))
            | (go_at_call 45; ((with_reducible refine (HRC.out _ _ HO6.out.rd (H2.out.below (Below.step HB1.out (Below.step HBE.out HB6.out)))).mono ?_); rintro e w7 ⟨rfl, hb7⟩; have HB7 := Lib.hid (Below.step HB6.out hb7); clear hb7)))
          go_roundw
          case rel => exact ⟨k + 1, c + y, by omega, by go_num, by go_num, HCY.out, Below.step HBE.out HB7.out, HH.out⟩
          case measure => simp [intOf]; omega
        | false =>
          have hd1 : ¬ DQ < DT := fun h => Bool.noConfusion (hlt2.1 h)
          have hd2 : decide (DQ < DT) = false := decide_eq_false hd1
          have HH := Lib.hid (HSN.out rfl)
          have HCY : Hid (c ≤ (k + 1) * 66 ^ 4) := Nat.le_trans hc (Nat.mul_le_mul_right _ (Nat.le_succ k))
          clear hlt2 hk66 hkk hc
          go_wp2_with (go_at_call 49; ((with_reducible refine (HDQC.out _ _ HO5.out.rd (H2.out.below (Below.step HB1.out (Below.step HBE.out HB5.out)))).mono ?_); rintro e w6 ⟨rfl, hb6⟩; have HB6 := Lib.hid (Below.step HB5.out hb6); clear hb6))
          go_roundw
          case rel => exact ⟨k + 1, c, by omega, by go_num, rfl, HCY.out, Below.step HBE.out HB6.out, HH.out⟩
          case measure => simp [intOf]; omega
    · obtain rfl : k = P.length := by omega
      have hs := HF.out
      rw [List.drop_eq_nil_of_le (Nat.le_refl _)] at hs
      have hs2 : c = R := hs
      subst hs2
      have HBE := Lib.hid hbel
      clear hbel hs
      go_wp2_with fail
      go_ret
      exact ⟨rfl, Below.step HB1.out HBE.out⟩
theorem exCount_any (b : List Int) (gb : goodB b = true) : ∀ (f : Nat) (t : List Int) (w : World) (u1 u2 : Value), goodB t = true → t.length = b.length → t.length ≤ 10 → dst b t ≤ f → f ≤ 5 → Rd w u1 t → Rd w u2 b →
    Calls Try.prog 45 #[u1, u2] w fun e w' => e = .returned (.int .i64 ((waysF b f t : Nat) : Int)) ∧ Below w.heap.size w w'
  | f, t, w, u1, u2, gt, hl, h10, hd, hf, h1, h2 => by
    have hfa := dst_facts gt gb hl h10
    by_cases e : t = b
    · have hz := hfa.1.2 e
      have hD : distL t b = 0 := by rw [hfa.2.1, hz]; rfl
      have := exCount_same t b 0 hD rfl gt gb hl w u1 u2 h1 h2
      subst e
      rw [ways_same]
      exact this
    · have hz : dst b t ≠ 0 := fun h => e (hfa.1.1 h)
      obtain ⟨f, rfl⟩ : ∃ g, f = g + 1 := ⟨f - 1, by omega⟩
      have hw : waysF b (f + 1) t = ((nextsL t b 1).map (waysF b f)).foldl (fun x y => x + y) 0 := by rw [waysF, if_neg e]
      rw [hw]
      have hnx : ∀ q ∈ nextsL t b 1, goodB q = true ∧ q.length = t.length ∧ dst b q + 1 = dst b t := by
        intro q hq
        have h1 := next_facts gt hq
        unfold nextsL exsL at hq
        obtain ⟨h2, h3⟩ := List.mem_filter.1 hq
        obtain ⟨p, hp, rfl⟩ := List.mem_map.1 h2
        exact ⟨h1.1, h1.2.1, (hfa.2.2.2 p hp).2 h3⟩
      refine exCount_more t b gt gb hl h10 e (waysF b f) (fun q hq => ?_) w u1 u2 h1 h2 (fun q hq w v hv hu => ?_)
      · have := ways_bd b f q (hnx q hq).1
        exact Nat.le_trans this (Nat.pow_le_pow_right (by omega) (by omega))
      · have h := hnx q hq
        exact exCount_any b gb f q w v u2 h.1 (by rw [h.2.1, hl]) (by rw [h.2.1]; exact h10) (by omega) (by omega) hv hu

set_option maxHeartbeats 1000000 in
set_option maxRecDepth 100000 in
theorem spec_CountShortest (t b : List Int) (w : World) (u1 u2 : Value) (h1 : Rd w u1 t) (h2 : Rd w u2 b) (m1 : t.length ≤ 1048576) (m2 : b.length ≤ 1048576) :
    Calls Try.prog 18 #[u1, u2] w (GivesN w (res_CountShortest t b) (ok_CountShortest t b)) := by
  unfold res_CountShortest ok_CountShortest
  have hfew := exFew_any t b w u1 u2 h1 h2 m1 m2
  have H1 := Lib.hid h1; have H2 := Lib.hid h2
  cases h : fewB t b with
  | false =>
    rw [h] at hfew
    have HG := Lib.hid hfew
    obtain ⟨a1, c1, rfl, _⟩ := h1
    obtain ⟨a2, c2, rfl, _⟩ := h2
    clear hfew h m1 m2
    simp only [Bool.false_eq_true, if_false]
    go_enter Try.func18, Try.ntmps18
    go_wp2_with (go_at_call 44; ((with_reducible refine HG.out.mono ?_); rintro e w0 ⟨rfl, hb0⟩; have HB0 := Lib.hid hb0; clear hb0))
    go_ret2
    exact ⟨rfl, HB0.out⟩
  | true =>
    rw [h] at hfew
    obtain ⟨gt, gb, hl, h10⟩ := few_good h
    have hd := (dst_facts gt gb hl h10).2.2.1
    have HC := Lib.hid (fun (w : World) (h1 : Rd w u1 t) (h2 : Rd w u2 b) => exCount_any b gb 5 t w u1 u2 gt hl h10 hd (Nat.le_refl _) h1 h2)
    generalize waysF b 5 t = R at *
    have HG := Lib.hid hfew
    obtain ⟨a1, c1, rfl, _⟩ := h1
    obtain ⟨a2, c2, rfl, _⟩ := h2
    clear hfew h gt gb hl h10 hd m1 m2
    simp only [if_true]
    go_enter Try.func18, Try.ntmps18
    go_wp2_with (first
      | (go_at_call 44; ((with_reducible refine HG.out.mono ?_); rintro e w0 ⟨rfl, hb0⟩; have HB0 := Lib.hid hb0; have HX1 := Lib.hid (H1.out.below hb0); have HX2 := Lib.hid (H2.out.below hb0); clear hb0))
      | (go_at_call 45; ((refine (HC.out _ HX1.out HX2.out).mono ?_); rintro e w2 ⟨rfl, hb2⟩; have HB2 := Lib.hid (Below.step HB0.out hb2); clear hb2)))
    go_ret2
    exact ⟨rfl, HB2.out⟩

end Go.Proofs.Ytfcjgcbjiongpab
