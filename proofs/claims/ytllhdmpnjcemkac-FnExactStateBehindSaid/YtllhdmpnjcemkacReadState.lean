/- The program's readState. -/
/- The program's readState: the region that decides. -/
import Derived.Test.YtllhdmpnjcemkacFrontEq
import Derived.Test.YtllhdmpnjcemkacCrosses
import Derived.Deep.RegionHeld3
import Derived.Deep.DeepCutAuto
namespace Go.Proofs.Ytllhdmpnjcemkac
open Go.RowKit Go.Maps
set_option linter.unusedSimpArgs false
set_option linter.unusedVariables false

/-- a state in a variable -/
def StIn (w : World) (b : Nat) (v1 v2 : Value) (c : Int) : Prop := w.heap[b]? = some (.cells #[v1, v2, .int .i64 c] 27 (0, 0))
theorem StIn.below {w w' : World} {b : Nat} {v1 v2 : Value} {c : Int} (h : StIn w b v1 v2 c) (hb : Below w.heap.size w w') : StIn w' b v1 v2 c := (hb.block b (Array.getElem?_eq_some_iff.1 h).1).trans h
theorem StIn.c0 {w : World} {b : Nat} {v1 v2 : Value} {c : Int} (h : StIn w b v1 v2 c) : w.cell? ⟨b, 0, none⟩ = some v1 := by rw [cell_of_row w b _ _ _ _ h]; rfl
theorem StIn.c1 {w : World} {b : Nat} {v1 v2 : Value} {c : Int} (h : StIn w b v1 v2 c) : w.cell? ⟨b, 1, none⟩ = some v2 := by rw [cell_of_row w b _ _ _ _ h]; rfl
theorem StIn.c2 {w : World} {b : Nat} {v1 v2 : Value} {c : Int} (h : StIn w b v1 v2 c) : w.cell? ⟨b, 2, none⟩ = some (.int .i64 c) := by rw [cell_of_row w b _ _ _ _ h]; rfl

theorem wp_storeNewEnd {ops : Array Oper} {rest : List Oper} {o : Oper} {a : Act} {Q : Exit → Act → World → Prop} (hgd : o.guard = none) (x y : Operand) (ho : o.op = .store 75 x y)
    (w : World) (l : List Int) (hl : l.length ≤ 6) (hx : a.eval x = .pointer (some ⟨w.heap.size, 0, none⟩)) (hy : a.eval y = .agg (endC l))
    (h : ∀ w', EndIn w' w.heap.size l → Below w.heap.size w w' → wpList Try.prog ops Q rest (a.put o.dst undef) w') : wpList Try.prog ops Q (o :: rest) a (w.alloc (.cells #[.int .i64 0, .int .i64 0, .int .i64 0, .int .i64 0, .int .i64 0, .int .i64 0, .int .i64 0] 75)) := by
  refine wp_storeEnd hgd x y ho w.heap.size l [] hl (by simp) hx hy (show EndIn (w.alloc (.cells (endC []) 75)) w.heap.size [] from heap_alloc_new w _) ?_
  intro w' hs hg
  exact h w' hs ((Below.alloc1 w _).grown hg (by simp) (by intro k hk; simp at hk; omega))
theorem wp_loadEndLit {ops : Array Oper} {rest : List Oper} {o : Oper} {a : Act} {w : World} {Q : Exit → Act → World → Prop} (hgd : o.guard = none) (x : Operand) (ho : o.op = .load 75 x)
    (g : Nat) (l : List Int) (hl : l.length ≤ 6) (hx : a.eval x = .pointer (some ⟨g, 0, none⟩)) (hg : EndIn w g l)
    (h : wpList Try.prog ops Q rest (a.put o.dst (.agg #[endV l 0, endV l 1, endV l 2, endV l 3, endV l 4, endV l 5, endV l 6])) w) : wpList Try.prog ops Q (o :: rest) a w :=
  wp_loadEnd hgd x ho g l hl hx hg (by rw [endC_lit hl]; exact h)

theorem wp_storeFr0 {ops : Array Oper} {rest : List Oper} {o : Oper} {a : Act} {w : World} {Q : Exit → Act → World → Prop} (hgd : o.guard = none) (x y : Operand) (ho : o.op = .store 77 x y)
    (g : Nat) (u0 d0 : List Int) (c0 : Int) (hu0 : u0.length ≤ 6) (hd0 : d0.length ≤ 6) (hx : a.eval x = .pointer (some ⟨g, 0, none⟩)) (hy : a.eval y = .agg #[.int .i64 0, .int .i64 0, .int .i64 0, .int .i64 0, .int .i64 0, .int .i64 0, .int .i64 0, .int .i64 0, .int .i64 0, .int .i64 0, .int .i64 0, .int .i64 0, .int .i64 0, .int .i64 0, .int .i64 0]) (hg : FrIn w g u0 d0 c0)
    (h : ∀ w', FrIn w' g [] [] 0 → w.grownBy w' (some g) → wpList Try.prog ops Q rest (a.put o.dst undef) w') : wpList Try.prog ops Q (o :: rest) a w :=
  wp_storeFr hgd x y ho g [] [] u0 d0 0 c0 (Nat.zero_le _) (Nat.zero_le _) hu0 hd0 hx hy hg h
theorem wp_storeNewFr {ops : Array Oper} {rest : List Oper} {o : Oper} {a : Act} {Q : Exit → Act → World → Prop} (hgd : o.guard = none) (x y : Operand) (ho : o.op = .store 77 x y)
    (w : World) (u d : List Int) (c : Int) (hu : u.length ≤ 6) (hd : d.length ≤ 6) (hx : a.eval x = .pointer (some ⟨w.heap.size, 0, none⟩)) (hy : a.eval y = .agg #[endV u 0, endV u 1, endV u 2, endV u 3, endV u 4, endV u 5, endV u 6, endV d 0, endV d 1, endV d 2, endV d 3, endV d 4, endV d 5, endV d 6, .int .i64 c])
    (h : ∀ w', FrIn w' w.heap.size u d c → Below w.heap.size w w' → wpList Try.prog ops Q rest (a.put o.dst undef) w') : wpList Try.prog ops Q (o :: rest) a (w.alloc (.cells #[.int .i64 0, .int .i64 0, .int .i64 0, .int .i64 0, .int .i64 0, .int .i64 0, .int .i64 0, .int .i64 0, .int .i64 0, .int .i64 0, .int .i64 0, .int .i64 0, .int .i64 0, .int .i64 0, .int .i64 0] 77)) := by
  refine wp_storeFr hgd x y ho w.heap.size u d [] [] c 0 hu hd (Nat.zero_le _) (Nat.zero_le _) hx (by rw [hy, frC_lit c hu hd]) (fr_zero w) ?_
  intro w' hs hg
  exact h w' hs ((Below.alloc1 w _).grown hg (by simp) (by intro k hk; simp at hk; omega))
def cap6 (l : List Int) : List Int := if l.length ≤ 6 then l else []
theorem cap6_len (l : List Int) : (cap6 l).length ≤ 6 := by unfold cap6; split <;> simp_all
theorem cap6_yes {l : List Int} (h : l.length ≤ 6) : cap6 l = l := if_pos h
theorem readEnds_any (v : Value) (l : List Int) (w : World) (h : Rd w v l) : Calls Try.prog 87 #[v] w (EndOut w (cap6 l) (decide (l.length ≤ 6))) := by
  by_cases hl : l.length ≤ 6
  · rw [cap6_yes hl, decide_eq_true hl]; exact readEnds_yes v l w h hl
  · rw [show cap6 l = [] from if_neg hl, decide_eq_false hl]; exact readEnds_no v l w h (by omega)
theorem results_rstate (tmps : Array Value) (w : World) (g : Nat) (u d : List Int) (c : Int) (b : Bool) (hu : u.length ≤ 6) (hd : d.length ≤ 6) (hg : FrIn w g u d c) (h2 : tmps.getD 2 undef = .pointer (some ⟨g, 0, none⟩)) (h3 : tmps.getD 3 undef = .bool b) :
    (results Try.f60 tmps).run Try.prog w = .ok (.tuple #[.agg (frC u d c), .bool b]) w := by
  have h2' : tmps[2]?.getD undef = .pointer (some ⟨g, 0, none⟩) := by simpa using h2
  have h3' : tmps[3]?.getD undef = .bool b := by simpa using h3
  have hr : Try.f60.results = #[.cell 2 77, .tmp 3] := by kernel_rfl
  simp [results, hr, h2', h3', asAddr, run_loadFr w g u d c hu hd hg]
def FrOut (w : World) (u d : List Int) (c : Int) (ok : Bool) (e : Ending) (w' : World) : Prop := e = .returned (.tuple #[.agg (frC u d c), .bool ok]) ∧ Below w.heap.size w w'

set_option maxHeartbeats 4000000 in
set_option maxRecDepth 100000 in
theorem readState_bad (u1 u2 : Value) (u d : List Int) (c : Int) (w : World) (h1 : Rd w u1 u) (h2 : Rd w u2 d) (hc : (decide (u.length ≤ 6) && decide (d.length ≤ 6) && inB c 0 6) = false) :
    Calls Try.prog 60 #[.agg #[u1, u2, .int .i64 c]] w (FrOut w [] [] 0 false) := by
  have hr1 := fun w h => readEnds_any u1 u w h
  have hr2 := fun w h => readEnds_any u2 d w h
  have hl1 := cap6_len u
  have hl2 := cap6_len d
  generalize cap6 u = lu at *
  generalize cap6 d = ld at *
  generalize decide (u.length ≤ 6) = o1 at *
  generalize decide (d.length ≤ 6) = o2 at *
  have B0 : Below w.heap.size w (w.alloc (.cells #[u1, u2, .int .i64 c] 27)) := Below.alloc1 w _
  have B1 := Below.step B0 (Below.alloc1 _ (.cells #[.int .i64 0, .int .i64 0, .int .i64 0, .int .i64 0, .int .i64 0, .int .i64 0, .int .i64 0, .int .i64 0, .int .i64 0, .int .i64 0, .int .i64 0, .int .i64 0, .int .i64 0, .int .i64 0, .int .i64 0] 77))
  have hA : StIn ((w.alloc (.cells #[u1, u2, .int .i64 c] 27)).alloc (.cells #[.int .i64 0, .int .i64 0, .int .i64 0, .int .i64 0, .int .i64 0, .int .i64 0, .int .i64 0, .int .i64 0, .int .i64 0, .int .i64 0, .int .i64 0, .int .i64 0, .int .i64 0, .int .i64 0, .int .i64 0] 77)) w.heap.size u1 u2 c := StIn.below (heap_alloc_new w _) (Below.alloc1 _ _)
  have hZ := fr_zero (w.alloc (.cells #[u1, u2, .int .i64 c] 27))
  rw [World.size_alloc] at hZ
  have H1 := Lib.hid (h1.below B1); have H2 := Lib.hid (h2.below B1)
  have k0 := hA.c0; have k1 := hA.c1; have k2 := hA.c2
  have HA := Lib.hid hA; have HZ := Lib.hid hZ; have HB := Lib.hid B1; have HR1 := Lib.hid hr1; have HR2 := Lib.hid hr2; have L1 := Lib.hid hl1; have L2 := Lib.hid hl2
  obtain ⟨a1, c1, rfl, _⟩ := h1
  obtain ⟨a2, c2, rfl, _⟩ := h2
  clear hA hZ B0 B1 hr1 hr2 hl1 hl2
  have hcc : o1 = false ∨ (o1 = true ∧ o2 = false) ∨ (o1 = true ∧ o2 = true ∧ c < 0) ∨ (o1 = true ∧ o2 = true ∧ 0 ≤ c ∧ 6 < c) := by
    cases o1 with
    | false => exact .inl rfl
    | true =>
      cases o2 with
      | false => exact .inr (.inl ⟨rfl, rfl⟩)
      | true =>
        rw [Bool.true_and, Bool.true_and] at hc
        by_cases h : c < 0
        · exact .inr (.inr (.inl ⟨rfl, rfl, h⟩))
        · refine .inr (.inr (.inr ⟨rfl, rfl, by omega, ?_⟩))
          by_cases h6 : 6 < c
          · exact h6
          · rw [inB_yes (by omega) (by omega)] at hc; cases hc
  clear hc
  rcases hcc with rfl | ⟨rfl, rfl⟩ | ⟨rfl, rfl, hc⟩ | ⟨rfl, rfl, hc1, hc2⟩
  all_goals
    go_enter Try.func60, Try.ntmps60
    go_wp2_with fail
    refine (HR1.out _ H1.out).mono ?_
    rintro e w1 ⟨rfl, hb1⟩
    have m1 := (HA.out.below hb1).c1
    have m2 := (HA.out.below hb1).c2
    have HZ1 := Lib.hid (HZ.out.below hb1); have HA1 := Lib.hid (HA.out.below hb1); have HB1 := Lib.hid (Below.step HB.out hb1); have H21 := Lib.hid (H2.out.below hb1)
    clear hb1
    go_wp2_with ((with_reducible refine wp_storeNewEnd rfl (.tmp 4) (.tmp 13) rfl _ lu L1.out rfl rfl ?_); intro w2 hs2 hb2; have m3 := (HA1.out.below hb2).c1; have m4 := (HA1.out.below hb2).c2; have HS2 := Lib.hid hs2; have HZ2 := Lib.hid (HZ1.out.below hb2); have HA2 := Lib.hid (HA1.out.below hb2); have HB2 := Lib.hid (Below.step HB1.out hb2); have H22 := Lib.hid (H21.out.below hb2); clear hs2 hb2)
    refine (HR2.out _ H22.out).mono ?_
    rintro e w3 ⟨rfl, hb3⟩
    have HS3 := Lib.hid (HS2.out.below hb3); have HZ3 := Lib.hid (HZ2.out.below hb3); have HA3 := Lib.hid (HA2.out.below hb3); have HB3 := Lib.hid (Below.step HB2.out hb3)
    have m5 := (HA2.out.below hb3).c2
    clear hb3
    go_wp2_with (first
      | ((with_reducible refine wp_storeNewEnd rfl (.tmp 6) (.tmp 19) rfl _ ld L2.out rfl rfl ?_); intro w4 hs4 hb4; have HS4 := Lib.hid hs4; have HS34 := Lib.hid (HS3.out.below hb4); have HZ4 := Lib.hid (HZ3.out.below hb4); have HA4 := Lib.hid (HA3.out.below hb4); have HB4 := Lib.hid (Below.step HB3.out hb4); have m6 := HA4.out.c2; clear hs4 hb4)
      | (with_reducible refine wp_loadEndLit rfl (.tmp 4) rfl _ lu L1.out rfl HS34.out ?_)
      | (with_reducible refine wp_loadEndLit rfl (.tmp 6) rfl _ ld L2.out rfl HS4.out ?_)
      | ((with_reducible refine wp_storeNewFr rfl (.tmp 8) (.tmp 25) rfl _ lu ld c L1.out L2.out rfl rfl ?_); intro w5 hs5 hb5; have HF5 := Lib.hid hs5; have HA5 := Lib.hid (HA4.out.below hb5); have m7 := HA5.out.c2; have HZ5 := Lib.hid (HZ4.out.below hb5); have HB5 := Lib.hid (Below.step HB4.out hb5); clear hs5 hb5)
      | ((with_reducible refine wp_storeFr0 rfl (.tmp 2) (.tmp 42) rfl (w.heap.size + 1) [] [] 0 (Nat.zero_le _) (Nat.zero_le _) rfl rfl HZ5.out ?_); intro w6 hs6 hg6))
    exact bodyPost_ret (results_rstate _ _ (w.heap.size + 1) [] [] 0 false (Nat.zero_le _) (Nat.zero_le _) hs6 rfl rfl) rfl ⟨rfl, HB5.out.grown hg6 HB5.out.size (by intro k hk; simp at hk; omega)⟩

end Go.Proofs.Ytllhdmpnjcemkac

namespace Go.Proofs.Ytllhdmpnjcemkac
open Go.RowKit Go.Maps
set_option linter.unusedSimpArgs false
set_option linter.unusedVariables false

theorem FrIn.drew {w : World} {b : Nat} {u d : List Int} {c : Int} (h : FrIn w b u d c) : FrIn w.drew b u d c := h
theorem fr_start {W w' : World} {g : Nat} {u d : List Int} {c : Int} (hu : u.length ≤ 6) (hd : d.length ≤ 6) (h : FrIn w' g u d c) (hb : Below W.heap.size W w') : Hid (FrIn w' g u d c ∧ Below W.heap.size W w') ∧ w'.cell? ⟨g, 0, none⟩ = some (endV u 0) ∧ w'.cell? ⟨g, 1, none⟩ = some (endV u 1) ∧ w'.cell? ⟨g, 2, none⟩ = some (endV u 2) ∧ w'.cell? ⟨g, 3, none⟩ = some (endV u 3) ∧ w'.cell? ⟨g, 4, none⟩ = some (endV u 4) ∧ w'.cell? ⟨g, 5, none⟩ = some (endV u 5) ∧ w'.cell? ⟨g, 6, none⟩ = some (endV u 6) ∧ w'.cell? ⟨g, 7, none⟩ = some (endV d 0) ∧ w'.cell? ⟨g, 8, none⟩ = some (endV d 1) ∧ w'.cell? ⟨g, 9, none⟩ = some (endV d 2) ∧ w'.cell? ⟨g, 10, none⟩ = some (endV d 3) ∧ w'.cell? ⟨g, 11, none⟩ = some (endV d 4) ∧ w'.cell? ⟨g, 12, none⟩ = some (endV d 5) ∧ w'.cell? ⟨g, 13, none⟩ = some (endV d 6) ∧ w'.cell? ⟨g, 14, none⟩ = some (.int .i64 c) := ⟨⟨h, hb⟩, fr_cells hu hd h⟩
theorem fr_keep {W w' w2 : World} {g : Nat} {u d : List Int} {c : Int} (hu : u.length ≤ 6) (hd : d.length ≤ 6) (h : Hid (FrIn w' g u d c ∧ Below W.heap.size W w') ∧ w'.cell? ⟨g, 0, none⟩ = some (endV u 0) ∧ w'.cell? ⟨g, 1, none⟩ = some (endV u 1) ∧ w'.cell? ⟨g, 2, none⟩ = some (endV u 2) ∧ w'.cell? ⟨g, 3, none⟩ = some (endV u 3) ∧ w'.cell? ⟨g, 4, none⟩ = some (endV u 4) ∧ w'.cell? ⟨g, 5, none⟩ = some (endV u 5) ∧ w'.cell? ⟨g, 6, none⟩ = some (endV u 6) ∧ w'.cell? ⟨g, 7, none⟩ = some (endV d 0) ∧ w'.cell? ⟨g, 8, none⟩ = some (endV d 1) ∧ w'.cell? ⟨g, 9, none⟩ = some (endV d 2) ∧ w'.cell? ⟨g, 10, none⟩ = some (endV d 3) ∧ w'.cell? ⟨g, 11, none⟩ = some (endV d 4) ∧ w'.cell? ⟨g, 12, none⟩ = some (endV d 5) ∧ w'.cell? ⟨g, 13, none⟩ = some (endV d 6) ∧ w'.cell? ⟨g, 14, none⟩ = some (.int .i64 c)) (hb : Below w'.heap.size w' w2) : Hid (FrIn w2 g u d c ∧ Below W.heap.size W w2) ∧ w2.cell? ⟨g, 0, none⟩ = some (endV u 0) ∧ w2.cell? ⟨g, 1, none⟩ = some (endV u 1) ∧ w2.cell? ⟨g, 2, none⟩ = some (endV u 2) ∧ w2.cell? ⟨g, 3, none⟩ = some (endV u 3) ∧ w2.cell? ⟨g, 4, none⟩ = some (endV u 4) ∧ w2.cell? ⟨g, 5, none⟩ = some (endV u 5) ∧ w2.cell? ⟨g, 6, none⟩ = some (endV u 6) ∧ w2.cell? ⟨g, 7, none⟩ = some (endV d 0) ∧ w2.cell? ⟨g, 8, none⟩ = some (endV d 1) ∧ w2.cell? ⟨g, 9, none⟩ = some (endV d 2) ∧ w2.cell? ⟨g, 10, none⟩ = some (endV d 3) ∧ w2.cell? ⟨g, 11, none⟩ = some (endV d 4) ∧ w2.cell? ⟨g, 12, none⟩ = some (endV d 5) ∧ w2.cell? ⟨g, 13, none⟩ = some (endV d 6) ∧ w2.cell? ⟨g, 14, none⟩ = some (.int .i64 c) :=
  ⟨⟨h.1.out.1.below hb, Below.step h.1.out.2 hb⟩, fr_cells hu hd (h.1.out.1.below hb)⟩
theorem fr_out {W w' : World} {g : Nat} {u d : List Int} {c : Int} (h : Hid (FrIn w' g u d c ∧ Below W.heap.size W w') ∧ w'.cell? ⟨g, 0, none⟩ = some (endV u 0) ∧ w'.cell? ⟨g, 1, none⟩ = some (endV u 1) ∧ w'.cell? ⟨g, 2, none⟩ = some (endV u 2) ∧ w'.cell? ⟨g, 3, none⟩ = some (endV u 3) ∧ w'.cell? ⟨g, 4, none⟩ = some (endV u 4) ∧ w'.cell? ⟨g, 5, none⟩ = some (endV u 5) ∧ w'.cell? ⟨g, 6, none⟩ = some (endV u 6) ∧ w'.cell? ⟨g, 7, none⟩ = some (endV d 0) ∧ w'.cell? ⟨g, 8, none⟩ = some (endV d 1) ∧ w'.cell? ⟨g, 9, none⟩ = some (endV d 2) ∧ w'.cell? ⟨g, 10, none⟩ = some (endV d 3) ∧ w'.cell? ⟨g, 11, none⟩ = some (endV d 4) ∧ w'.cell? ⟨g, 12, none⟩ = some (endV d 5) ∧ w'.cell? ⟨g, 13, none⟩ = some (endV d 6) ∧ w'.cell? ⟨g, 14, none⟩ = some (.int .i64 c)) : FrIn w' g u d c ∧ Below W.heap.size W w' := h.1.out
theorem run_neqFr (w : World) (u d p q : List Int) (c e : Int) : (binOp .neq 77 (.agg #[endV u 0, endV u 1, endV u 2, endV u 3, endV u 4, endV u 5, endV u 6, endV d 0, endV d 1, endV d 2, endV d 3, endV d 4, endV d 5, endV d 6, .int .i64 c]) (.agg #[endV p 0, endV p 1, endV p 2, endV p 3, endV p 4, endV p 5, endV p 6, endV q 0, endV q 1, endV q 2, endV q 3, endV q 4, endV q 5, endV q 6, .int .i64 e])).run Try.prog w = .ok (.bool (!sameF u d c p q e)) w := by
  rw [run_neq_struct, run_equalFr]
  rfl
theorem run_neqG (w : World) (x y : Operand) (xs ys : Array Value) : (eqGuard .neq 77 x y (.agg xs) (.agg ys)).run Try.prog w = .ok () w :=
  run_eqGuard_agg (hm := by kernel_rfl) ..
theorem part12_of {u d : List Int} (h1 : u.length ≤ 6) (h2 : d.length ≤ 6) (e1 : renU u = u) (e2 : renD u d = d) : Part12 (roundL u d) := by
  intro k hk
  have hl := seenL_length (u ++ d) []
  simp only [List.length_append, List.length_nil] at hl
  have hm : (roundL u d).getD k 0 ∈ u ++ d := by
    rw [show (roundL u d).getD k 0 = (roundL u d)[k] by simp [List.getD, hk]]
    have := List.getElem_mem hk
    unfold roundL at this
    rw [List.mem_append, List.mem_reverse, ← List.mem_append] at this
    exact this
  have hb := ren_bd u d ((roundL u d).getD k 0) (by rw [e1, e2]; exact hm)
  exact ⟨((roundL u d).getD k 0).toNat, by omega, by omega⟩
end Go.Proofs.Ytllhdmpnjcemkac
