/- The program's searches. -/
/- ShortestClosed, IsWhole: the program's functions. -/
import Derived.Test.YtaeeopdiodaiaabCutIo
import Derived.Test.YtaeeopdiodaiaabCutSh
import Derived.Test.YtaeeopdiodaiaabDraw
import Derived.WalkMore
namespace Go.Proofs.Ytaeeopdiodaiaab
open Go.RowKit
set_option linter.unusedSimpArgs false
set_option linter.unusedVariables false

theorem results_sat (tmps : Array Value) (w : World) (g : Nat) (i j : Int) (hg : StrIn w g i j) (h4 : tmps.getD 4 undef = .pointer (some ⟨g, 0, none⟩)) :
    (results Try.f117 tmps).run Try.prog w = .ok (.agg #[.int .i64 i, .int .i64 j]) w := by
  have h4' : tmps[4]?.getD undef = .pointer (some ⟨g, 0, none⟩) := by simpa using h4
  have hr : Try.f117.results = #[.cell 4 102] := by kernel_rfl
  have hl : (loadVar 102 ⟨g, 0, none⟩).run Try.prog w = .ok (.agg #[.int .i64 i, .int .i64 j]) w := run_loadVar_row w g _ _ #[.int .i64 i, .int .i64 j] _ _ hg Try.underlying102 rfl (by rw [str_info]; rfl)
  simp [results, hr, h4', asAddr, hl]
theorem stretchAt_any (i L : Nat) (hi : i ≤ 100) (hL : 2 ≤ L) (hL2 : L ≤ 100) (w : World) : Calls Try.prog 117 #[.int .i64 (i : Int), .int .i64 (L : Int)] w fun e w' => e = .returned (.agg #[.int .i64 (i : Int), .int .i64 ((i + L - 1 : Nat) : Int)]) ∧ Below w.heap.size w w' := by
  have e : ((i + L - 1 : Nat) : Int) = (i : Int) + (L : Int) - 1 := by omega
  rw [e]
  have HS := Lib.hid (StrIn.new w 0 0)
  clear e
  go_enter Try.func117, Try.ntmps117
  go_wp2_with ((with_reducible refine wp_storeStrN rfl (.tmp 4) (.tmp 10) rfl _ _ rfl rfl ?_); intro w2 hs2 hb2)
  exact bodyPost_ret (results_sat _ _ w.heap.size _ _ hs2 rfl) rfl ⟨rfl, hb2⟩

def seC (n : Int) (t b : List Int) (F : Nat) : Array Value := #[.int .i64 n, .func (.func 77) #[.agg (pairC t b)] #[], .func (.func F) #[] #[]]
theorem se_info : (Try.prog.info? 88).map (·.size) = some 3 := by kernel_rfl
def loadV (v : Value) : Sem Value := Instr.loadAt 70 v
theorem loadV_eq (v : Value) : Instr.loadAt 70 v = loadV v := rfl
def storeV (v x : Value) : Sem Unit := Instr.storeAt 88 v x
theorem storeV_eq (v x : Value) : Instr.storeAt 88 v x = storeV v x := rfl
attribute [local go_sem ↓] loadV_eq storeV_eq
theorem se_setsAll {w : World} {g : Nat} {x0 x1 x2 y0 y1 y2 : Value} (h : w.heap[g]? = some (.cells #[x0, x1, x2] 88 (0, 0))) : (w.setCells g 0 [y0, y1, y2]).heap[g]? = some (.cells #[y0, y1, y2] 88 (0, 0)) :=
  heap_setCell_same _ g 2 _ _ y2 (heap_setCell_same _ g 1 _ _ y1 (heap_setCell_same w g 0 _ _ y0 h))
structure SeS (w0 : World) (g0 g1 : Nat) (t b : List Int) (w' : World) : Prop where
  src : PairIn w' g0 t b
  dst : w'.heap[g1]? = some (.cells #[.int .i64 0, .nilFunc, .nilFunc] 88 (0, 0))
  bel : Below w0.heap.size w0 w'
  lo : w0.heap.size ≤ g1
theorem SeS.below {w0 w1 w2 : World} {g0 g1 : Nat} {t b : List Int} (h : SeS w0 g0 g1 t b w1) (hb : Below w1.heap.size w1 w2) : SeS w0 g0 g1 t b w2 := ⟨h.src.below hb, (hb.block g1 (Array.getElem?_eq_some_iff.1 h.dst).1).trans h.dst, Below.step h.bel hb, h.lo⟩
theorem SeS.drew {w0 w1 : World} {g0 g1 : Nat} {t b : List Int} (h : SeS w0 g0 g1 t b w1) : SeS w0 g0 g1 t b w1.drew := ⟨h.src, h.dst, Below.drew h.bel, h.lo⟩
theorem SeS.new (w : World) (t b : List Int) : SeS w w.heap.size (w.heap.size + 1) t b ((w.alloc (.cells (pairC t b) 70)).alloc (.cells #[.int .i64 0, .nilFunc, .nilFunc] 88)) := by
  refine ⟨PairIn.below (heap_alloc_new w _) (Below.alloc1 _ _), ?_, Below.step (Below.alloc1 _ _) (Below.alloc1 _ _), Nat.le_succ _⟩
  have := heap_alloc_new (w.alloc (.cells (pairC t b) 70)) (.cells #[.int .i64 0, .nilFunc, .nilFunc] 88)
  rw [World.size_alloc] at this
  exact this
theorem SeS.to {w0 : World} {g0 g1 : Nat} {t b : List Int} {w' : World} (F : Nat) (n : Int) (h : SeS w0 g0 g1 t b w') :
    ∃ W, Hid (SeS w0 g0 g1 t b w') ∧ (loadV (.pointer (some ⟨g0, 0, none⟩))).run Try.prog w' = .ok (.agg (pairC t b)) w' ∧
      (storeV (.pointer (some ⟨g1, 0, none⟩)) (.agg #[.int .i64 n, .func (.func 77) #[.agg (pairC t b)] #[], .func (.func F) #[] #[]])).run Try.prog w' = .ok () W ∧
      Hid (W.heap[g1]? = some (.cells (seC n t b F) 88 (0, 0)) ∧ Below w0.heap.size w0 W) :=
  ⟨_, h, run_loadAt_mid w' g0 0 70 (pairC t b).toList _ (row_at h.src) Try.underlying70 rfl (by rw [pair_info]; rfl),
    run_storeAt_mid w' g1 0 88 #[.int .i64 n, .func (.func 77) #[.agg (pairC t b)] #[], .func (.func F) #[] #[]] (row_free w' g1 0 _ _ h.dst 3 (by simp)) (by rw [se_info]; rfl) (by simp [Value.oneCell']),
    se_setsAll h.dst, Below.setCells g1 h.lo _ 0 _ h.bel⟩

def ShOut (w : World) (r : Option Str) (e : Ending) (w' : World) : Prop := e = .returned (.tuple #[.agg #[.int .i64 ((strOf r).1 : Int), .int .i64 ((strOf r).2 : Int)], .bool r.isSome]) ∧ Below w.heap.size w w'
structure ShT (w : World) (n : Int) (P : Array Value) (F : Nat) (w' : World) : Prop where
  row : w'.heap[w.heap.size]? = some (.cells #[.int .i64 n, .func (.func 77) #[.agg P] #[], .func (.func F) #[] #[]] 88 (0, 0))
  res : StrIn w' (w.heap.size + 1) 0 0
  fnd : StrIn w' (w.heap.size + 1 + 1) 0 0
  bel : Below w.heap.size w w'
theorem ShT.below {w w1 w2 : World} {n : Int} {P : Array Value} {F : Nat} (h : ShT w n P F w1) (hb : Below w1.heap.size w1 w2) : ShT w n P F w2 := ⟨(hb.block _ (Array.getElem?_eq_some_iff.1 h.row).1).trans h.row, h.res.below hb, h.fnd.below hb, Below.step h.bel hb⟩
theorem ShT.c0 {w w' : World} {n : Int} {P : Array Value} {F : Nat} (h : ShT w n P F w') : w'.cell? ⟨w.heap.size, 0, none⟩ = some (.int .i64 n) := by rw [cell_of_row _ _ 0 _ _ _ h.row]; rfl
theorem ShT.c1 {w w' : World} {n : Int} {P : Array Value} {F : Nat} (h : ShT w n P F w') : w'.cell? ⟨w.heap.size, 1, none⟩ = some (.func (.func 77) #[.agg P] #[]) := by rw [cell_of_row _ _ 1 _ _ _ h.row]; rfl
theorem ShT.c2 {w w' : World} {n : Int} {P : Array Value} {F : Nat} (h : ShT w n P F w') : w'.cell? ⟨w.heap.size, 2, none⟩ = some (.func (.func F) #[] #[]) := by rw [cell_of_row _ _ 2 _ _ _ h.row]; rfl
def ShS (w : World) (t b : List Int) (n : Int) (F : Nat) : Prop := ShT w n (pairC t b) F (((w.alloc (.cells #[.int .i64 n, .func (.func 77) #[.agg (pairC t b)] #[], .func (.func F) #[] #[]] 88)).alloc (.cells #[.int .i64 0, .int .i64 0] 102)).alloc (.cells #[.int .i64 0, .int .i64 0] 102))
theorem sh_new (w : World) (t b : List Int) (n : Int) (F : Nat) : ShS w t b n F := by
  unfold ShS
  generalize hO : (Obj.cells #[.int .i64 n, .func (.func 77) #[.agg (pairC t b)] #[], .func (.func F) #[] #[]] 88) = O
  have h1 := StrIn.new (w.alloc O) 0 0
  have h2 := StrIn.new ((w.alloc O).alloc (.cells #[.int .i64 0, .int .i64 0] 102)) 0 0
  rw [World.size_alloc] at h1
  rw [World.size_alloc, World.size_alloc] at h2
  have h0 : (w.alloc O).heap[w.heap.size]? = some O := heap_alloc_new w O
  have B2 := Below.step (Below.alloc1 (w.alloc O) (.cells #[.int .i64 0, .int .i64 0] 102)) (Below.alloc1 _ (.cells #[.int .i64 0, .int .i64 0] 102))
  refine ⟨?_, h1.below (Below.alloc1 _ _), h2, Below.step (Below.alloc1 _ _) B2⟩
  rw [hO]
  exact (B2.block _ (by simp)).trans h0
theorem results_sho (tmps : Array Value) (w : World) (g : Nat) (i j : Int) (ok : Bool) (hg : StrIn w g i j) (h2 : tmps.getD 2 undef = .pointer (some ⟨g, 0, none⟩)) (h3 : tmps.getD 3 undef = .bool ok) :
    (results Try.f89 tmps).run Try.prog w = .ok (.tuple #[.agg #[.int .i64 i, .int .i64 j], .bool ok]) w := by
  have h2' : tmps[2]?.getD undef = .pointer (some ⟨g, 0, none⟩) := by simpa using h2
  have h3' : tmps[3]?.getD undef = .bool ok := by simpa using h3
  have hr : Try.f89.results = #[.cell 2 102, .tmp 3] := by kernel_rfl
  have hl : (loadVar 102 ⟨g, 0, none⟩).run Try.prog w = .ok (.agg #[.int .i64 i, .int .i64 j]) w := run_loadVar_row w g _ _ #[.int .i64 i, .int .i64 j] _ _ hg Try.underlying102 rfl (by rw [str_info]; rfl)
  simp [results, hr, h2', h3', asAddr, hl]

theorem results_seFirst (tmps : Array Value) (w : World) (g : Nat) (C : Array Value) (hC : C.size = 3) (hg : w.heap[g]? = some (.cells C 88 (0, 0))) (h2 : tmps.getD 2 undef = .pointer (some ⟨g, 0, none⟩)) :
    (results Try.f51 tmps).run Try.prog w = .ok (.agg C) w :=
  results_cell_row (by kernel_rfl) tmps w g _ C _ _ h2 hg Try.underlying88 rfl (by rw [se_info, hC])
set_option maxRecDepth 100000 in
set_option maxHeartbeats 4000000 in
theorem searchFirst_any (t b : List Int) (w : World) : Calls Try.prog 51 #[.agg (pairC t b)] w fun e w' => e = .returned (.agg (seC (t.length : Int) t b 78)) ∧ Below w.heap.size w w' := by
  have HSZ := Lib.hid (fun w => pairSize_any t b w)
  have HS := Lib.hid (SeS.new w t b)
  have HC : Hid ((seC (t.length : Int) t b 78).size = 3) := rfl
  have HTO := Lib.hid (fun w' (h : SeS w w.heap.size (w.heap.size + 1) t b w') => SeS.to 78 (t.length : Int) h)
  generalize seC (t.length : Int) t b 78 = C at *
  generalize t.length = n at *
  go_enter Try.func51, Try.ntmps51
  go_wp2_with fail
  generalize ((w.alloc (.cells (pairC t b) 70)).alloc (.cells #[.int .i64 0, .nilFunc, .nilFunc] 88)) = W2 at *
  obtain ⟨W0, Y0, y1, y2, y3⟩ := HTO.out _ (SeS.drew HS.out)
  have hP : ∃ P, pairC t b = P := ⟨_, rfl⟩
  obtain ⟨P, hP⟩ := hP
  rw [hP] at *
  clear hP
  go_region_with (go_at_call 76; ((with_reducible refine (HSZ.out _).mono ?_); rintro e' w' ⟨rfl, hb'⟩; obtain ⟨W1, Y1, y4, y5, y6⟩ := HTO.out _ (SeS.below (Hid.out (by assumption)) hb')))
  all_goals
    go_wp2_with fail
    exact bodyPost_ret (results_seFirst _ _ (w.heap.size + 1) C HC.out y6.out.1 rfl) rfl ⟨rfl, y6.out.2⟩

theorem beginFirst_any (n L k : Nat) (hn : n ≤ 12) (hL : L < n) (hk : k < n - L + 1) (h2 : 2 ≤ L) (w : World) : Calls Try.prog 78 #[.int .i64 (k : Int), .int .i64 ((n - L + 1 : Nat) : Int)] w fun e w' => e = .returned (.int .i64 (begN false n L k : Int)) ∧ Below w.heap.size w w' := by
  have e : (begN false n L k : Int) = (k : Int) := by first | rfl | (simp only [begN, Bool.false_eq_true, if_false]; omega)
  rw [e]
  clear e
  go_enter Try.func78, Try.ntmps78
  go_wp2
  go_ret
  exact ⟨rfl, Below.refl _ _⟩

set_option maxRecDepth 100000 in
set_option maxHeartbeats 8000000 in
theorem shortestFirst_any (t b : List Int) (h12 : t.length ≤ 12) (w : World) : Calls Try.prog 89 #[.agg (seC (t.length : Int) t b 78)] w (ShOut w (shortL false t b)) := by
  have HCL := Lib.hid (fun (i L : Nat) (h2 : 2 ≤ L) (h : i + L ≤ 12) (w : World) => isClosed_any t b i (i + L - 1) (by omega) (by omega) w)
  have HSF := Lib.hid (fun (n L k : Nat) (hn : t.length = n) (h2 : 2 ≤ L) (hL : L < n) (hk : k < n - L + 1) H1 H2 hc => short_found (last := false) (b := b) hn h2 hL hk H1 H2 hc)
  have HNX := Lib.hid (fun (n L : Nat) (hn : t.length = n) (h2 : 2 ≤ L) (hL : L < n) H1 H2 => short_next (last := false) (b := b) hn h2 hL H1 H2)
  have HNO := Lib.hid (fun (n L : Nat) (hn : t.length = n) (hL : n ≤ L) H1 => short_none (last := false) (b := b) hn hL H1)
  have HST := Lib.hid (short_start (t := t) (b := b))
  have HBG := Lib.hid (fun (n L k : Nat) (hn : n ≤ 12) (hL : L < n) (hk : k < n - L + 1) (h2 : 2 ≤ L) (w : World) => beginFirst_any n L k hn hL hk h2 w)
  have hse := sh_new w t b (t.length : Int) 78
  generalize hn : t.length = n at *
  have HN := Lib.hid hn; clear hn
  have HS := Lib.hid hse
  clear hse
  have HR13 := Lib.hid results_sho
  unfold seC at *
  have hP : ∃ P, pairC t b = P := ⟨_, rfl⟩
  obtain ⟨P, hP⟩ := hP
  have HPE := Lib.hid hP
  unfold ShS at HS
  rw [hP] at HS HCL ⊢
  clear hP
  go_enter Try.func89, Try.ntmps89
  go_wp2
  go_step3
  go_wp2
  go_step3
  go_wp2
  generalize (((w.alloc (.cells #[.int .i64 (n : Int), .func (.func 77) #[.agg P] #[], .func (.func 78) #[] #[]] 88)).alloc (.cells #[.int .i64 0, .int .i64 0] 102)).alloc (.cells #[.int .i64 0, .int .i64 0] 102)) = W3 at *
  go_loopw [5, 6] (fun ff x wr => ∃ L : Nat, 2 ≤ L ∧ L ≤ 13 ∧ ff = .bool false ∧ x = .int .i64 (L : Int) ∧ Hid (∀ p, Fits t b p → L ≤ slen p + 1) ∧ Hid (ShT w (n : Int) P 78 wr)) (fun _ x _ => 14 - (intOf x).toNat)
  case atStart => exact ⟨2, by omega, by omega, rfl, rfl, HST.out, HS.out⟩
  case round =>
    obtain ⟨L, h2, hL13, rfl, rfl, H1, HW⟩ := hrel
    clear HS HST
    generalize wr = wa at *
    by_cases hlt : L < n
    · have c0 := HW.out.c0; have c1 := HW.out.c1; have c2 := HW.out.c2
      obtain ⟨m, hm0⟩ : ∃ m, n - L + 1 = m := ⟨_, rfl⟩
      have hm : (n : Int) - (L : Int) + 1 = (m : Int) := by omega
      have hm12 : m ≤ 11 := by omega
      have HM0 := Lib.hid hm0; clear hm0
      go_wp2
      clear hm
      go_loopw [5, 23] (fun ff y wr => ∃ k : Nat, k ≤ m ∧ ff = .bool false ∧ y = .int .i64 (k : Int) ∧ Hid (∀ k', k' < k → closedL t b (begN false n L k') (begN false n L k' + L - 1) = false) ∧ Hid (ShT w (n : Int) P 78 wr)) (fun _ y _ => m - (intOf y).toNat)
      case atStart => exact ⟨0, by omega, rfl, rfl, fun k' hk' => absurd hk' (Nat.not_lt_zero _), HW⟩
      case round =>
        obtain ⟨k, hk, rfl, rfl, H2, HV⟩ := hrel
        clear c0 c1 c2
        generalize wr = wb at *
        by_cases hkl : k < m
        · have c0 := HV.out.c0; have c1 := HV.out.c1; have c2 := HV.out.c2
          have hbl := begN_le (last := false) hlt (show k < n - L + 1 by have := HM0.out; omega)
          have hbg := fun w => HBG.out n L k h12 hlt (by have := HM0.out; omega) h2 w
          rw [HM0.out] at hbg
          have hcl := fun w => HCL.out (begN false n L k) L h2 (by omega) w
          have hsf := HSF.out n L k rfl h2 hlt (by have := HM0.out; omega) H1.out H2.out
          have hnb : Hid (∀ k', k' < k + 1 → closedL t b (begN false n L k) (begN false n L k + L - 1) = false → closedL t b (begN false n L k') (begN false n L k' + L - 1) = false) := fun k' hk' hc => by
            rcases Nat.lt_or_ge k' k with h | h
            · exact H2.out k' h
            · rw [show k' = k by omega]; exact hc
          generalize begN false n L k = bb at *
          have hsa := fun w => stretchAt_any bb L (by omega) h2 (by omega) w
          have HBG1 := Lib.hid hbg; have HSA := Lib.hid hsa; have HSF1 := Lib.hid hsf
          have hx9 : ∀ x y : Nat, x < y → x ≠ y := fun x y h => Nat.ne_of_lt h
          clear hbg hsa hsf hbl
          cases hc : closedL t b bb (bb + L - 1) with
          | true =>
            rw [hc] at hcl
            have HC1 := Lib.hid hcl
            have HSO : Hid (shortL false t b = some (bb, bb + L - 1)) := HSF1.out hc
            clear hcl hc hnb HSF1
            go_wp2_with (first
              | (go_at_call 78; ((with_reducible refine (HBG1.out _).mono ?_); rintro e w5 ⟨rfl, hb5⟩; have HV5 := Lib.hid (HV.out.below hb5); clear hb5))
              | (go_at_call 117; ((with_reducible refine (HSA.out _).mono ?_); rintro e w6 ⟨rfl, hb6⟩; have HV6 := Lib.hid (HV5.out.below hb6); clear hb6))
              | ((with_reducible refine wp_storeStrN rfl (.tmp 9) (.tmp 32) rfl _ _ rfl rfl ?_); intro w7 hs7 hb7; have HA7 := Lib.hid hs7; have HV7 := Lib.hid (HV6.out.below hb7); have d1 := HV7.out.c1; have hl7 : w.heap.size + 1 + 1 < w6.heap.size := HV6.out.fnd.lt; clear hs7 hb7)
              | (with_reducible refine wp_loadStr rfl (.tmp 9) rfl w6.heap.size bb ((bb + L - 1 : Nat) : Int) rfl HA7.out ?_)
              | (go_at_call 77; ((with_reducible refine (HC1.out _).mono ?_); rintro e w8 ⟨rfl, hb8⟩; have HA8 := Lib.hid (HA7.out.below hb8); have HV8 := Lib.hid (HV7.out.below hb8); clear hb8))
              | (with_reducible refine wp_loadStr rfl (.tmp 9) rfl w6.heap.size bb ((bb + L - 1 : Nat) : Int) rfl HA8.out ?_)
              | ((with_reducible refine wp_storeStr rfl (.tmp 4) (.tmp 37) rfl (w.heap.size + 1 + 1) bb ((bb + L - 1 : Nat) : Int) 0 0 rfl rfl HV8.out.fnd ?_); intro w9 hs9 hg9; have HF9 := Lib.hid hs9; have HR9 := Lib.hid (HV8.out.res.grown hg9 (by simp)); have HB9 := Lib.hid (HV8.out.bel.grown hg9 HV8.out.bel.size (by intro k hk; simp at hk; omega)); clear hs9 hg9)
              | (with_reducible refine wp_loadStr rfl (.tmp 4) rfl (w.heap.size + 1 + 1) bb ((bb + L - 1 : Nat) : Int) rfl HF9.out ?_)
              | ((with_reducible refine wp_storeStr rfl (.tmp 2) (.tmp 39) rfl (w.heap.size + 1) bb ((bb + L - 1 : Nat) : Int) 0 0 rfl rfl HR9.out ?_); intro w10 hs10 hg10; have HR10 := Lib.hid hs10; have HB10 := Lib.hid (HB9.out.grown hg10 HB9.out.size (by intro k hk; simp at hk; omega)); clear hs10 hg10))
            try rw [Exit.noGoto_ret]
            exact bodyPost_ret (HR13.out _ _ (w.heap.size + 1) bb ((bb + L - 1 : Nat) : Int) true HR10.out rfl rfl) rfl ⟨by rw [HSO.out]; rfl, HB10.out⟩
          | false =>
            rw [hc] at hcl
            have HC1 := Lib.hid hcl; have HC0 := Lib.hid hc; have HNB := Lib.hid (fun k' hk' => hnb.out k' hk' hc)
            clear hcl hc hnb HSF1
            go_wp2_with (first
              | (go_at_call 78; ((with_reducible refine (HBG1.out _).mono ?_); rintro e w5 ⟨rfl, hb5⟩; have HV5 := Lib.hid (HV.out.below hb5); clear hb5))
              | (go_at_call 117; ((with_reducible refine (HSA.out _).mono ?_); rintro e w6 ⟨rfl, hb6⟩; have HV6 := Lib.hid (HV5.out.below hb6); clear hb6))
              | ((with_reducible refine wp_storeStrN rfl (.tmp 9) (.tmp 32) rfl _ _ rfl rfl ?_); intro w7 hs7 hb7; have HA7 := Lib.hid hs7; have HV7 := Lib.hid (HV6.out.below hb7); have d1 := HV7.out.c1; clear hs7 hb7)
              | (with_reducible refine wp_loadStr rfl (.tmp 9) rfl w6.heap.size bb ((bb + L - 1 : Nat) : Int) rfl HA7.out ?_)
              | (go_at_call 77; ((with_reducible refine (HC1.out _).mono ?_); rintro e w8 ⟨rfl, hb8⟩; have HV8 := Lib.hid (HV7.out.below hb8); clear hb8)))
            go_roundw
            case rel => exact ⟨k + 1, by omega, rfl, by go_num, HNB.out, HV8.out⟩
            case measure => simp [intOf]; omega
        · obtain rfl : k = m := by omega
          have H3 := Lib.hid (HNX.out n L rfl h2 hlt H1.out (fun k' hk' => H2.out k' (by have := HM0.out; omega)))
          clear H1 H2
          go_wp2
          go_roundw
          case rel => exact ⟨L + 1, by omega, by omega, rfl, by go_num, H3.out, HV.out⟩
          case measure => simp [intOf]; omega
    · have HSO := Lib.hid (HNO.out n L rfl (by omega) H1.out)
      have c0 := HW.out.c0
      clear H1
      go_wp2_with (first
        | (with_reducible refine wp_loadStr rfl (.tmp 4) rfl (w.heap.size + 1 + 1) 0 0 rfl HW.out.fnd ?_)
        | ((with_reducible refine wp_storeStr rfl (.tmp 2) (.tmp 39) rfl (w.heap.size + 1) 0 0 0 0 rfl rfl HW.out.res ?_); intro w10 hs10 hg10; have HR10 := Lib.hid hs10; have HB10 := Lib.hid (HW.out.bel.grown hg10 HW.out.bel.size (by intro k hk; simp at hk; omega)); clear hs10 hg10))
      try rw [Exit.noGoto_ret]
      exact bodyPost_ret (HR13.out _ _ (w.heap.size + 1) 0 0 false HR10.out rfl rfl) rfl ⟨by rw [HSO.out]; rfl, HB10.out⟩

theorem results_seLast (tmps : Array Value) (w : World) (g : Nat) (C : Array Value) (hC : C.size = 3) (hg : w.heap[g]? = some (.cells C 88 (0, 0))) (h2 : tmps.getD 2 undef = .pointer (some ⟨g, 0, none⟩)) :
    (results Try.f52 tmps).run Try.prog w = .ok (.agg C) w :=
  results_cell_row (by kernel_rfl) tmps w g _ C _ _ h2 hg Try.underlying88 rfl (by rw [se_info, hC])
set_option maxRecDepth 100000 in
set_option maxHeartbeats 4000000 in
theorem searchLast_any (t b : List Int) (w : World) : Calls Try.prog 52 #[.agg (pairC t b)] w fun e w' => e = .returned (.agg (seC (t.length : Int) t b 79)) ∧ Below w.heap.size w w' := by
  have HSZ := Lib.hid (fun w => pairSize_any t b w)
  have HS := Lib.hid (SeS.new w t b)
  have HC : Hid ((seC (t.length : Int) t b 79).size = 3) := rfl
  have HTO := Lib.hid (fun w' (h : SeS w w.heap.size (w.heap.size + 1) t b w') => SeS.to 79 (t.length : Int) h)
  generalize seC (t.length : Int) t b 79 = C at *
  generalize t.length = n at *
  go_enter Try.func52, Try.ntmps52
  go_wp2_with fail
  generalize ((w.alloc (.cells (pairC t b) 70)).alloc (.cells #[.int .i64 0, .nilFunc, .nilFunc] 88)) = W2 at *
  obtain ⟨W0, Y0, y1, y2, y3⟩ := HTO.out _ (SeS.drew HS.out)
  have hP : ∃ P, pairC t b = P := ⟨_, rfl⟩
  obtain ⟨P, hP⟩ := hP
  rw [hP] at *
  clear hP
  go_region_with (go_at_call 76; ((with_reducible refine (HSZ.out _).mono ?_); rintro e' w' ⟨rfl, hb'⟩; obtain ⟨W1, Y1, y4, y5, y6⟩ := HTO.out _ (SeS.below (Hid.out (by assumption)) hb')))
  all_goals
    go_wp2_with fail
    exact bodyPost_ret (results_seLast _ _ (w.heap.size + 1) C HC.out y6.out.1 rfl) rfl ⟨rfl, y6.out.2⟩

theorem beginLast_any (n L k : Nat) (hn : n ≤ 12) (hL : L < n) (hk : k < n - L + 1) (h2 : 2 ≤ L) (w : World) : Calls Try.prog 79 #[.int .i64 (k : Int), .int .i64 ((n - L + 1 : Nat) : Int)] w fun e w' => e = .returned (.int .i64 (begN true n L k : Int)) ∧ Below w.heap.size w w' := by
  have e : (begN true n L k : Int) = ((n - L + 1 : Nat) : Int) - 1 - (k : Int) := by first | rfl | (simp only [begN, if_true]; omega)
  rw [e]
  clear e
  have hm : n - L + 1 ≤ 12 := by omega
  generalize n - L + 1 = m at *
  go_enter Try.func79, Try.ntmps79
  go_wp2_with (go_at_call 80; refine (refl_place (m : Int) (k : Int) _ (by omega) (by omega) (by omega) (by omega)).mono ?_; rintro e w1 ⟨rfl, hb1⟩)
  go_ret
  exact ⟨rfl, hb1⟩

set_option maxRecDepth 100000 in
set_option maxHeartbeats 8000000 in
theorem shortestLast_any (t b : List Int) (h12 : t.length ≤ 12) (w : World) : Calls Try.prog 89 #[.agg (seC (t.length : Int) t b 79)] w (ShOut w (shortL true t b)) := by
  have HCL := Lib.hid (fun (i L : Nat) (h2 : 2 ≤ L) (h : i + L ≤ 12) (w : World) => isClosed_any t b i (i + L - 1) (by omega) (by omega) w)
  have HSF := Lib.hid (fun (n L k : Nat) (hn : t.length = n) (h2 : 2 ≤ L) (hL : L < n) (hk : k < n - L + 1) H1 H2 hc => short_found (last := true) (b := b) hn h2 hL hk H1 H2 hc)
  have HNX := Lib.hid (fun (n L : Nat) (hn : t.length = n) (h2 : 2 ≤ L) (hL : L < n) H1 H2 => short_next (last := true) (b := b) hn h2 hL H1 H2)
  have HNO := Lib.hid (fun (n L : Nat) (hn : t.length = n) (hL : n ≤ L) H1 => short_none (last := true) (b := b) hn hL H1)
  have HST := Lib.hid (short_start (t := t) (b := b))
  have HBG := Lib.hid (fun (n L k : Nat) (hn : n ≤ 12) (hL : L < n) (hk : k < n - L + 1) (h2 : 2 ≤ L) (w : World) => beginLast_any n L k hn hL hk h2 w)
  have hse := sh_new w t b (t.length : Int) 79
  generalize hn : t.length = n at *
  have HN := Lib.hid hn; clear hn
  have HS := Lib.hid hse
  clear hse
  have HR13 := Lib.hid results_sho
  unfold seC at *
  have hP : ∃ P, pairC t b = P := ⟨_, rfl⟩
  obtain ⟨P, hP⟩ := hP
  have HPE := Lib.hid hP
  unfold ShS at HS
  rw [hP] at HS HCL ⊢
  clear hP
  go_enter Try.func89, Try.ntmps89
  go_wp2
  go_step3
  go_wp2
  go_step3
  go_wp2
  generalize (((w.alloc (.cells #[.int .i64 (n : Int), .func (.func 77) #[.agg P] #[], .func (.func 79) #[] #[]] 88)).alloc (.cells #[.int .i64 0, .int .i64 0] 102)).alloc (.cells #[.int .i64 0, .int .i64 0] 102)) = W3 at *
  go_loopw [5, 6] (fun ff x wr => ∃ L : Nat, 2 ≤ L ∧ L ≤ 13 ∧ ff = .bool false ∧ x = .int .i64 (L : Int) ∧ Hid (∀ p, Fits t b p → L ≤ slen p + 1) ∧ Hid (ShT w (n : Int) P 79 wr)) (fun _ x _ => 14 - (intOf x).toNat)
  case atStart => exact ⟨2, by omega, by omega, rfl, rfl, HST.out, HS.out⟩
  case round =>
    obtain ⟨L, h2, hL13, rfl, rfl, H1, HW⟩ := hrel
    clear HS HST
    generalize wr = wa at *
    by_cases hlt : L < n
    · have c0 := HW.out.c0; have c1 := HW.out.c1; have c2 := HW.out.c2
      obtain ⟨m, hm0⟩ : ∃ m, n - L + 1 = m := ⟨_, rfl⟩
      have hm : (n : Int) - (L : Int) + 1 = (m : Int) := by omega
      have hm12 : m ≤ 11 := by omega
      have HM0 := Lib.hid hm0; clear hm0
      go_wp2
      clear hm
      go_loopw [5, 23] (fun ff y wr => ∃ k : Nat, k ≤ m ∧ ff = .bool false ∧ y = .int .i64 (k : Int) ∧ Hid (∀ k', k' < k → closedL t b (begN true n L k') (begN true n L k' + L - 1) = false) ∧ Hid (ShT w (n : Int) P 79 wr)) (fun _ y _ => m - (intOf y).toNat)
      case atStart => exact ⟨0, by omega, rfl, rfl, fun k' hk' => absurd hk' (Nat.not_lt_zero _), HW⟩
      case round =>
        obtain ⟨k, hk, rfl, rfl, H2, HV⟩ := hrel
        clear c0 c1 c2
        generalize wr = wb at *
        by_cases hkl : k < m
        · have c0 := HV.out.c0; have c1 := HV.out.c1; have c2 := HV.out.c2
          have hbl := begN_le (last := true) hlt (show k < n - L + 1 by have := HM0.out; omega)
          have hbg := fun w => HBG.out n L k h12 hlt (by have := HM0.out; omega) h2 w
          rw [HM0.out] at hbg
          have hcl := fun w => HCL.out (begN true n L k) L h2 (by omega) w
          have hsf := HSF.out n L k rfl h2 hlt (by have := HM0.out; omega) H1.out H2.out
          have hnb : Hid (∀ k', k' < k + 1 → closedL t b (begN true n L k) (begN true n L k + L - 1) = false → closedL t b (begN true n L k') (begN true n L k' + L - 1) = false) := fun k' hk' hc => by
            rcases Nat.lt_or_ge k' k with h | h
            · exact H2.out k' h
            · rw [show k' = k by omega]; exact hc
          generalize begN true n L k = bb at *
          have hsa := fun w => stretchAt_any bb L (by omega) h2 (by omega) w
          have HBG1 := Lib.hid hbg; have HSA := Lib.hid hsa; have HSF1 := Lib.hid hsf
          have hx9 : ∀ x y : Nat, x < y → x ≠ y := fun x y h => Nat.ne_of_lt h
          clear hbg hsa hsf hbl
          cases hc : closedL t b bb (bb + L - 1) with
          | true =>
            rw [hc] at hcl
            have HC1 := Lib.hid hcl
            have HSO : Hid (shortL true t b = some (bb, bb + L - 1)) := HSF1.out hc
            clear hcl hc hnb HSF1
            go_wp2_with (first
              | (go_at_call 79; ((with_reducible refine (HBG1.out _).mono ?_); rintro e w5 ⟨rfl, hb5⟩; have HV5 := Lib.hid (HV.out.below hb5); clear hb5))
              | (go_at_call 117; ((with_reducible refine (HSA.out _).mono ?_); rintro e w6 ⟨rfl, hb6⟩; have HV6 := Lib.hid (HV5.out.below hb6); clear hb6))
              | ((with_reducible refine wp_storeStrN rfl (.tmp 9) (.tmp 32) rfl _ _ rfl rfl ?_); intro w7 hs7 hb7; have HA7 := Lib.hid hs7; have HV7 := Lib.hid (HV6.out.below hb7); have d1 := HV7.out.c1; have hl7 : w.heap.size + 1 + 1 < w6.heap.size := HV6.out.fnd.lt; clear hs7 hb7)
              | (with_reducible refine wp_loadStr rfl (.tmp 9) rfl w6.heap.size bb ((bb + L - 1 : Nat) : Int) rfl HA7.out ?_)
              | (go_at_call 77; ((with_reducible refine (HC1.out _).mono ?_); rintro e w8 ⟨rfl, hb8⟩; have HA8 := Lib.hid (HA7.out.below hb8); have HV8 := Lib.hid (HV7.out.below hb8); clear hb8))
              | (with_reducible refine wp_loadStr rfl (.tmp 9) rfl w6.heap.size bb ((bb + L - 1 : Nat) : Int) rfl HA8.out ?_)
              | ((with_reducible refine wp_storeStr rfl (.tmp 4) (.tmp 37) rfl (w.heap.size + 1 + 1) bb ((bb + L - 1 : Nat) : Int) 0 0 rfl rfl HV8.out.fnd ?_); intro w9 hs9 hg9; have HF9 := Lib.hid hs9; have HR9 := Lib.hid (HV8.out.res.grown hg9 (by simp)); have HB9 := Lib.hid (HV8.out.bel.grown hg9 HV8.out.bel.size (by intro k hk; simp at hk; omega)); clear hs9 hg9)
              | (with_reducible refine wp_loadStr rfl (.tmp 4) rfl (w.heap.size + 1 + 1) bb ((bb + L - 1 : Nat) : Int) rfl HF9.out ?_)
              | ((with_reducible refine wp_storeStr rfl (.tmp 2) (.tmp 39) rfl (w.heap.size + 1) bb ((bb + L - 1 : Nat) : Int) 0 0 rfl rfl HR9.out ?_); intro w10 hs10 hg10; have HR10 := Lib.hid hs10; have HB10 := Lib.hid (HB9.out.grown hg10 HB9.out.size (by intro k hk; simp at hk; omega)); clear hs10 hg10))
            try rw [Exit.noGoto_ret]
            exact bodyPost_ret (HR13.out _ _ (w.heap.size + 1) bb ((bb + L - 1 : Nat) : Int) true HR10.out rfl rfl) rfl ⟨by rw [HSO.out]; rfl, HB10.out⟩
          | false =>
            rw [hc] at hcl
            have HC1 := Lib.hid hcl; have HC0 := Lib.hid hc; have HNB := Lib.hid (fun k' hk' => hnb.out k' hk' hc)
            clear hcl hc hnb HSF1
            go_wp2_with (first
              | (go_at_call 79; ((with_reducible refine (HBG1.out _).mono ?_); rintro e w5 ⟨rfl, hb5⟩; have HV5 := Lib.hid (HV.out.below hb5); clear hb5))
              | (go_at_call 117; ((with_reducible refine (HSA.out _).mono ?_); rintro e w6 ⟨rfl, hb6⟩; have HV6 := Lib.hid (HV5.out.below hb6); clear hb6))
              | ((with_reducible refine wp_storeStrN rfl (.tmp 9) (.tmp 32) rfl _ _ rfl rfl ?_); intro w7 hs7 hb7; have HA7 := Lib.hid hs7; have HV7 := Lib.hid (HV6.out.below hb7); have d1 := HV7.out.c1; clear hs7 hb7)
              | (with_reducible refine wp_loadStr rfl (.tmp 9) rfl w6.heap.size bb ((bb + L - 1 : Nat) : Int) rfl HA7.out ?_)
              | (go_at_call 77; ((with_reducible refine (HC1.out _).mono ?_); rintro e w8 ⟨rfl, hb8⟩; have HV8 := Lib.hid (HV7.out.below hb8); clear hb8)))
            go_roundw
            case rel => exact ⟨k + 1, by omega, rfl, by go_num, HNB.out, HV8.out⟩
            case measure => simp [intOf]; omega
        · obtain rfl : k = m := by omega
          have H3 := Lib.hid (HNX.out n L rfl h2 hlt H1.out (fun k' hk' => H2.out k' (by have := HM0.out; omega)))
          clear H1 H2
          go_wp2
          go_roundw
          case rel => exact ⟨L + 1, by omega, by omega, rfl, by go_num, H3.out, HV.out⟩
          case measure => simp [intOf]; omega
    · have HSO := Lib.hid (HNO.out n L rfl (by omega) H1.out)
      have c0 := HW.out.c0
      clear H1
      go_wp2_with (first
        | (with_reducible refine wp_loadStr rfl (.tmp 4) rfl (w.heap.size + 1 + 1) 0 0 rfl HW.out.fnd ?_)
        | ((with_reducible refine wp_storeStr rfl (.tmp 2) (.tmp 39) rfl (w.heap.size + 1) 0 0 0 0 rfl rfl HW.out.res ?_); intro w10 hs10 hg10; have HR10 := Lib.hid hs10; have HB10 := Lib.hid (HW.out.bel.grown hg10 HW.out.bel.size (by intro k hk; simp at hk; omega)); clear hs10 hg10))
      try rw [Exit.noGoto_ret]
      exact bodyPost_ret (HR13.out _ _ (w.heap.size + 1) 0 0 false HR10.out rfl rfl) rfl ⟨by rw [HSO.out]; rfl, HB10.out⟩

end Go.Proofs.Ytaeeopdiodaiaab

namespace Go.Proofs.Ytaeeopdiodaiaab
open Go.RowKit
set_option linter.unusedSimpArgs false
set_option linter.unusedVariables false

theorem short_empty : shortL false [] [] = none := by
  cases h : shortL false [] [] with
  | none => rfl
  | some p => have := (short_fits h).1; unfold proper at this; simp at this

set_option maxHeartbeats 2000000 in
theorem isWhole_any (t b : List Int) (h12 : t.length ≤ 12) (w : World) : Calls Try.prog 71 #[.agg (pairC t b)] w (Tells w (wholeB t b)) := by
  have HS := Lib.hid (fun w => searchFirst_any t b w)
  have HF := Lib.hid (fun w => shortestFirst_any t b h12 w)
  have HZ := Lib.hid (fun w => pairSize_any t b w)
  have HP := Lib.hid (PairIn.new w t b)
  have HB := Lib.hid (Below.alloc1 w (.cells (pairC t b) 70))
  have hR : wholeB t b = (decide (0 < t.length) && !(shortL false t b).isSome) := by unfold wholeB; cases shortL false t b <;> rfl
  rw [hR]
  unfold ShOut at HF
  generalize (seC (t.length : Int) t b 78) = C at *
  generalize t.length = n at *
  have hx : ∃ x y : Int, x = ((strOf (shortL false t b)).1 : Int) ∧ y = ((strOf (shortL false t b)).2 : Int) := ⟨_, _, rfl, rfl⟩
  obtain ⟨x, y, ex, ey⟩ := hx
  rw [← ex, ← ey] at HF
  generalize (shortL false t b).isSome = R at *
  clear ex ey hR h12
  by_cases h0 : 0 < n
  · rw [decide_eq_true h0, Bool.true_and]
    have hi : (0 : Int) < (n : Int) := by omega
    go_enter Try.func71, Try.ntmps71
    go_wp2_with (first
      | (with_reducible refine wp_loadPair rfl (.tmp 1) rfl w.heap.size t b rfl HP.out ?_)
      | (go_at_call 51; ((with_reducible refine (HS.out _).mono ?_); rintro e w1 ⟨rfl, hb1⟩; have HP1 := Lib.hid (HP.out.below hb1); have HB1 := Lib.hid (Below.step HB.out hb1); clear hb1))
      | (go_at_call 89; ((with_reducible refine (HF.out _).mono ?_); rintro e w2 ⟨rfl, hb2⟩; have HP2 := Lib.hid (HP1.out.below hb2); have HB2 := Lib.hid (Below.step HB1.out hb2); clear hb2))
      | ((with_reducible refine wp_storeStrN rfl (.tmp 3) (.tmp 9) rfl _ _ rfl rfl ?_); intro w3 hs3 hb3; have HP3 := Lib.hid (HP2.out.below hb3); have HB3 := Lib.hid (Below.step HB2.out hb3); clear hs3 hb3)
      | (with_reducible refine wp_loadPair rfl (.tmp 1) rfl w.heap.size t b rfl HP3.out ?_)
      | (go_at_call 76; ((with_reducible refine (HZ.out _).mono ?_); rintro e w4 ⟨rfl, hb4⟩; have HB4 := Lib.hid (Below.step HB3.out hb4); clear hb4)))
    go_ret
    exact ⟨rfl, HB4.out⟩
  · obtain rfl : n = 0 := by omega
    go_enter Try.func71, Try.ntmps71
    go_wp2_with (first
      | (with_reducible refine wp_loadPair rfl (.tmp 1) rfl w.heap.size t b rfl HP.out ?_)
      | (go_at_call 51; ((with_reducible refine (HS.out _).mono ?_); rintro e w1 ⟨rfl, hb1⟩; have HP1 := Lib.hid (HP.out.below hb1); have HB1 := Lib.hid (Below.step HB.out hb1); clear hb1))
      | (go_at_call 89; ((with_reducible refine (HF.out _).mono ?_); rintro e w2 ⟨rfl, hb2⟩; have HP2 := Lib.hid (HP1.out.below hb2); have HB2 := Lib.hid (Below.step HB1.out hb2); clear hb2))
      | ((with_reducible refine wp_storeStrN rfl (.tmp 3) (.tmp 9) rfl _ _ rfl rfl ?_); intro w3 hs3 hb3; have HP3 := Lib.hid (HP2.out.below hb3); have HB3 := Lib.hid (Below.step HB2.out hb3); clear hs3 hb3)
      | (with_reducible refine wp_loadPair rfl (.tmp 1) rfl w.heap.size t b rfl HP3.out ?_)
      | (go_at_call 76; ((with_reducible refine (HZ.out _).mono ?_); rintro e w4 ⟨rfl, hb4⟩; have HB4 := Lib.hid (Below.step HB3.out hb4); clear hb4)))
    go_ret
    exact ⟨rfl, HB4.out⟩



end Go.Proofs.Ytaeeopdiodaiaab
