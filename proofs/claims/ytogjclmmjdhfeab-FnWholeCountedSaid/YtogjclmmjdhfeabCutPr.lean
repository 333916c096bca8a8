/- The program's searches. -/
/- ShortestClosed, IsWhole: the program's functions. -/
/- IsWhole, ShortestClosed, ClosedStretches of the model. -/
/- All pairs in the model; pairs chosen in the program; CountWhole. -/
import Derived.Test.YtogjclmmjdhfeabCutIo
import Derived.Test.YtogjclmmjdhfeabCutMath
import Derived.Test.YtogjclmmjdhfeabDraw
import Derived.WalkMore
import Derived.Test.YtogjclmmjdhfeabCutAll
import Derived.Test.YtogjclmmjdhfeabMeAll
import Derived.Test.YtogjclmmjdhfeabAhAll
namespace Go.Proofs.Ytogjclmmjdhfeab
open Go.RowKit
set_option linter.unusedSimpArgs false
set_option linter.unusedVariables false

theorem results_sat (tmps : Array Value) (w : World) (g : Nat) (i j : Int) (hg : StrIn w g i j) (h4 : tmps.getD 4 undef = .pointer (some ⟨g, 0, none⟩)) :
    (results Try.f199 tmps).run Try.prog w = .ok (.agg #[.int .i64 i, .int .i64 j]) w := by
  have h4' : tmps[4]?.getD undef = .pointer (some ⟨g, 0, none⟩) := by simpa using h4
  have hr : Try.f199.results = #[.cell 4 142] := by kernel_rfl
  have hl : (loadVar 142 ⟨g, 0, none⟩).run Try.prog w = .ok (.agg #[.int .i64 i, .int .i64 j]) w := run_loadVar_row w g _ _ #[.int .i64 i, .int .i64 j] _ _ hg Try.underlying142 rfl (by rw [str_info]; rfl)
  simp [results, hr, h4', asAddr, hl]
theorem stretchAt_any (i L : Nat) (hi : i ≤ 100) (hL : 2 ≤ L) (hL2 : L ≤ 100) (w : World) : Calls Try.prog 199 #[.int .i64 (i : Int), .int .i64 (L : Int)] w fun e w' => e = .returned (.agg #[.int .i64 (i : Int), .int .i64 ((i + L - 1 : Nat) : Int)]) ∧ Below w.heap.size w w' := by
  have e : ((i + L - 1 : Nat) : Int) = (i : Int) + (L : Int) - 1 := by omega
  rw [e]
  have HS := Lib.hid (StrIn.new w 0 0)
  clear e
  go_enter Try.func199, Try.ntmps199
  go_wp2_with ((with_reducible refine wp_storeStrN rfl (.tmp 4) (.tmp 10) rfl _ _ rfl rfl ?_); intro w2 hs2 hb2)
  exact bodyPost_ret (results_sat _ _ w.heap.size _ _ hs2 rfl) rfl ⟨rfl, hb2⟩

def seC (n : Int) (t b : List Int) (F : Nat) : Array Value := #[.int .i64 n, .func (.func 131) #[.agg (pairC t b)] #[], .func (.func F) #[] #[]]
theorem se_info : (Try.prog.info? 159).map (·.size) = some 3 := by kernel_rfl
def loadV (v : Value) : Sem Value := Instr.loadAt 102 v
theorem loadV_eq (v : Value) : Instr.loadAt 102 v = loadV v := rfl
def storeV (v x : Value) : Sem Unit := Instr.storeAt 159 v x
theorem storeV_eq (v x : Value) : Instr.storeAt 159 v x = storeV v x := rfl
attribute [local go_sem ↓] loadV_eq storeV_eq
theorem se_setsAll {w : World} {g : Nat} {x0 x1 x2 y0 y1 y2 : Value} (h : w.heap[g]? = some (.cells #[x0, x1, x2] 159 (0, 0))) : (w.setCells g 0 [y0, y1, y2]).heap[g]? = some (.cells #[y0, y1, y2] 159 (0, 0)) :=
  heap_setCell_same _ g 2 _ _ y2 (heap_setCell_same _ g 1 _ _ y1 (heap_setCell_same w g 0 _ _ y0 h))
structure SeS (w0 : World) (g0 g1 : Nat) (t b : List Int) (w' : World) : Prop where
  src : PairIn w' g0 t b
  dst : w'.heap[g1]? = some (.cells #[.int .i64 0, .nilFunc, .nilFunc] 159 (0, 0))
  bel : Below w0.heap.size w0 w'
  lo : w0.heap.size ≤ g1
theorem SeS.below {w0 w1 w2 : World} {g0 g1 : Nat} {t b : List Int} (h : SeS w0 g0 g1 t b w1) (hb : Below w1.heap.size w1 w2) : SeS w0 g0 g1 t b w2 := ⟨h.src.below hb, (hb.block g1 (Array.getElem?_eq_some_iff.1 h.dst).1).trans h.dst, Below.step h.bel hb, h.lo⟩
theorem SeS.drew {w0 w1 : World} {g0 g1 : Nat} {t b : List Int} (h : SeS w0 g0 g1 t b w1) : SeS w0 g0 g1 t b w1.drew := ⟨h.src, h.dst, Below.drew h.bel, h.lo⟩
theorem SeS.new (w : World) (t b : List Int) : SeS w w.heap.size (w.heap.size + 1) t b ((w.alloc (.cells (pairC t b) 102)).alloc (.cells #[.int .i64 0, .nilFunc, .nilFunc] 159)) := by
  refine ⟨PairIn.below (heap_alloc_new w _) (Below.alloc1 _ _), ?_, Below.step (Below.alloc1 _ _) (Below.alloc1 _ _), Nat.le_succ _⟩
  have := heap_alloc_new (w.alloc (.cells (pairC t b) 102)) (.cells #[.int .i64 0, .nilFunc, .nilFunc] 159)
  rw [World.size_alloc] at this
  exact this
theorem SeS.to {w0 : World} {g0 g1 : Nat} {t b : List Int} {w' : World} (F : Nat) (n : Int) (h : SeS w0 g0 g1 t b w') :
    ∃ W, Hid (SeS w0 g0 g1 t b w') ∧ (loadV (.pointer (some ⟨g0, 0, none⟩))).run Try.prog w' = .ok (.agg (pairC t b)) w' ∧
      (storeV (.pointer (some ⟨g1, 0, none⟩)) (.agg #[.int .i64 n, .func (.func 131) #[.agg (pairC t b)] #[], .func (.func F) #[] #[]])).run Try.prog w' = .ok () W ∧
      Hid (W.heap[g1]? = some (.cells (seC n t b F) 159 (0, 0)) ∧ Below w0.heap.size w0 W) :=
  ⟨_, h, run_loadAt_mid w' g0 0 102 (pairC t b).toList _ (row_at h.src) Try.underlying102 rfl (by rw [pair_info]; rfl),
    run_storeAt_mid w' g1 0 159 #[.int .i64 n, .func (.func 131) #[.agg (pairC t b)] #[], .func (.func F) #[] #[]] (row_free w' g1 0 _ _ h.dst 3 (by simp)) (by rw [se_info]; rfl) (by simp [Value.oneCell']),
    se_setsAll h.dst, Below.setCells g1 h.lo _ 0 _ h.bel⟩

def ShOut (w : World) (r : Option Str) (e : Ending) (w' : World) : Prop := e = .returned (.tuple #[.agg #[.int .i64 ((strOf r).1 : Int), .int .i64 ((strOf r).2 : Int)], .bool r.isSome]) ∧ Below w.heap.size w w'
structure ShT (w : World) (n : Int) (P : Array Value) (F : Nat) (w' : World) : Prop where
  row : w'.heap[w.heap.size]? = some (.cells #[.int .i64 n, .func (.func 131) #[.agg P] #[], .func (.func F) #[] #[]] 159 (0, 0))
  res : StrIn w' (w.heap.size + 1) 0 0
  fnd : StrIn w' (w.heap.size + 1 + 1) 0 0
  bel : Below w.heap.size w w'
theorem ShT.below {w w1 w2 : World} {n : Int} {P : Array Value} {F : Nat} (h : ShT w n P F w1) (hb : Below w1.heap.size w1 w2) : ShT w n P F w2 := ⟨(hb.block _ (Array.getElem?_eq_some_iff.1 h.row).1).trans h.row, h.res.below hb, h.fnd.below hb, Below.step h.bel hb⟩
theorem ShT.c0 {w w' : World} {n : Int} {P : Array Value} {F : Nat} (h : ShT w n P F w') : w'.cell? ⟨w.heap.size, 0, none⟩ = some (.int .i64 n) := by rw [cell_of_row _ _ 0 _ _ _ h.row]; rfl
theorem ShT.c1 {w w' : World} {n : Int} {P : Array Value} {F : Nat} (h : ShT w n P F w') : w'.cell? ⟨w.heap.size, 1, none⟩ = some (.func (.func 131) #[.agg P] #[]) := by rw [cell_of_row _ _ 1 _ _ _ h.row]; rfl
theorem ShT.c2 {w w' : World} {n : Int} {P : Array Value} {F : Nat} (h : ShT w n P F w') : w'.cell? ⟨w.heap.size, 2, none⟩ = some (.func (.func F) #[] #[]) := by rw [cell_of_row _ _ 2 _ _ _ h.row]; rfl
def ShS (w : World) (t b : List Int) (n : Int) (F : Nat) : Prop := ShT w n (pairC t b) F (((w.alloc (.cells #[.int .i64 n, .func (.func 131) #[.agg (pairC t b)] #[], .func (.func F) #[] #[]] 159)).alloc (.cells #[.int .i64 0, .int .i64 0] 142)).alloc (.cells #[.int .i64 0, .int .i64 0] 142))
theorem sh_new (w : World) (t b : List Int) (n : Int) (F : Nat) : ShS w t b n F := by
  unfold ShS
  generalize hO : (Obj.cells #[.int .i64 n, .func (.func 131) #[.agg (pairC t b)] #[], .func (.func F) #[] #[]] 159) = O
  have h1 := StrIn.new (w.alloc O) 0 0
  have h2 := StrIn.new ((w.alloc O).alloc (.cells #[.int .i64 0, .int .i64 0] 142)) 0 0
  rw [World.size_alloc] at h1
  rw [World.size_alloc, World.size_alloc] at h2
  have h0 : (w.alloc O).heap[w.heap.size]? = some O := heap_alloc_new w O
  have B2 := Below.step (Below.alloc1 (w.alloc O) (.cells #[.int .i64 0, .int .i64 0] 142)) (Below.alloc1 _ (.cells #[.int .i64 0, .int .i64 0] 142))
  refine ⟨?_, h1.below (Below.alloc1 _ _), h2, Below.step (Below.alloc1 _ _) B2⟩
  rw [hO]
  exact (B2.block _ (by simp)).trans h0
theorem results_sho (tmps : Array Value) (w : World) (g : Nat) (i j : Int) (ok : Bool) (hg : StrIn w g i j) (h2 : tmps.getD 2 undef = .pointer (some ⟨g, 0, none⟩)) (h3 : tmps.getD 3 undef = .bool ok) :
    (results Try.f140 tmps).run Try.prog w = .ok (.tuple #[.agg #[.int .i64 i, .int .i64 j], .bool ok]) w := by
  have h2' : tmps[2]?.getD undef = .pointer (some ⟨g, 0, none⟩) := by simpa using h2
  have h3' : tmps[3]?.getD undef = .bool ok := by simpa using h3
  have hr : Try.f140.results = #[.cell 2 142, .tmp 3] := by kernel_rfl
  have hl : (loadVar 142 ⟨g, 0, none⟩).run Try.prog w = .ok (.agg #[.int .i64 i, .int .i64 j]) w := run_loadVar_row w g _ _ #[.int .i64 i, .int .i64 j] _ _ hg Try.underlying142 rfl (by rw [str_info]; rfl)
  simp [results, hr, h2', h3', asAddr, hl]

theorem results_seFirst (tmps : Array Value) (w : World) (g : Nat) (C : Array Value) (hC : C.size = 3) (hg : w.heap[g]? = some (.cells C 159 (0, 0))) (h2 : tmps.getD 2 undef = .pointer (some ⟨g, 0, none⟩)) :
    (results Try.f139 tmps).run Try.prog w = .ok (.agg C) w :=
  results_cell_row (by kernel_rfl) tmps w g _ C _ _ h2 hg Try.underlying159 rfl (by rw [se_info, hC])
set_option maxRecDepth 100000 in
set_option maxHeartbeats 4000000 in
theorem searchFirst_any (t b : List Int) (w : World) : Calls Try.prog 139 #[.agg (pairC t b)] w fun e w' => e = .returned (.agg (seC (t.length : Int) t b 198)) ∧ Below w.heap.size w w' := by
  have HSZ := Lib.hid (fun w => pairSize_any t b w)
  have HS := Lib.hid (SeS.new w t b)
  have HC : Hid ((seC (t.length : Int) t b 198).size = 3) := rfl
  have HTO := Lib.hid (fun w' (h : SeS w w.heap.size (w.heap.size + 1) t b w') => SeS.to 198 (t.length : Int) h)
  generalize seC (t.length : Int) t b 198 = C at *
  generalize t.length = n at *
  go_enter Try.func139, Try.ntmps139
  go_wp2_with fail
  generalize ((w.alloc (.cells (pairC t b) 102)).alloc (.cells #[.int .i64 0, .nilFunc, .nilFunc] 159)) = W2 at *
  obtain ⟨W0, Y0, y1, y2, y3⟩ := HTO.out _ (SeS.drew HS.out)
  have hP : ∃ P, pairC t b = P := ⟨_, rfl⟩
  obtain ⟨P, hP⟩ := hP
  rw [hP] at *
  clear hP
  go_region_with (go_at_call 84; ((with_reducible refine (HSZ.out _).mono ?_); rintro e' w' ⟨rfl, hb'⟩; obtain ⟨W1, Y1, y4, y5, y6⟩ := HTO.out _ (SeS.below (Hid.out (by assumption)) hb')))
  all_goals
    go_wp2_with fail
    exact bodyPost_ret (results_seFirst _ _ (w.heap.size + 1) C HC.out y6.out.1 rfl) rfl ⟨rfl, y6.out.2⟩

theorem beginFirst_any (n L k : Nat) (hn : n ≤ 12) (hL : L < n) (hk : k < n - L + 1) (h2 : 2 ≤ L) (w : World) : Calls Try.prog 198 #[.int .i64 (k : Int), .int .i64 ((n - L + 1 : Nat) : Int)] w fun e w' => e = .returned (.int .i64 (begN false n L k : Int)) ∧ Below w.heap.size w w' := by
  have e : (begN false n L k : Int) = (k : Int) := by first | rfl | (simp only [begN, Bool.false_eq_true, if_false]; omega)
  rw [e]
  clear e
  go_enter Try.func198, Try.ntmps198
  go_wp2
  go_ret
  exact ⟨rfl, Below.refl _ _⟩

set_option maxRecDepth 100000 in
set_option maxHeartbeats 8000000 in
theorem shortestFirst_any (t b : List Int) (h12 : t.length ≤ 12) (w : World) : Calls Try.prog 140 #[.agg (seC (t.length : Int) t b 198)] w (ShOut w (shortL false t b)) := by
  have HCL := Lib.hid (fun (i L : Nat) (h2 : 2 ≤ L) (h : i + L ≤ 12) (w : World) => isClosed_any t b i (i + L - 1) (by omega) (by omega) w)
  have HSF := Lib.hid (fun (n L k : Nat) (hn : t.length = n) (h2 : 2 ≤ L) (hL : L < n) (hk : k < n - L + 1) H1 H2 hc => short_found (last := false) (b := b) hn h2 hL hk H1 H2 hc)
  have HNX := Lib.hid (fun (n L : Nat) (hn : t.length = n) (h2 : 2 ≤ L) (hL : L < n) H1 H2 => short_next (last := false) (b := b) hn h2 hL H1 H2)
  have HNO := Lib.hid (fun (n L : Nat) (hn : t.length = n) (hL : n ≤ L) H1 => short_none (last := false) (b := b) hn hL H1)
  have HST := Lib.hid (short_start (t := t) (b := b))
  have HBG := Lib.hid (fun (n L k : Nat) (hn : n ≤ 12) (hL : L < n) (hk : k < n - L + 1) (h2 : 2 ≤ L) (w : World) => beginFirst_any n L k hn hL hk h2 w)
  have hse := sh_new w t b (t.length : Int) 198
  generalize hn : t.length = n at *
  have HN := Lib.hid hn; clear hn
  have HS := Lib.hid hse
  clear hse
  have HR13 := Lib.hid results_sho
  unfold seC at *
  have hP : ∃ P, pairC t b = P := ⟨_, rfl⟩
  obtain ⟨P, hP⟩ := hP
  have HPE := Lib.hid hP
  unfold ShS at HS
  rw [hP] at HS HCL ⊢
  clear hP
  go_enter Try.func140, Try.ntmps140
  go_wp2
  go_step3
  go_wp2
  go_step3
  go_wp2
  generalize (((w.alloc (.cells #[.int .i64 (n : Int), .func (.func 131) #[.agg P] #[], .func (.func 198) #[] #[]] 159)).alloc (.cells #[.int .i64 0, .int .i64 0] 142)).alloc (.cells #[.int .i64 0, .int .i64 0] 142)) = W3 at *
  go_loopw [5, 6] (fun ff x wr => ∃ L : Nat, 2 ≤ L ∧ L ≤ 13 ∧ ff = .bool false ∧ x = .int .i64 (L : Int) ∧ Hid (∀ p, Fits t b p → L ≤ slen p + 1) ∧ Hid (ShT w (n : Int) P 198 wr)) (fun _ x _ => 14 - (intOf x).toNat)
  case atStart => exact ⟨2, by omega, by omega, rfl, rfl, HST.out, HS.out⟩
  case round =>
    obtain ⟨L, h2, hL13, rfl, rfl, H1, HW⟩ := hrel
    clear HS HST
    generalize wr = wa at *
    by_cases hlt : L < n
    · have c0 := HW.out.c0; have c1 := HW.out.c1; have c2 := HW.out.c2
      obtain ⟨m, hm0⟩ : ∃ m, n - L + 1 = m := ⟨_, rfl⟩
      have hm : (n : Int) - (L : Int) + 1 = (m : Int) := by omega
      have hm12 : m ≤ 11 := by omega
      have HM0 := Lib.hid hm0; clear hm0
      go_wp2
      clear hm
      go_loopw [5, 23] (fun ff y wr => ∃ k : Nat, k ≤ m ∧ ff = .bool false ∧ y = .int .i64 (k : Int) ∧ Hid (∀ k', k' < k → closedL t b (begN false n L k') (begN false n L k' + L - 1) = false) ∧ Hid (ShT w (n : Int) P 198 wr)) (fun _ y _ => m - (intOf y).toNat)
      case atStart => exact ⟨0, by omega, rfl, rfl, fun k' hk' => absurd hk' (Nat.not_lt_zero _), HW⟩
      case round =>
        obtain ⟨k, hk, rfl, rfl, H2, HV⟩ := hrel
        clear c0 c1 c2
        generalize wr = wb at *
        by_cases hkl : k < m
        · have c0 := HV.out.c0; have c1 := HV.out.c1; have c2 := HV.out.c2
          have hbl := begN_le (last := false) hlt (show k < n - L + 1 by have := HM0.out; omega)
          have hbg := fun w => HBG.out n L k h12 hlt (by have := HM0.out; omega) h2 w
          rw [HM0.out] at hbg
          have hcl := fun w => HCL.out (begN false n L k) L h2 (by omega) w
          have hsf := HSF.out n L k rfl h2 hlt (by have := HM0.out; omega) H1.out H2.out
          have hnb : Hid (∀ k', k' < k + 1 → closedL t b (begN false n L k) (begN false n L k + L - 1) = false → closedL t b (begN false n L k') (begN false n L k' + L - 1) = false) := fun k' hk' hc => by
            rcases Nat.lt_or_ge k' k with h | h
            · exact H2.out k' h
            · rw [show k' = k by omega]; exact hc
          generalize begN false n L k = bb at *
          have hsa := fun w => stretchAt_any bb L (by omega) h2 (by omega) w
          have HBG1 := Lib.hid hbg; have HSA := Lib.hid hsa; have HSF1 := Lib.hid hsf
          have hx9 : ∀ x y : Nat, x < y → x ≠ y := fun x y h => Nat.ne_of_lt h
          clear hbg hsa hsf hbl
          cases hc : closedL t b bb (bb + L - 1) with
          | true =>
            rw [hc] at hcl
            have HC1 := Lib.hid hcl
            have HSO : Hid (shortL false t b = some (bb, bb + L - 1)) := HSF1.out hc
            clear hcl hc hnb HSF1
            go_wp2_with (first
              | (go_at_call 198; ((with_reducible refine (HBG1.out _).mono ?_); rintro e w5 ⟨rfl, hb5⟩; have HV5 := Lib.hid (HV.out.below hb5); clear hb5))
              | (go_at_call 199; ((with_reducible refine (HSA.out _).mono ?_); rintro e w6 ⟨rfl, hb6⟩; have HV6 := Lib.hid (HV5.out.below hb6); clear hb6))
              | ((with_reducible refine wp_storeStrN rfl (.tmp 9) (.tmp 32) rfl _ _ rfl rfl ?_); intro w7 hs7 hb7; have HA7 := Lib.hid hs7; have HV7 := Lib.hid (HV6.out.below hb7); have d1 := HV7.out.c1; have hl7 : w.heap.size + 1 + 1 < w6.heap.size := HV6.out.fnd.lt; clear hs7 hb7)
              | (with_reducible refine wp_loadStr rfl (.tmp 9) rfl w6.heap.size bb ((bb + L - 1 : Nat) : Int) rfl HA7.out ?_)
              | (go_at_call 131; ((with_reducible refine (HC1.out _).mono ?_); rintro e w8 ⟨rfl, hb8⟩; have HA8 := Lib.hid (HA7.out.below hb8); have HV8 := Lib.hid (HV7.out.below hb8); clear hb8))
              | (with_reducible refine wp_loadStr rfl (.tmp 9) rfl w6.heap.size bb ((bb + L - 1 : Nat) : Int) rfl HA8.out ?_)
              | ((with_reducible refine wp_storeStr rfl (.tmp 4) (.tmp 37) rfl (w.heap.size + 1 + 1) bb ((bb + L - 1 : Nat) : Int) 0 0 rfl rfl HV8.out.fnd ?_); intro w9 hs9 hg9; have HF9 := Lib.hid hs9; have HR9 := Lib.hid (HV8.out.res.grown hg9 (by simp)); have HB9 := Lib.hid (HV8.out.bel.grown hg9 HV8.out.bel.size (by intro k hk; simp at hk; omega)); clear hs9 hg9)
              | (with_reducible refine wp_loadStr rfl (.tmp 4) rfl (w.heap.size + 1 + 1) bb ((bb + L - 1 : Nat) : Int) rfl HF9.out ?_)
              | ((with_reducible refine wp_storeStr rfl (.tmp 2) (.tmp 39) rfl (w.heap.size + 1) bb ((bb + L - 1 : Nat) : Int) 0 0 rfl rfl HR9.out ?_); intro w10 hs10 hg10; have HR10 := Lib.hid hs10; have HB10 := Lib.hid (HB9.out.grown hg10 HB9.out.size (by intro k hk; simp at hk; omega)); clear hs10 hg10))
            try rw [Exit.noGoto_ret]
            exact bodyPost_ret (HR13.out _ _ (w.heap.size + 1) bb ((bb + L - 1 : Nat) : Int) true HR10.out rfl rfl) rfl ⟨by rw [HSO.out]; rfl, HB10.out⟩
          | false =>
            rw [hc] at hcl
            have HC1 := Lib.hid hcl; have HC0 := Lib.hid hc; have HNB := Lib.hid (fun k' hk' => hnb.out k' hk' hc)
            clear hcl hc hnb HSF1
            go_wp2_with (first
              | (go_at_call 198; ((with_reducible refine (HBG1.out _).mono ?_); rintro e w5 ⟨rfl, hb5⟩; have HV5 := Lib.hid (HV.out.below hb5); clear hb5))
              | (go_at_call 199; ((with_reducible refine (HSA.out _).mono ?_); rintro e w6 ⟨rfl, hb6⟩; have HV6 := Lib.hid (HV5.out.below hb6); clear hb6))
              | ((with_reducible refine wp_storeStrN rfl (.tmp 9) (.tmp 32) rfl _ _ rfl rfl ?_); intro w7 hs7 hb7; have HA7 := Lib.hid hs7; have HV7 := Lib.hid (HV6.out.below hb7); have d1 := HV7.out.c1; clear hs7 hb7)
              | (with_reducible refine wp_loadStr rfl (.tmp 9) rfl w6.heap.size bb ((bb + L - 1 : Nat) : Int) rfl HA7.out ?_)
              | (go_at_call 131; ((with_reducible refine (HC1.out _).mono ?_); rintro e w8 ⟨rfl, hb8⟩; have HV8 := Lib.hid (HV7.out.below hb8); clear hb8)))
            go_roundw
            case rel => exact ⟨k + 1, by omega, rfl, by go_num, HNB.out, HV8.out⟩
            case measure => simp [intOf]; omega
        · obtain rfl : k = m := by omega
          have H3 := Lib.hid (HNX.out n L rfl h2 hlt H1.out (fun k' hk' => H2.out k' (by have := HM0.out; omega)))
          clear H1 H2
          go_wp2
          go_roundw
          case rel => exact ⟨L + 1, by omega, by omega, rfl, by go_num, H3.out, HV.out⟩
          case measure => simp [intOf]; omega
    · have HSO := Lib.hid (HNO.out n L rfl (by omega) H1.out)
      have c0 := HW.out.c0
      clear H1
      go_wp2_with (first
        | (with_reducible refine wp_loadStr rfl (.tmp 4) rfl (w.heap.size + 1 + 1) 0 0 rfl HW.out.fnd ?_)
        | ((with_reducible refine wp_storeStr rfl (.tmp 2) (.tmp 39) rfl (w.heap.size + 1) 0 0 0 0 rfl rfl HW.out.res ?_); intro w10 hs10 hg10; have HR10 := Lib.hid hs10; have HB10 := Lib.hid (HW.out.bel.grown hg10 HW.out.bel.size (by intro k hk; simp at hk; omega)); clear hs10 hg10))
      try rw [Exit.noGoto_ret]
      exact bodyPost_ret (HR13.out _ _ (w.heap.size + 1) 0 0 false HR10.out rfl rfl) rfl ⟨by rw [HSO.out]; rfl, HB10.out⟩


end Go.Proofs.Ytogjclmmjdhfeab

namespace Go.Proofs.Ytogjclmmjdhfeab
open Go.RowKit
set_option linter.unusedSimpArgs false
set_option linter.unusedVariables false

theorem short_empty : shortL false [] [] = none := by
  cases h : shortL false [] [] with
  | none => rfl
  | some p => have := (short_fits h).1; unfold proper at this; simp at this

set_option maxHeartbeats 2000000 in
theorem isWhole_any (t b : List Int) (h12 : t.length ≤ 12) (w : World) : Calls Try.prog 142 #[.agg (pairC t b)] w (Tells w (wholeB t b)) := by
  have HS := Lib.hid (fun w => searchFirst_any t b w)
  have HF := Lib.hid (fun w => shortestFirst_any t b h12 w)
  have HZ := Lib.hid (fun w => pairSize_any t b w)
  have HP := Lib.hid (PairIn.new w t b)
  have HB := Lib.hid (Below.alloc1 w (.cells (pairC t b) 102))
  have hR : wholeB t b = (decide (0 < t.length) && !(shortL false t b).isSome) := by unfold wholeB; cases shortL false t b <;> rfl
  rw [hR]
  unfold ShOut at HF
  generalize (seC (t.length : Int) t b 198) = C at *
  generalize t.length = n at *
  have hx : ∃ x y : Int, x = ((strOf (shortL false t b)).1 : Int) ∧ y = ((strOf (shortL false t b)).2 : Int) := ⟨_, _, rfl, rfl⟩
  obtain ⟨x, y, ex, ey⟩ := hx
  rw [← ex, ← ey] at HF
  generalize (shortL false t b).isSome = R at *
  clear ex ey hR h12
  by_cases h0 : 0 < n
  · rw [decide_eq_true h0, Bool.true_and]
    have hi : (0 : Int) < (n : Int) := by omega
    go_enter Try.func142, Try.ntmps142
    go_wp2_with (first
      | (with_reducible refine wp_loadPair rfl (.tmp 1) rfl w.heap.size t b rfl HP.out ?_)
      | (go_at_call 139; ((with_reducible refine (HS.out _).mono ?_); rintro e w1 ⟨rfl, hb1⟩; have HP1 := Lib.hid (HP.out.below hb1); have HB1 := Lib.hid (Below.step HB.out hb1); clear hb1))
      | (go_at_call 140; ((with_reducible refine (HF.out _).mono ?_); rintro e w2 ⟨rfl, hb2⟩; have HP2 := Lib.hid (HP1.out.below hb2); have HB2 := Lib.hid (Below.step HB1.out hb2); clear hb2))
      | ((with_reducible refine wp_storeStrN rfl (.tmp 3) (.tmp 9) rfl _ _ rfl rfl ?_); intro w3 hs3 hb3; have HP3 := Lib.hid (HP2.out.below hb3); have HB3 := Lib.hid (Below.step HB2.out hb3); clear hs3 hb3)
      | (with_reducible refine wp_loadPair rfl (.tmp 1) rfl w.heap.size t b rfl HP3.out ?_)
      | (go_at_call 84; ((with_reducible refine (HZ.out _).mono ?_); rintro e w4 ⟨rfl, hb4⟩; have HB4 := Lib.hid (Below.step HB3.out hb4); clear hb4)))
    go_ret
    exact ⟨rfl, HB4.out⟩
  · obtain rfl : n = 0 := by omega
    go_enter Try.func142, Try.ntmps142
    go_wp2_with (first
      | (with_reducible refine wp_loadPair rfl (.tmp 1) rfl w.heap.size t b rfl HP.out ?_)
      | (go_at_call 139; ((with_reducible refine (HS.out _).mono ?_); rintro e w1 ⟨rfl, hb1⟩; have HP1 := Lib.hid (HP.out.below hb1); have HB1 := Lib.hid (Below.step HB.out hb1); clear hb1))
      | (go_at_call 140; ((with_reducible refine (HF.out _).mono ?_); rintro e w2 ⟨rfl, hb2⟩; have HP2 := Lib.hid (HP1.out.below hb2); have HB2 := Lib.hid (Below.step HB1.out hb2); clear hb2))
      | ((with_reducible refine wp_storeStrN rfl (.tmp 3) (.tmp 9) rfl _ _ rfl rfl ?_); intro w3 hs3 hb3; have HP3 := Lib.hid (HP2.out.below hb3); have HB3 := Lib.hid (Below.step HB2.out hb3); clear hs3 hb3)
      | (with_reducible refine wp_loadPair rfl (.tmp 1) rfl w.heap.size t b rfl HP3.out ?_)
      | (go_at_call 84; ((with_reducible refine (HZ.out _).mono ?_); rintro e w4 ⟨rfl, hb4⟩; have HB4 := Lib.hid (Below.step HB3.out hb4); clear hb4)))
    go_ret
    exact ⟨rfl, HB4.out⟩

set_option maxHeartbeats 2000000 in
theorem impl_IsWhole (t b : List Int) (w : World) (u1 u2 : Value) (h1 : Rd w u1 t) (h2 : Rd w u2 b) (m1 : t.length ≤ 1048576) (m2 : b.length ≤ 1048576) :
    Calls Try.prog 62 #[.agg #[u1, u2]] w (GivesD w (res_IsWhole t b) (ok_IsWhole t b)) := by
  have hres : res_IsWhole t b = wholeB (if pairOk t b then t else []) (if pairOk t b then b else []) := by
    unfold res_IsWhole
    cases pairOk t b <;> simp [wholeB]
  obtain ⟨q1, q2, q3⟩ := read_good t b
  rw [hres]
  unfold ok_IsWhole
  have hA := Box2.new 26 w u1 u2
  have B1 : Below w.heap.size w (w.alloc (.cells #[u1, u2] 26)) := Below.alloc1 w _
  have k0 := hA.c0; have k1 := hA.c1
  have hrd := readPair_any t b _ u1 u2 (h1.below B1) (h2.below B1)
  have HB := Lib.hid B1; have HR := Lib.hid hrd
  clear hA B1 h1 h2 hrd hres
  generalize (if pairOk t b then t else []) = T at *
  generalize (if pairOk t b then b else []) = B at *
  generalize pairOk t b = R at *
  have HC := Lib.hid (fun w => isWhole_any T B (good_len' q1) w)
  clear q1 q2 q3
  generalize wholeB T B = N at *
  go_enter Try.func62, Try.ntmps62
  go_wp2_with fail
  refine HR.out.mono ?_
  rintro e w1 ⟨rfl, hb1⟩
  have HB1 := Lib.hid (Below.step HB.out hb1); clear hb1 k0 k1
  go_wp2_with (first
    | ((with_reducible refine wp_storePairN rfl (.tmp 4) (.tmp 9) rfl T B rfl rfl ?_); intro w2 hs2 hb2; have HS2 := Lib.hid hs2; have HB2 := Lib.hid (Below.step HB1.out hb2); clear hs2 hb2)
    | (with_reducible refine wp_loadPair rfl (.tmp 4) rfl w1.heap.size T B rfl HS2.out ?_)
    | (go_at_call 142; ((with_reducible refine (HC.out _).mono ?_); rintro e w3 ⟨rfl, hb3⟩; have HB3 := Lib.hid (Below.step HB2.out hb3); clear hb3)))
  go_ret2
  exact ⟨rfl, HB3.out⟩

def GivesC (w : World) (r s : Int) (ok : Bool) (e : Ending) (w' : World) : Prop := e = .returned (.tuple #[.int .i64 r, .int .i64 s, .bool ok]) ∧ Below w.heap.size w w'
set_option maxHeartbeats 2000000 in
theorem impl_ShortestClosed (t b : List Int) (w : World) (u1 u2 : Value) (h1 : Rd w u1 t) (h2 : Rd w u2 b) (m1 : t.length ≤ 1048576) (m2 : b.length ≤ 1048576) :
    Calls Try.prog 60 #[.agg #[u1, u2]] w (GivesC w (res1_ShortestClosed t b) (res2_ShortestClosed t b) (ok_ShortestClosed t b)) := by
  unfold res1_ShortestClosed res2_ShortestClosed ok_ShortestClosed
  have hA := Box2.new 26 w u1 u2
  have B1 : Below w.heap.size w (w.alloc (.cells #[u1, u2] 26)) := Below.alloc1 w _
  have k0 := hA.c0; have k1 := hA.c1
  have hrd := readPair_any t b _ u1 u2 (h1.below B1) (h2.below B1)
  have HB := Lib.hid B1
  clear hA B1 h1 h2
  cases h : pairOk t b with
  | false =>
    rw [h] at hrd
    simp only [Bool.false_eq_true, if_false, Bool.false_and] at hrd ⊢
    have HR := Lib.hid hrd; clear hrd h
    go_enter Try.func60, Try.ntmps60
    go_wp2_with fail
    refine HR.out.mono ?_
    rintro e w1 ⟨rfl, hb1⟩
    have HB1 := Lib.hid (Below.step HB.out hb1); clear hb1 k0 k1
    go_wp2_with ((with_reducible refine wp_storePairN rfl (.tmp 5) (.tmp 12) rfl [] [] rfl rfl ?_); intro w2 hs2 hb2; have HB2 := Lib.hid (Below.step HB1.out hb2); clear hs2 hb2)
    go_ret3
    exact ⟨rfl, HB2.out⟩
  | true =>
    rw [h] at hrd
    simp only [if_true, Bool.true_and] at hrd ⊢
    have h12 := (pair12 (pairOk_good h)).1
    have HS := Lib.hid (fun w => searchFirst_any t b w)
    have HF := Lib.hid (fun w => shortestFirst_any t b h12 w)
    unfold ShOut at HF
    generalize (seC (t.length : Int) t b 198) = C at *
    generalize ((strOf (shortL false t b)).1 : Int) = x at *
    generalize ((strOf (shortL false t b)).2 : Int) = y at *
    generalize (shortL false t b).isSome = R at *
    have HR := Lib.hid hrd; clear hrd h h12
    go_enter Try.func60, Try.ntmps60
    go_wp2_with fail
    refine HR.out.mono ?_
    rintro e w1 ⟨rfl, hb1⟩
    have HB1 := Lib.hid (Below.step HB.out hb1); clear hb1 k0 k1
    go_wp2_with (first
      | ((with_reducible refine wp_storePairN rfl (.tmp 5) (.tmp 12) rfl t b rfl rfl ?_); intro w2 hs2 hb2; have HS2 := Lib.hid hs2; have HB2 := Lib.hid (Below.step HB1.out hb2); clear hs2 hb2)
      | (with_reducible refine wp_loadPair rfl (.tmp 5) rfl w1.heap.size t b rfl HS2.out ?_)
      | (go_at_call 139; ((with_reducible refine (HS.out _).mono ?_); rintro e w3 ⟨rfl, hb3⟩; have HB3 := Lib.hid (Below.step HB2.out hb3); clear hb3))
      | (go_at_call 140; ((with_reducible refine (HF.out _).mono ?_); rintro e w4 ⟨rfl, hb4⟩; have HB4 := Lib.hid (Below.step HB3.out hb4); clear hb4))
      | ((with_reducible refine wp_storeStrN rfl (.tmp 7) (.tmp 20) rfl _ _ rfl rfl ?_); intro w5 hs5 hb5; have q0 := hs5.c0; have q1 := hs5.c1; have HB5 := Lib.hid (Below.step HB4.out hb5); clear hs5 hb5))
    go_quiet (fail)
    go_wp2
    go_ret3
    exact ⟨rfl, Below.drewN HB5.out _⟩

end Go.Proofs.Ytogjclmmjdhfeab

namespace Go.Proofs.Ytogjclmmjdhfeab
open Go.RowKit
set_option linter.unusedSimpArgs false
set_option linter.unusedVariables false

theorem cuts_none {t b : List Int} : (cutsL t b).length = 0 ↔ shortL false t b = none := by
  constructor
  · intro h
    unfold shortL
    rw [List.eq_nil_of_length_eq_zero h]
    rfl
  · intro h
    have hb := short_best false t b
    rw [h] at hb
    cases hc : cutsL t b with
    | nil => rfl
    | cons p r =>
      exfalso
      have hm : p ∈ cutsL t b := by rw [hc]; exact List.mem_cons_self
      have hm2 := List.mem_filter.1 hm
      exact hb p ⟨(mem_strAll t.length p).1 hm2.1, by simpa using hm2.2⟩
theorem whole_len (t b : List Int) : wholeB t b = (decide (0 < t.length) && decide ((cutsL t b).length = 0)) := by
  unfold wholeB
  congr 1
  rw [Bool.eq_iff_iff]
  simp only [decide_eq_true_eq, Option.isNone_iff_eq_none]
  exact cuts_none.symm

set_option maxHeartbeats 1000000 in
theorem siWhole_any (t b : List Int) (hl : t.length = b.length) (h12 : t.length ≤ 12) (w : World) (u1 u2 : Value) (h1 : Rd w u1 t) (h2 : Rd w u2 b) :
    Calls Try.prog 143 #[.agg #[u1, u2]] w (Tells w (wholeB t b)) := by
  have hA := Box2.new 26 w u1 u2
  have B1 : Below w.heap.size w (w.alloc (.cells #[u1, u2] 26)) := Below.alloc1 w _
  have k0 := hA.c0; have k1 := hA.c1
  have HAL := Lib.hid (siAll_any t b hl h12 _ u1 u2 (h1.below B1) (h2.below B1))
  have HB := Lib.hid B1
  obtain ⟨a1, c1, rfl, hc1, hm1, _⟩ := h1
  unfold maxLen at hm1
  have hlen : (cutsL t b).length ≤ 144 := cutsL_len h12
  have HM : Hid (((cutsL t b).map rowOf).length = (cutsL t b).length) := List.length_map _
  rw [whole_len]
  generalize (cutsL t b).map rowOf = M at *
  generalize (cutsL t b).length = m at *
  generalize t.length = n at *
  clear hA B1 h2 hl
  by_cases h0 : 0 < n
  · have hi : (0 : Int) < (n : Int) := by omega
    rw [decide_eq_true h0, Bool.true_and]
    by_cases hm : m = 0
    · subst hm
      go_enter Try.func143, Try.ntmps143
      go_wp2_with fail
      refine HAL.out.mono ?_
      rintro e w1 ⟨v, vs, rfl, hown, hb1⟩
      obtain ⟨a5, c5, rfl, hc5, hm5⟩ := hown.form
      unfold maxLen at hm5
      rw [HM.out] at hc5 ⊢
      clear hown
      go_wp2
      go_ret
      exact ⟨rfl, Below.step HB.out hb1⟩
    · have hd : ((m : Int) == 0) = false := by simp; omega
      rw [decide_eq_false hm]
      go_enter Try.func143, Try.ntmps143
      go_wp2_with fail
      refine HAL.out.mono ?_
      rintro e w1 ⟨v, vs, rfl, hown, hb1⟩
      obtain ⟨a5, c5, rfl, hc5, hm5⟩ := hown.form
      unfold maxLen at hm5
      rw [HM.out] at hc5 ⊢
      clear hown
      go_wp2
      go_ret
      exact ⟨by simp [hd], Below.step HB.out hb1⟩
  · obtain rfl : n = 0 := by omega
    go_enter Try.func143, Try.ntmps143
    go_wp2
    go_ret
    exact ⟨rfl, HB.out⟩

set_option maxHeartbeats 1000000 in
theorem spec_IsWhole (t b : List Int) (w : World) (u1 u2 : Value) (h1 : Rd w u1 t) (h2 : Rd w u2 b) (m1 : t.length ≤ 1048576) (m2 : b.length ≤ 1048576) :
    Calls Try.prog 63 #[.agg #[u1, u2]] w (GivesD w (res_IsWhole t b) (ok_IsWhole t b)) := by
  unfold res_IsWhole ok_IsWhole
  have hA := Box2.new 26 w u1 u2
  have B1 : Below w.heap.size w (w.alloc (.cells #[u1, u2] 26)) := Below.alloc1 w _
  have k0 := hA.c0; have k1 := hA.c1
  have hrd := mePair_any t b _ u1 u2 (h1.below B1) (h2.below B1) m1 m2
  have HB := Lib.hid B1; have HA := Lib.hid hA; have H1 := Lib.hid (h1.below B1); have H2 := Lib.hid (h2.below B1)
  clear hA B1 h1 h2
  cases e1 : pairOk t b with
  | false =>
    rw [e1] at hrd
    have HR := Lib.hid hrd; clear hrd e1
    go_enter Try.func63, Try.ntmps63
    go_wp2_with fail
    refine HR.out.mono ?_
    rintro e w1 ⟨rfl, hb1⟩
    go_wp2
    go_ret2
    exact ⟨rfl, Below.step HB.out hb1⟩
  | true =>
    rw [e1] at hrd
    have hg := pairOk_good e1
    have HT := Lib.hid (fun w h1 h2 => siWhole_any t b hg.2.2 (pair12 hg).1 w u1 u2 h1 h2)
    have HR := Lib.hid hrd; clear hrd e1 hg
    simp only [Bool.true_and]
    generalize wholeB t b = N at *
    go_enter Try.func63, Try.ntmps63
    go_wp2_with fail
    refine HR.out.mono ?_
    rintro e w1 ⟨rfl, hb1⟩
    have n0 := (HA.out.below hb1).c0; have n1 := (HA.out.below hb1).c1
    have H11 := Lib.hid (H1.out.below hb1); have H21 := Lib.hid (H2.out.below hb1); have HB1 := Lib.hid (Below.step HB.out hb1)
    clear hb1 k0 k1
    go_wp2_with fail
    refine (HT.out _ H11.out H21.out).mono ?_
    rintro e w2 ⟨rfl, hb2⟩
    go_wp2
    go_ret2
    exact ⟨rfl, Below.step HB1.out hb2⟩

set_option maxHeartbeats 1000000 in
theorem spec_ClosedStretches (t b : List Int) (w : World) (u1 u2 : Value) (h1 : Rd w u1 t) (h2 : Rd w u2 b) (m1 : t.length ≤ 1048576) (m2 : b.length ≤ 1048576) :
    Calls Try.prog 59 #[.agg #[u1, u2]] w (GivesLL w (res_ClosedStretches t b) (ok_ClosedStretches t b)) := by
  unfold res_ClosedStretches ok_ClosedStretches
  have hA := Box2.new 26 w u1 u2
  have B1 : Below w.heap.size w (w.alloc (.cells #[u1, u2] 26)) := Below.alloc1 w _
  have k0 := hA.c0; have k1 := hA.c1
  have hrd := mePair_any t b _ u1 u2 (h1.below B1) (h2.below B1) m1 m2
  have HB := Lib.hid B1; have HA := Lib.hid hA; have H1 := Lib.hid (h1.below B1); have H2 := Lib.hid (h2.below B1)
  clear hA B1 h1 h2
  cases e1 : pairOk t b with
  | false =>
    rw [e1] at hrd
    have HR := Lib.hid hrd; clear hrd e1
    simp only [Bool.false_eq_true, if_false]
    go_enter Try.func59, Try.ntmps59
    go_wp2_with fail
    refine HR.out.mono ?_
    rintro e w1 ⟨rfl, hb1⟩
    go_wp2
    go_ret2
    exact ⟨_, [], rfl, OwnLL.mono (OwnLL.nil _ _ (Nat.le_refl _)) (Below.step HB.out hb1).size (Nat.le_refl _) (Nat.le_refl _), Below.step HB.out hb1⟩
  | true =>
    rw [e1] at hrd
    have hg := pairOk_good e1
    have HT := Lib.hid (fun w h1 h2 => siAll_any t b hg.2.2 (pair12 hg).1 w u1 u2 h1 h2)
    have HR := Lib.hid hrd; clear hrd e1 hg
    simp only [if_true]
    generalize (cutsL t b).map rowOf = M at *
    go_enter Try.func59, Try.ntmps59
    go_wp2_with fail
    refine HR.out.mono ?_
    rintro e w1 ⟨rfl, hb1⟩
    have n0 := (HA.out.below hb1).c0; have n1 := (HA.out.below hb1).c1
    have H11 := Lib.hid (H1.out.below hb1); have H21 := Lib.hid (H2.out.below hb1); have HB1 := Lib.hid (Below.step HB.out hb1)
    clear hb1 k0 k1
    go_wp2_with fail
    refine (HT.out _ H11.out H21.out).mono ?_
    rintro e w2 ⟨v, vs, rfl, ho, hb2⟩
    obtain ⟨a5, c5, rfl, _⟩ := ho.form
    have HO := Lib.hid ho; clear ho
    go_wp2
    go_ret2
    exact ⟨_, _, rfl, OwnLL.mono HO.out HB1.out.size (Nat.le_refl _) (Nat.le_refl _), Below.step HB1.out hb2⟩

set_option maxHeartbeats 1000000 in
theorem spec_ShortestClosed (t b : List Int) (w : World) (u1 u2 : Value) (h1 : Rd w u1 t) (h2 : Rd w u2 b) (m1 : t.length ≤ 1048576) (m2 : b.length ≤ 1048576) :
    Calls Try.prog 61 #[.agg #[u1, u2]] w (GivesC w (res1_ShortestClosed t b) (res2_ShortestClosed t b) (ok_ShortestClosed t b)) := by
  unfold res1_ShortestClosed res2_ShortestClosed ok_ShortestClosed
  have hA := Box2.new 26 w u1 u2
  have B1 : Below w.heap.size w (w.alloc (.cells #[u1, u2] 26)) := Below.alloc1 w _
  have k0 := hA.c0; have k1 := hA.c1
  have hrd := mePair_any t b _ u1 u2 (h1.below B1) (h2.below B1) m1 m2
  have HB := Lib.hid B1; have HA := Lib.hid hA; have H1 := Lib.hid (h1.below B1); have H2 := Lib.hid (h2.below B1)
  clear hA B1 h1 h2
  cases e1 : pairOk t b with
  | false =>
    rw [e1] at hrd
    have HR := Lib.hid hrd; clear hrd e1
    simp only [Bool.false_eq_true, if_false, Bool.false_and]
    go_enter Try.func61, Try.ntmps61
    go_wp2_with fail
    refine HR.out.mono ?_
    rintro e w1 ⟨rfl, hb1⟩
    go_wp2
    go_ret3
    exact ⟨rfl, Below.step HB.out hb1⟩
  | true =>
    rw [e1] at hrd
    have hg := pairOk_good e1
    have HT := Lib.hid (fun w h1 h2 => siShortest_any false t b hg.2.2 (pair12 hg).1 w u1 u2 h1 h2)
    have HR := Lib.hid hrd; clear hrd e1 hg
    simp only [if_true, Bool.true_and]
    go_enter Try.func61, Try.ntmps61
    go_wp2_with fail
    refine HR.out.mono ?_
    rintro e w1 ⟨rfl, hb1⟩
    have n0 := (HA.out.below hb1).c0; have n1 := (HA.out.below hb1).c1
    have H11 := Lib.hid (H1.out.below hb1); have H21 := Lib.hid (H2.out.below hb1); have HB1 := Lib.hid (Below.step HB.out hb1)
    clear hb1 k0 k1
    go_wp2_with fail
    refine (HT.out _ H11.out H21.out).mono ?_
    rintro e w2 ⟨v, rfl, hv, hb2⟩
    have HB2 := Lib.hid (Below.step HB1.out hb2); clear hb2
    rcases hv with ⟨rfl, hs⟩ | ⟨q, g, c, rfl, hs, c0, c1⟩
    · have HS := Lib.hid hs; clear hs
      go_wp2
      go_ret3
      exact ⟨by rw [HS.out]; rfl, HB2.out⟩
    · have HS := Lib.hid hs; clear hs
      go_wp2
      go_quiet (fail)
      go_wp2
      go_ret3
      exact ⟨by rw [HS.out]; rfl, Below.drewN HB2.out _⟩

end Go.Proofs.Ytogjclmmjdhfeab

namespace Go.Proofs.Ytogjclmmjdhfeab
open Go.RowKit
set_option linter.unusedSimpArgs false
set_option linter.unusedVariables false

theorem Own.lit0c (B : Nat) (w : World) (hB : B ≤ w.heap.size) : Own B (w.alloc (.cells #[] 3)) (.slice (some ⟨w.heap.size, 0, none⟩) 0 0) [] :=
  World.ownsRow_lit w #[] 0 hB (by unfold maxLen; omega) rfl

set_option maxHeartbeats 1000000 in
theorem l1Own_cut (v : Value) (l : List Int) (w : World) (h : Rd w v l) (hl : l.length ≤ 1000000) : Calls Try.prog 110 #[v] w (Made w l) := by
  have HR := Lib.hid h; have HL := Lib.hid hl; clear h hl
  go_enter Try.func110, Try.ntmps110
  go_wp2_with (at_builtin; refine wp_append _ rfl _ _ rfl w.heap.size _ v [] l rfl rfl (Own.lit0c _ _ (Nat.le_refl _)) (Rd.below HR.out (Below.alloc1 _ _)) (by have := HL.out; simp; omega) (by simp) ?_; intro v' w1 hown1 hgr hbel1)
  go_ret
  exact ⟨_, rfl, hown1, (Below.alloc1 _ _).trans hbel1⟩

def MadeML (w : World) (ps : List (List Int × List Int)) (e : Ending) (w' : World) : Prop := ∃ v es, e = .returned v ∧ OwnML w.heap.size w' v es ps ∧ Below w.heap.size w w'
set_option maxRecDepth 100000 in
set_option maxHeartbeats 4000000 in
theorem siPairs_any (n : Nat) (hn : n ≤ 5) (w : World) : Calls Try.prog 147 #[.int .i64 (n : Int)] w (MadeML w (pairsN n)) := by
  have hah : ∀ w, Calls Try.prog 200 #[.int .i64 (n : Int), .int .i64 0] w (MadeLL w (allL n)) := fun w => ahAll_any 7 n 0 w (by omega) (by omega) (by omega) (by omega)
  have h42 := allL_42 hn
  have hlo : ∀ j, j < (allL n).length → ∀ w u, Rd w u ((allL n).getD j []) → Calls Try.prog 110 #[u] w (Made w ((allL n).getD j [])) := by
    intro j hj w u h
    have g1 := mem_good (by omega) (allL_mem hj)
    exact l1Own_cut u _ w h (by rw [g1.2]; omega)
  have hsu := fun k => upJ_succ (allL n) (allL n) k
  have hjl : ∀ j, (upJ ((allL n).take j) (allL n)).length ≤ 1764 := by
    intro j
    rw [upJ_len, List.length_take]
    exact Nat.le_trans (Nat.mul_le_mul (Nat.le_trans (Nat.min_le_right _ _) h42) h42) (by omega)
  have hfull : pairsN n = upJ ((allL n).take (allL n).length) (allL n) := by rw [List.take_length]; rfl
  rw [hfull]
  clear hfull
  generalize allL n = L at *
  have HAH := Lib.hid hah; have HLO := Lib.hid hlo; have HSU := Lib.hid hsu; have HJL := Lib.hid hjl
  clear hah hlo hsu hjl
  go_enter Try.func147, Try.ntmps147
  go_wp2_with (go_at_call 200; ((with_reducible refine (HAH.out _).mono ?_); rintro e w1 ⟨vu, us, rfl, hU, hb1⟩; obtain ⟨au, cu, rfl, hcu1, hcu2⟩ := hU.form; unfold maxLen at hcu2; have HU := Lib.hid hU; have HB1 := Lib.hid hb1; have hz1 := hb1.size; clear hb1 hU))
  go_loopw [4, 13] (fun o i wr => ∃ (j : Nat) (es : List (Value × Value)), j ≤ L.length ∧ i = .int .i64 (j : Int) ∧ OwnML w.heap.size wr o es (upJ (L.take j) L) ∧ OwnLL w.heap.size w1.heap.size wr (.slice au L.length cu) us L ∧ Away o w.heap.size w1.heap.size ∧ w1.heap.size ≤ wr.heap.size ∧ Below w.heap.size w wr) (fun _ i _ => L.length - (intOf i).toNat)
  case atStart => exact ⟨0, [], by omega, rfl, OwnML.nil _ _, HU.out, fun k hk => by simp [Value.ownBlock] at hk, Nat.le_refl _, HB1.out⟩
  case round =>
    obtain ⟨j, es, hj, rfl, hown, hUj, haw, hwj, hbel⟩ := hrel
    clear HU HB1
    generalize wr = wb at *
    by_cases hjt : j < L.length
    · obtain ⟨gu, rfl, hgu0, hgu1, hcellu, _⟩ := hUj.at (by omega)
      have hcu3 := hcellu j hjt
      have hsuc := HSU.out j hjt
      have hl1 := HLO.out j hjt
      have hjl := HJL.out j
      have hru := hUj.own j hjt
      generalize upJ (L.take j) L = S at *
      generalize L.getD j [] = p at *
      generalize hpe : rowV us j = pu at *
      obtain ⟨p1, p2, p3, rfl⟩ := hru.form'
      have HO := Lib.hid hown; have HUJ := Lib.hid hUj; have HBE := Lib.hid hbel; have HSC := Lib.hid hsuc; have HL1 := Lib.hid hl1; have HPE := Lib.hid hpe; have HAW := Lib.hid haw; have HRU := Lib.hid hru
      clear hcellu hown hUj hbel hsuc hl1 hpe haw hru
      go_wp2_with fail
      go_loopw [4, 19] (fun o i wr => ∃ (t : Nat) (es : List (Value × Value)), t ≤ L.length ∧ i = .int .i64 (t : Int) ∧ OwnML w.heap.size wr o es (S ++ (L.take t).map (fun q => (p, q))) ∧ OwnLL w.heap.size w1.heap.size wr (.slice (some ⟨gu, 0, none⟩) L.length cu) us L ∧ Own w.heap.size wr (.slice p1 p2 p3) p ∧ Away o w.heap.size w1.heap.size ∧ w1.heap.size ≤ wr.heap.size ∧ Below w.heap.size w wr) (fun _ i _ => L.length - (intOf i).toNat)
      case atStart => exact ⟨0, es, by omega, rfl, by simpa using HO.out, HUJ.out, HRU.out, HAW.out, hwj, HBE.out⟩
      case round =>
        obtain ⟨t, es2, ht, rfl, hown, hUt, hRt, haw1, hwt, hbel⟩ := hrel
        clear HO HUJ HBE HRU HAW
        generalize wr = wc at *
        by_cases htt : t < L.length
        · obtain ⟨gv, hgv, -, -, hcellv, _⟩ := hUt.at (by omega)
          obtain rfl : gu = gv := by simpa using hgv
          have hcv3 := hcellv t htt
          have hrv := hUt.own t htt
          have hl2 := HLO.out t htt
          have htk : S ++ (L.take (t + 1)).map (fun q => (p, q)) = (S ++ (L.take t).map (fun q => (p, q))) ++ [(p, L.getD t [])] := by
            rw [List.take_add_one, List.getElem?_eq_getElem htt, Option.toList_some, List.map_append, ← List.append_assoc]
            simp [List.getD, htt]
          have hln : (S ++ (L.take t).map (fun q => (p, q))).length ≤ 2000 := by rw [List.length_append, List.length_map, List.length_take]; omega
          generalize S ++ (L.take t).map (fun q => (p, q)) = R at *
          generalize L.getD t [] = q at *
          generalize hqe : rowV us t = qu at *
          obtain ⟨q1, q2, q3, rfl⟩ := hrv.form'
          have HTK := Lib.hid htk; have HO := Lib.hid hown; have HUT := Lib.hid hUt; have HRT := Lib.hid hRt; have HBE := Lib.hid hbel; have HRV := Lib.hid hrv; have HA1 := Lib.hid haw1; have HLN := Lib.hid hln; have HL2 := Lib.hid hl2
          have hsz := hbel.size
          clear hcellv hown hUt hRt hbel hrv htk haw1 hqe hln hl2 hgv
          go_wp2_with (first
            | (go_at_call_of 110 (Value.slice p1 p2 p3); ((with_reducible refine (HL1.out _ _ HRT.out.rd).mono ?_); rintro e w5 ⟨lv, rfl, hol, hb5⟩; obtain ⟨r1, r2, r3, rfl⟩ := hol.form'; have HOL5 := Lib.hid hol; have HB5 := Lib.hid hb5; have hz5 := hb5.size; clear hb5 hol))
            | (go_at_call 110; ((with_reducible refine (HL2.out _ _ (HRV.out.below HB5.out).rd).mono ?_); rintro e w6 ⟨mv, rfl, hom, hb6⟩; have HAP : Hid (ApartV (.slice r1 r2 r3) mv) := (fun k hk hk' => by have h1 := (HOL5.out.lt k hk).2; have h2 := (hom.lt k hk').1; omega); obtain ⟨s1, s2, s3, rfl⟩ := hom.form'; have HOL6 := Lib.hid ((HOL5.out.below hb6).mono hsz); have HOM6 := Lib.hid (hom.mono (Nat.le_trans hsz hz5)); have HB6 := Lib.hid (Below.step HB5.out hb6); have hz6 : wc.heap.size ≤ w6.heap.size := Nat.le_trans hz5 hb6.size; clear hb6 hom))
            | (at_builtin; refine wp_appendML _ rfl (.tmp 23) (.tmp 29) rfl w.heap.size w6.heap.size _ (.slice r1 r2 r3) (.slice s1 s2 s3) es2 R p q rfl rfl (cells_new w6 _ _ _).1 (cells_new w6 _ _ _).2 ((HO.out.below HB6.out).below (Below.alloc1 _ _)) (HOL6.out.below (Below.alloc1 _ _)) (HOM6.out.below (Below.alloc1 _ _)) HAP.out (by have := HLN.out; omega) (by simp; omega) ?_; intro o' w7 ho7 hg7 hb7 hw7; have HO7 := Lib.hid ho7; have B67 := Lib.hid (HB6.out.trans ((Below.alloc1 w6 (.cells #[.slice r1 r2 r3, .slice s1 s2 s3] 26)).mono hz6)); have HU7 := Lib.hid ((HUT.out.below B67.out).grown hg7 (fun k hk => HA1.out k hk)); have HR7 := Lib.hid ((HRT.out.below B67.out).grown hg7 (fun k hk e => own_apartM (HRT.out.below B67.out) ((HO.out.below HB6.out).below (Below.alloc1 w6 (.cells #[.slice r1 r2 r3, .slice s1 s2 s3] 26))).1 k hk e)); have HA17 : Hid (Away o' w.heap.size w1.heap.size) := (fun k hk => by rcases hw7 k hk with h8 | h8; exact HA1.out k h8; have := (alloc_lt w6 (.cells #[.slice r1 r2 r3, .slice s1 s2 s3] 26)); exact .inr (by omega)); have hz7 : w1.heap.size ≤ w7.heap.size := Nat.le_trans hwt (Nat.le_trans B67.out.size hg7.size); have HB7 := Lib.hid ((HBE.out.trans (B67.out.mono hsz)).trans hb7); clear ho7 hg7 hb7 hw7))
          go_roundw
          case rel => exact ⟨t + 1, _, by omega, by go_num, by rw [HTK.out]; exact HO7.out, HU7.out, HR7.out, HA17.out, hz7, HB7.out⟩
          case measure => simp [intOf]; omega
        · obtain rfl : t = L.length := by omega
          rw [List.take_length, ← HSC.out] at hown
          have HO := Lib.hid hown; have HUT := Lib.hid hUt; have HA1 := Lib.hid haw1; have HBE := Lib.hid hbel
          clear hown hUt hRt haw1 hbel
          go_wp2_with fail
          go_roundw
          case rel => exact ⟨j + 1, es2, by omega, by go_num, HO.out, HUT.out, HA1.out, by omega, HBE.out⟩
          case measure => simp [intOf]; omega
    · obtain rfl : j = L.length := by omega
      obtain ⟨a5, c5, rfl, _⟩ := hown.form
      have HO := Lib.hid hown; have HBE := Lib.hid hbel
      clear hown hUj hbel haw
      go_wp2_with fail
      go_ret
      exact ⟨_, _, rfl, HO.out, HBE.out⟩

/-- an element of a slice of pairs of lists -/
theorem cellsML_at2 : ∀ (es : List (Value × Value)) (k : Nat), k < es.length → (cellsML es)[k * 2]? = some (es.getD k noV).1 ∧ (cellsML es)[k * 2 + 1]? = some (es.getD k noV).2
  | [], k, h => by simp at h
  | e :: r, 0, _ => by simp [cellsML]
  | e :: r, k + 1, h => by
    have := cellsML_at2 r k (by simpa using h)
    have e1 : (k + 1) * 2 = k * 2 + 1 + 1 := by omega
    simp only [cellsML, List.flatMap_cons, e1] at this ⊢
    simpa using this
theorem OwnML.elem {lo n c : Nat} {a : Option Addr} {w : World} {es : List (Value × Value)} {ps : List (List Int × List Int)} (h : OwnML lo w (.slice a n c) es ps) (k : Nat) (hk : k < ps.length) :
    ∃ g, a = some ⟨g, 0, none⟩ ∧ w.cell? ⟨g, k * 2, none⟩ = some (es.getD k noV).1 ∧ w.cell? ⟨g, k * 2 + 1, none⟩ = some (es.getD k noV).2 ∧ Rd w (es.getD k noV).1 (ps.getD k ([], [])).1 ∧ Rd w (es.getD k noV).2 (ps.getD k ([], [])).2 := by
  have h1 := h.1
  rcases h.1.2 with ⟨_, hn⟩ | ⟨g, cap, cur, hv, hB, hg, hnc, hcm, _⟩
  · omega
  · have hn : n = ps.length := by simp at hv; exact hv.2.1
    have ha : a = some ⟨g, 0, none⟩ := by simp at hv; exact hv.1
    subst ha; subst hn
    have hg2 := cellsML_at2 es k (by rw [h.2.1]; exact hk)
    refine ⟨g, rfl, ?_, ?_, (h.2.2 k hk).1.rd, (h.2.2 k hk).2.1.rd⟩
    · rw [World.ownsRow.cellAt h1 _ (by omega)]; exact hg2.1
    · rw [World.ownsRow.cellAt h1 _ (by omega)]; exact hg2.2
theorem takeP_filter (f : List Int × List Int → Bool) (L : List (List Int × List Int)) (k : Nat) (h : k < L.length) : ((L.take (k + 1)).filter f).length = ((L.take k).filter f).length + if f (L.getD k ([], [])) then 1 else 0 := by
  rw [filterP_take_succ f L k h, List.length_append]
  split <;> simp

set_option maxHeartbeats 2000000 in
set_option maxRecDepth 100000 in
theorem spec_CountWhole (x : Int) (w : World) : Calls Try.prog 76 #[.int .i64 x] w (GivesN w (res_CountWhole x) (ok_CountWhole x)) := by
  unfold res_CountWhole ok_CountWhole
  have HI := Lib.hid (fun w => l1In_any x 1 5 w)
  cases hb : inB x 1 5 with
  | false =>
    rw [hb] at HI
    simp only [Bool.false_eq_true, if_false]
    clear hb
    go_enter Try.func76, Try.ntmps76
    go_wp2_with (go_at_call 89; refine (HI.out _).mono ?_; rintro e w' ⟨rfl, rfl⟩)
    go_ret2
    exact ⟨rfl, Below.refl _ _⟩
  | true =>
    rw [hb] at HI
    have h1 := inB_iff.1 hb
    obtain ⟨n, rfl⟩ := Int.eq_ofNat_of_zero_le (by omega : 0 ≤ x)
    simp only [if_true, Int.toNat_natCast]
    have hn : n ≤ 5 := by omega
    have HP := Lib.hid (fun w => siPairs_any n hn w)
    have hlen := pairsN_len5 hn
    have HW : Hid (∀ k, k < (pairsN n).length → ∀ w u1 u2, Rd w u1 ((pairsN n).getD k ([], [])).1 → Rd w u2 ((pairsN n).getD k ([], [])).2 → Calls Try.prog 143 #[.agg #[u1, u2]] w (Tells w (wholeP ((pairsN n).getD k ([], []))))) := fun k hk w u1 u2 h1 h2 => by
      have hg := pairsN_good (n := n) (by omega) (pairsN_at hk)
      exact siWhole_any _ _ hg.1.2.2 (pair12 hg.1).1 w u1 u2 h1 h2
    have HTF := Lib.hid (fun k hk => takeP_filter wholeP (pairsN n) k hk)
    have HFL : Hid (∀ k, (((pairsN n).take k).filter wholeP).length ≤ 1764) := fun k => Nat.le_trans (List.length_filter_le _ _) (by rw [List.length_take]; omega)
    have hfull : (pairsN n).filter wholeP = ((pairsN n).take (pairsN n).length).filter wholeP := by rw [List.take_length]
    rw [hfull]
    clear hfull hb h1
    generalize pairsN n = L at *
    go_enter Try.func76, Try.ntmps76
    go_wp2_with (first
      | (go_at_call 89; refine (HI.out _).mono ?_; rintro e w' ⟨rfl, rfl⟩)
      | (go_at_call 147; ((with_reducible refine (HP.out _).mono ?_); rintro e w1 ⟨v, es, rfl, ho, hb1⟩; obtain ⟨a1, c1, rfl, hc1, hm1⟩ := ho.form; unfold maxLen at hm1; have HO := Lib.hid ho; have HB1 := Lib.hid hb1; clear ho hb1)))
    go_loopw [4, 13] (fun o i wr => ∃ k : Nat, k ≤ L.length ∧ i = .int .i64 (k : Int) ∧ o = .int .i64 ((((L.take k).filter wholeP).length : Nat) : Int) ∧ Hid (Below w1.heap.size w1 wr)) (fun _ i _ => L.length - (intOf i).toNat)
    case atStart => exact ⟨0, by omega, rfl, by simp, Below.refl _ _⟩
    case round =>
      obtain ⟨k, hk, rfl, rfl, HBE⟩ := hrel
      generalize wr = wb at *
      by_cases hlt : k < L.length
      · obtain ⟨g, rfl, e0, e1, r0, r1⟩ := (HO.out.below HBE.out).elem k hlt
        have htf := HTF.out k hlt
        have hfl := HFL.out k
        have hw := HW.out k hlt
        generalize L.getD k ([], []) = p at *
        generalize ((L.take k).filter wholeP).length = m at *
        generalize (es.getD k noV).1 = u1 at *
        generalize (es.getD k noV).2 = u2 at *
        obtain ⟨x1, x2, x3, rfl⟩ : ∃ a n c, u1 = .slice a n c := by obtain ⟨a, c, e, -⟩ := r0; exact ⟨a, _, c, e⟩
        obtain ⟨y1, y2, y3, rfl⟩ : ∃ a n c, u2 = .slice a n c := by obtain ⟨a, c, e, -⟩ := r1; exact ⟨a, _, c, e⟩
        have HW1 := Lib.hid hw; have HTF1 := Lib.hid htf; have R0 := Lib.hid r0; have R1 := Lib.hid r1
        clear hw htf r0 r1
        cases hp : wholeP p with
        | true =>
          rw [hp] at HW1 HTF1
          clear hp
          go_wp2_with (go_at_call 143; ((with_reducible refine (HW1.out _ _ _ (R0.out.below (Below.alloc1 wb _)) (R1.out.below (Below.alloc1 wb _))).mono ?_); rintro e w5 ⟨rfl, hb5⟩; have HB5 := Lib.hid (Below.step HBE.out (Below.step (Below.alloc1 wb _) hb5)); clear hb5))
          go_roundw
          case rel => exact ⟨k + 1, by omega, by go_num, by rw [HTF1.out]; go_num, HB5.out⟩
          case measure => simp [intOf]; omega
        | false =>
          rw [hp] at HW1 HTF1
          clear hp
          go_wp2_with (go_at_call 143; ((with_reducible refine (HW1.out _ _ _ (R0.out.below (Below.alloc1 wb _)) (R1.out.below (Below.alloc1 wb _))).mono ?_); rintro e w5 ⟨rfl, hb5⟩; have HB5 := Lib.hid (Below.step HBE.out (Below.step (Below.alloc1 wb _) hb5)); clear hb5))
          go_roundw
          case rel => exact ⟨k + 1, by omega, by go_num, by rw [HTF1.out]; simp, HB5.out⟩
          case measure => simp [intOf]; omega
      · obtain rfl : k = L.length := by omega
        go_wp2
        go_ret2
        exact ⟨rfl, Below.step HB1.out HBE.out⟩

set_option maxRecDepth 100000 in
set_option maxHeartbeats 4000000 in
theorem chosen_isWhole (ps : List (List Int × List Int)) (hgd : ∀ k, k < ps.length → ∀ w, Calls Try.prog 142 #[.agg (pairC (ps.getD k ([], [])).1 (ps.getD k ([], [])).2)] w (Tells w (wholeP (ps.getD k ([], []))))) (hn : ps.length ≤ 20000) (B : Nat) (w : World) (v : Value) (hown : OwnP B w v ps) :
    Calls Try.prog 150 #[v, .func (.func 142) #[] #[]] w (MadeP w (ps.filter wholeP)) := by
  have HCK := Lib.hid hgd
  have HFT := Lib.hid (fun k => filterP_take_succ wholeP ps k)
  have HFL : Hid (∀ k, ((ps.take k).filter wholeP).length ≤ ps.length) := fun k => Nat.le_trans (List.length_filter_le _ _) (by rw [List.length_take]; omega)
  have hfl : ps.filter wholeP = (ps.take ps.length).filter wholeP := by rw [List.take_length]
  rw [hfl]
  clear hfl hgd
  obtain ⟨a0, c0, rfl, hx1, hx2⟩ := hown.form
  unfold maxLen at hx2
  have HO := Lib.hid hown
  clear hown
  go_enter Try.func150, Try.ntmps150
  go_wp2_with fail
  go_loopw [5, 10] (fun o i wr => ∃ k : Nat, k ≤ ps.length ∧ i = .int .i64 (k : Int) ∧ OwnP w.heap.size wr o ((ps.take k).filter wholeP) ∧ Below w.heap.size w wr) (fun _ i _ => ps.length - (intOf i).toNat)
  case atStart => exact ⟨0, by omega, rfl, OwnP.nil _ _, Below.refl _ _⟩
  case round =>
    obtain ⟨k, hk, rfl, hown, hbel⟩ := hrel
    generalize wr = wc at *
    by_cases hlt : k < ps.length
    · obtain ⟨g, rfl, hy1, hy2, hy3, hrg, hth⟩ := (HO.out.below hbel).at (by omega)
      have hr := hrg k hlt
      have hsuc := HFT.out k hlt
      have hle := HFL.out k
      have hcall := HCK.out k hlt
      generalize wholeP (ps.getD k ([], [])) = M at *
      generalize ps.getD k ([], []) = p at *
      obtain ⟨t, b⟩ := p
      generalize (ps.take k).filter wholeP = S at *
      have HR := Lib.hid hr; have HCL := Lib.hid hcall; have HOQ := Lib.hid hown; have HBE := Lib.hid hbel; have HSU := Lib.hid hsuc
      have hsz := hbel.size
      clear hy1 hy2 hy3 hrg hth hr hcall hown hbel hsuc
      cases M with
      | true =>
        go_wp2_with (first
          | (with_reducible refine boxP_load rfl (.tmp 12) rfl g (k * 26) t b rfl HR.out ?_)
          | ((with_reducible refine wp_storePairN rfl (.tmp 7) (.tmp 13) rfl t b rfl rfl ?_); intro w5 hs5 hb5; have HS5 := Lib.hid hs5; have HB5 := Lib.hid hb5; clear hs5 hb5)
          | (with_reducible refine wp_loadPair rfl (.tmp 7) rfl wc.heap.size t b rfl HS5.out ?_)
          | (go_at_call 142; ((with_reducible refine (HCL.out _).mono ?_); rintro e w6 ⟨rfl, hb6⟩; have HS6 := Lib.hid (HS5.out.below hb6); have HB6 := Lib.hid (Below.step HB5.out hb6); clear hb6))
          | (with_reducible refine wp_loadPair rfl (.tmp 7) rfl wc.heap.size t b rfl HS6.out ?_)
          | (with_reducible refine wp_buildP1 _ rfl (.tmp 18) rfl t b rfl ?_)
          | (at_builtin; refine wp_appendPs _ rfl (.tmp 17) (.tmp 19) rfl w.heap.size w6.heap.size 1 1 _ S [(t, b)] rfl rfl rfl (fun j hj => built_cells w6 t b j hj) ((HOQ.out.below HB6.out).below (Below.alloc1 _ _)) (by simp; omega) (by have := HB6.out.size; simp; omega) ?_; intro o' w7 ho7 hg7 hb7 hw7; have HO7 := Lib.hid ho7; have HB7 := Lib.hid ((HBE.out.trans ((HB6.out.trans ((Below.alloc1 w6 (.cells (pairC t b) 102)).mono HB6.out.size)).mono hsz)).trans hb7); clear ho7 hg7 hb7 hw7))
        go_roundw
        case rel => exact ⟨k + 1, by omega, by go_num, by rw [HSU.out]; exact HO7.out, HB7.out⟩
        case measure => simp [intOf]; omega
      | false =>
        go_wp2_with (first
          | (with_reducible refine boxP_load rfl (.tmp 12) rfl g (k * 26) t b rfl HR.out ?_)
          | ((with_reducible refine wp_storePairN rfl (.tmp 7) (.tmp 13) rfl t b rfl rfl ?_); intro w5 hs5 hb5; have HS5 := Lib.hid hs5; have HB5 := Lib.hid hb5; clear hs5 hb5)
          | (with_reducible refine wp_loadPair rfl (.tmp 7) rfl wc.heap.size t b rfl HS5.out ?_)
          | (go_at_call 142; ((with_reducible refine (HCL.out _).mono ?_); rintro e w6 ⟨rfl, hb6⟩; have HB6 := Lib.hid (Below.step HB5.out hb6); clear hb6)))
        go_roundw
        case rel => exact ⟨k + 1, by omega, by go_num, by rw [HSU.out]; simpa using HOQ.out.below HB6.out, Below.step HBE.out HB6.out⟩
        case measure => simp [intOf]; omega
    · obtain rfl : k = ps.length := by omega
      obtain ⟨a5, c5, rfl, _⟩ := hown.form
      have HOQ := Lib.hid hown; have HBE := Lib.hid hbel
      clear hown hbel
      go_wp2_with fail
      go_ret
      exact ⟨_, rfl, HOQ.out, HBE.out⟩

set_option maxHeartbeats 1000000 in
theorem wholeOf_any (n : Nat) (hn : n ≤ 5) (w : World) : Calls Try.prog 146 #[.int .i64 (n : Int)] w (MadeP w ((pairsN n).filter wholeP)) := by
  have HPO := Lib.hid (fun w => pairsOf5_any n hn w)
  have HC := Lib.hid (fun B w v ho => chosen_isWhole (pairsN n) (fun k hk w => by
    have hg := pairsN_good (n := n) (by omega) (pairsN_at hk)
    exact isWhole_any _ _ (pair12 hg.1).1 w) (Nat.le_trans (pairsN_len5 hn) (by omega)) B w v ho)
  generalize pairsN n = L at *
  go_enter Try.func146, Try.ntmps146
  go_wp2_with (first
    | (go_at_call 148; ((with_reducible refine (HPO.out _).mono ?_); rintro e w1 ⟨pv, rfl, hop, hb1⟩; have HOP := Lib.hid hop; have HB1 := Lib.hid hb1; obtain ⟨qa, qc, rfl, -, -⟩ := hop.form; clear hop hb1))
    | (go_at_call 150; ((with_reducible refine (HC.out _ _ _ HOP.out).mono ?_); rintro e w2 ⟨mv, rfl, hom, hb2⟩; have HB2 := Lib.hid (Below.step HB1.out hb2); have HOM := Lib.hid hom; obtain ⟨ma, mc, rfl, -, -⟩ := hom.form; clear hom hb2)))
  go_ret
  exact ⟨_, rfl, HOM.out.mono HB1.out.size, HB2.out⟩

set_option maxHeartbeats 1000000 in
theorem impl_CountWhole (x : Int) (w : World) : Calls Try.prog 69 #[.int .i64 x] w (GivesN w (res_CountWhole x) (ok_CountWhole x)) := by
  unfold res_CountWhole ok_CountWhole
  by_cases h1 : x < 1
  · rw [inB_no (by omega : ¬ (1 ≤ x ∧ x ≤ 5))]
    have hd : decide (x < 1) = true := decide_eq_true h1
    go_enter Try.func69, Try.ntmps69
    go_wp2
    go_ret2
    exact ⟨rfl, Below.refl _ _⟩
  · have hd : decide (x < 1) = false := decide_eq_false h1
    by_cases h2 : 5 < x
    · rw [inB_no (by omega : ¬ (1 ≤ x ∧ x ≤ 5))]
      have hd2 : decide (5 < x) = true := decide_eq_true h2
      go_enter Try.func69, Try.ntmps69
      go_wp2
      go_ret2
      exact ⟨rfl, Below.refl _ _⟩
    · rw [inB_yes (by omega : 1 ≤ x) (by omega : x ≤ 5)]
      obtain ⟨n, rfl⟩ := Int.eq_ofNat_of_zero_le (by omega : 0 ≤ x)
      have HW := Lib.hid (fun w => wholeOf_any n (by omega) w)
      simp only [if_true, Int.toNat_natCast]
      generalize (pairsN n).filter wholeP = L at *
      have hd2 : decide (5 < (n : Int)) = false := decide_eq_false h2
      go_enter Try.func69, Try.ntmps69
      go_wp2_with (go_at_call 146; ((with_reducible refine (HW.out _).mono ?_); rintro e w1 ⟨pv, rfl, hop, hb1⟩; obtain ⟨qa, qc, rfl, -, -⟩ := hop.form; clear hop))
      go_ret2
      exact ⟨rfl, hb1⟩

end Go.Proofs.Ytogjclmmjdhfeab
