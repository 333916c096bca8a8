/- Points in a face together; systems behind an exchange: the program. -/
import Derived.Test.YtogjclmmjdhfeacExSpec
namespace Go.Proofs.Ytogjclmmjdhfeac
open Go.RowKit
set_option linter.unusedSimpArgs false
set_option linter.unusedVariables false

set_option maxHeartbeats 2000000 in
set_option maxRecDepth 100000 in
theorem share1_out (x : Value) (c : Int → Bool) (gi gj : Nat) (i j : Nat) (w : World) (hi : i < 12) (hj : j < 12) (h1 : w.cell? ⟨gi, 0, none⟩ = some (.int .i64 (i : Int))) (h2 : w.cell? ⟨gj, 0, none⟩ = some (.int .i64 (j : Int)))
    (hp : ∀ (k : Nat) (w : World), k < 12 → Calls Try.prog 145 #[x, .int .i64 (k : Int)] w (Tells w (c (k : Int)))) :
    Calls Try.prog 109 #[.iface 132 x, .pointer (some ⟨gi, 0, none⟩), .pointer (some ⟨gj, 0, none⟩)] w (Tells w (c (i : Int) && c (j : Int))) := by
  have HP1 := Lib.hid (fun w => hp i w hi)
  have HP2 := Lib.hid (fun w => hp j w hj)
  have HC2 := Lib.hid h2
  clear hp h2
  generalize c (i : Int) = ci at *
  generalize c (j : Int) = cj at *
  cases ci with
  | false =>
    go_enter Try.func109, Try.ntmps109
    go_wp2_with fail
    show Calls Try.prog 145 #[x, .int .i64 (i : Int)] _ _
    refine (HP1.out _).mono ?_
    rintro e w1 ⟨rfl, hb1⟩
    have HB1 := Lib.hid hb1; clear hb1
    go_wp2_with fail
    go_ret
    exact ⟨rfl, HB1.out⟩
  | true =>
    go_enter Try.func109, Try.ntmps109
    go_wp2_with fail
    show Calls Try.prog 145 #[x, .int .i64 (i : Int)] _ _
    refine (HP1.out _).mono ?_
    rintro e w1 ⟨rfl, hb1⟩
    have c2 := (hb1.cell (World.block_lt_of_cell? w _ HC2.out)).trans HC2.out
    have HB1 := Lib.hid hb1; clear hb1
    go_wp2_with fail
    show Calls Try.prog 145 #[x, .int .i64 (j : Int)] _ _
    refine (HP2.out _).mono ?_
    rintro e w2 ⟨rfl, hb2⟩
    have HB2 := Lib.hid (Below.step HB1.out hb2); clear hb2
    go_wp2_with fail
    go_ret
    exact ⟨by simp, HB2.out⟩

set_option maxHeartbeats 2000000 in
set_option maxRecDepth 100000 in
theorem share1_arch (x : Value) (c : Int → Bool) (gi gj : Nat) (i j : Nat) (w : World) (hi : i < 12) (hj : j < 12) (h1 : w.cell? ⟨gi, 0, none⟩ = some (.int .i64 (i : Int))) (h2 : w.cell? ⟨gj, 0, none⟩ = some (.int .i64 (j : Int)))
    (hp : ∀ (k : Nat) (w : World), k < 12 → Calls Try.prog 148 #[x, .int .i64 (k : Int)] w (Tells w (c (k : Int)))) :
    Calls Try.prog 109 #[.iface 134 x, .pointer (some ⟨gi, 0, none⟩), .pointer (some ⟨gj, 0, none⟩)] w (Tells w (c (i : Int) && c (j : Int))) := by
  have HP1 := Lib.hid (fun w => hp i w hi)
  have HP2 := Lib.hid (fun w => hp j w hj)
  have HC2 := Lib.hid h2
  clear hp h2
  generalize c (i : Int) = ci at *
  generalize c (j : Int) = cj at *
  cases ci with
  | false =>
    go_enter Try.func109, Try.ntmps109
    go_wp2_with fail
    show Calls Try.prog 148 #[x, .int .i64 (i : Int)] _ _
    refine (HP1.out _).mono ?_
    rintro e w1 ⟨rfl, hb1⟩
    have HB1 := Lib.hid hb1; clear hb1
    go_wp2_with fail
    go_ret
    exact ⟨rfl, HB1.out⟩
  | true =>
    go_enter Try.func109, Try.ntmps109
    go_wp2_with fail
    show Calls Try.prog 148 #[x, .int .i64 (i : Int)] _ _
    refine (HP1.out _).mono ?_
    rintro e w1 ⟨rfl, hb1⟩
    have c2 := (hb1.cell (World.block_lt_of_cell? w _ HC2.out)).trans HC2.out
    have HB1 := Lib.hid hb1; clear hb1
    go_wp2_with fail
    show Calls Try.prog 148 #[x, .int .i64 (j : Int)] _ _
    refine (HP2.out _).mono ?_
    rintro e w2 ⟨rfl, hb2⟩
    have HB2 := Lib.hid (Below.step HB1.out hb2); clear hb2
    go_wp2_with fail
    go_ret
    exact ⟨by simp, HB2.out⟩

def shareK (l : List Int) (i j : Int) : Nat → Bool
  | 0 => isOuterB l i && isOuterB l j
  | k + 1 => archB l ((beginsL l).getD k 0) i && archB l ((beginsL l).getD k 0) j
theorem share1_any (l : List Int) (hl : l.length ≤ 12) (gi gj i j k : Nat) (w : World) (hi : i < 12) (hj : j < 12) (hk : k < (faceV l).length) (h1 : w.cell? ⟨gi, 0, none⟩ = some (.int .i64 (i : Int))) (h2 : w.cell? ⟨gj, 0, none⟩ = some (.int .i64 (j : Int))) :
    Calls Try.prog 109 #[(faceV l).getD k .nilIface, .pointer (some ⟨gi, 0, none⟩), .pointer (some ⟨gj, 0, none⟩)] w (Tells w (shareK l (i : Int) (j : Int) k)) := by
  cases k with
  | zero =>
    have e : (faceV l).getD 0 .nilIface = .iface 132 (.agg (sysC l)) := by rw [sysC_lit hl]; rfl
    rw [e]
    exact share1_out (.agg (sysC l)) (isOuterB l) gi gj i j w hi hj h1 h2 (fun k w hk => outHas_any l k w hl hk)
  | succ k =>
    have hk' : k < (beginsL l).length := by simpa [faceV] using hk
    obtain ⟨o, ho, e⟩ := begins_mem hk'
    have e2 : (faceV l).getD (k + 1) .nilIface = .iface 134 (.agg (archC l (o : Int))) := by
      rw [← e]
      simp only [faceV, List.getD_cons_succ]
      simp [List.getD, hk', arcV]
    rw [e2, shareK, e]
    exact share1_arch (.agg (archC l (o : Int))) (archB l (o : Int)) gi gj i j w hi hj h1 h2 (fun k w hk => archHas_any l k o w hl hk (by omega))
theorem share_yes {l : List Int} {i j : Int} {k : Nat} (hk : k < (faceV l).length) (h : shareK l i j k = true) : shareB l i j = true := by
  unfold shareB
  cases k with
  | zero => rw [shareK] at h; rw [h]; rfl
  | succ k =>
    have hk' : k < (beginsL l).length := by simpa [faceV] using hk
    rw [Bool.or_eq_true]
    right
    rw [List.any_eq_true]
    exact ⟨(beginsL l).getD k 0, by simp [List.getD, hk'], h⟩
theorem share_no {l : List Int} {i j : Int} (h : ∀ k, k < (faceV l).length → shareK l i j k = false) : shareB l i j = false := by
  unfold shareB
  have h0 := h 0 (by simp [faceV])
  rw [shareK] at h0
  rw [h0, Bool.false_or, List.any_eq_false]
  intro o ho
  obtain ⟨k, hk, rfl⟩ := List.mem_iff_getElem.1 ho
  have := h (k + 1) (by simpa [faceV] using hk)
  rw [shareK, show (beginsL l).getD k 0 = (beginsL l)[k] by simp [List.getD, hk]] at this
  simp [this]

set_option maxHeartbeats 2000000 in
theorem indexFace_any (xs : List Value) (q : Nat → Bool) (R : Bool) (gi gj : Nat) (vi vj : Value) (hn : xs.length ≤ 1000) (B : Nat) (w : World) (v : Value) (hown : OwnF B w v xs) (h1 : w.cell? ⟨gi, 0, none⟩ = some vi) (h2 : w.cell? ⟨gj, 0, none⟩ = some vj)
    (hq : ∀ (k : Nat) (w : World), k < xs.length → w.cell? ⟨gi, 0, none⟩ = some vi → w.cell? ⟨gj, 0, none⟩ = some vj → Calls Try.prog 109 #[xs.getD k .nilIface, .pointer (some ⟨gi, 0, none⟩), .pointer (some ⟨gj, 0, none⟩)] w (Tells w (q k)))
    (hy : ∀ k, k < xs.length → q k = true → R = true) (hno : (∀ k, k < xs.length → q k = false) → R = false) :
    Calls Try.prog 122 #[v, .func (.func 109) #[] #[.pointer (some ⟨gi, 0, none⟩), .pointer (some ⟨gj, 0, none⟩)]] w (fun e w' => ∃ x : Int, e = .returned (.int .i64 x) ∧ decide (0 ≤ x) = R ∧ Below w.heap.size w w') := by
  have HCK := Lib.hid hq; have HAN := Lib.hid hy; have HNO := Lib.hid hno; have H1 := Lib.hid h1; have H2 := Lib.hid h2
  clear hq hy hno h1 h2
  obtain ⟨a0, c0, rfl, hx1, hx2⟩ := hown.form
  unfold maxLen at hx2
  have HO := Lib.hid hown
  clear hown
  go_enter Try.func122, Try.ntmps122
  go_wp2_with fail
  go_loopw [8] (fun i wr => ∃ k : Nat, k ≤ xs.length ∧ i = .int .i64 (k : Int) ∧ Hid (∀ j, j < k → q j = false) ∧ Below w.heap.size w wr) (fun i _ => xs.length - (intOf i).toNat)
  case atStart => exact ⟨0, by omega, rfl, fun j hj => absurd hj (Nat.not_lt_zero _), Below.refl _ _⟩
  case round =>
    obtain ⟨k, hk, rfl, HF, hbel⟩ := hrel
    generalize wr = wc at *
    by_cases hlt : k < xs.length
    · obtain ⟨g, rfl, hck0⟩ := (HO.out.below hbel).at (by omega)
      have hck := hck0 k hlt
      have k1 := (hbel.cell (World.block_lt_of_cell? w _ H1.out)).trans H1.out
      have k2 := (hbel.cell (World.block_lt_of_cell? w _ H2.out)).trans H2.out
      have hcall := HCK.out k wc hlt k1 k2
      have han := HAN.out k hlt
      have hnf : q k = false → Hid (∀ j, j < k + 1 → q j = false) := fun h j hj => by
        rcases Nat.lt_or_ge j k with h1 | h1
        · exact HF.out j h1
        · rw [show j = k by omega]; exact h
      generalize xs.getD k .nilIface = y at *
      generalize q k = M at *
      have HCL := Lib.hid hcall; have HBE := Lib.hid hbel
      clear hck0 k1 k2 hcall hbel
      cases M with
      | true =>
        have HT := Lib.hid (han rfl)
        clear han hnf
        go_wp2_with (go_at_call 109; ((with_reducible refine HCL.out.mono ?_); rintro e w6 ⟨rfl, hb6⟩; have HB6 := Lib.hid (Below.step HBE.out hb6); clear hb6))
        go_ret
        exact ⟨_, rfl, by rw [HT.out]; exact decide_eq_true (by omega), HB6.out⟩
      | false =>
        have HF2 := hnf rfl
        clear han hnf
        go_wp2_with (go_at_call 109; ((with_reducible refine HCL.out.mono ?_); rintro e w6 ⟨rfl, hb6⟩; have HB6 := Lib.hid (Below.step HBE.out hb6); clear hb6))
        go_roundw
        case rel => exact ⟨k + 1, by omega, by go_num, HF2, HB6.out⟩
        case measure => simp [intOf]; omega
    · obtain rfl : k = xs.length := by omega
      have HT := Lib.hid (HNO.out HF.out)
      have HBE := Lib.hid hbel
      clear hbel
      go_wp2_with fail
      go_ret
      exact ⟨_, rfl, by rw [HT.out]; rfl, HBE.out⟩

set_option maxHeartbeats 2000000 in
theorem shareFace_any (l : List Int) (i j : Nat) (w : World) (hl : l.length ≤ 12) (hi : i < 12) (hj : j < 12) :
    Calls Try.prog 91 #[.agg (sysC l), .int .i64 (i : Int), .int .i64 (j : Int)] w (Tells w (shareB l (i : Int) (j : Int))) := by
  have HFA := Lib.hid (fun w => faces_any l w hl)
  have hb0 : SysIn (w.alloc (.cells (sysC l) 56)) w.heap.size l := heap_alloc_new w _
  have hbx : SysIn (((w.alloc (.cells (sysC l) 56)).alloc (.cells #[.int .i64 (i : Int)] 3)).alloc (.cells #[.int .i64 (j : Int)] 3)) w.heap.size l := SysIn.below (SysIn.below hb0 (Below.alloc1 _ _)) (Below.alloc1 _ _)
  have hc1 : (((w.alloc (.cells (sysC l) 56)).alloc (.cells #[.int .i64 (i : Int)] 3)).alloc (.cells #[.int .i64 (j : Int)] 3)).cell? ⟨w.heap.size + 1, 0, none⟩ = some (.int .i64 (i : Int)) := by
    have h0 := cell_lit1 (w.alloc (.cells (sysC l) 56)) (.int .i64 (i : Int)) 3
    rw [World.size_alloc] at h0
    exact ((Below.alloc1 _ _).cell (World.block_lt_of_cell? _ _ h0)).trans h0
  have hc2 : (((w.alloc (.cells (sysC l) 56)).alloc (.cells #[.int .i64 (i : Int)] 3)).alloc (.cells #[.int .i64 (j : Int)] 3)).cell? ⟨w.heap.size + 1 + 1, 0, none⟩ = some (.int .i64 (j : Int)) := by
    have h0 := cell_lit1 ((w.alloc (.cells (sysC l) 56)).alloc (.cells #[.int .i64 (i : Int)] 3)) (.int .i64 (j : Int)) 3
    rw [World.size_alloc, World.size_alloc] at h0
    exact h0
  have hbel : Below w.heap.size w (((w.alloc (.cells (sysC l) 56)).alloc (.cells #[.int .i64 (i : Int)] 3)).alloc (.cells #[.int .i64 (j : Int)] 3)) := Below.step (Below.step (Below.alloc1 _ _) (Below.alloc1 _ _)) (Below.alloc1 _ _)
  have hix := fun (B : Nat) (w1 : World) (v : Value) (ho : OwnF B w1 v (faceV l)) (k1 : w1.cell? ⟨w.heap.size + 1, 0, none⟩ = some (.int .i64 (i : Int))) (k2 : w1.cell? ⟨w.heap.size + 1 + 1, 0, none⟩ = some (.int .i64 (j : Int))) =>
    indexFace_any (faceV l) (shareK l (i : Int) (j : Int)) (shareB l (i : Int) (j : Int)) (w.heap.size + 1) (w.heap.size + 1 + 1) (.int .i64 (i : Int)) (.int .i64 (j : Int)) (by have := faceV_le hl; omega) B w1 v ho k1 k2
      (fun k w2 hk k1 k2 => share1_any l hl (w.heap.size + 1) (w.heap.size + 1 + 1) i j k w2 hi hj hk k1 k2) (fun k hk h => share_yes hk h) share_no
  generalize faceV l = xs at *
  generalize shareB l (i : Int) (j : Int) = R at *
  have HX := Lib.hid hbx; have HC1 := Lib.hid hc1; have HC2 := Lib.hid hc2; have HB := Lib.hid hbel; have HIX := Lib.hid hix; have HL := Lib.hid hl
  clear hb0 hbx hc1 hc2 hbel hix hl
  have HCO : Hid (∀ (B : Nat) (w1 : World) (v : Value), OwnF B w1 v xs → w1.cell? ⟨w.heap.size + 1, 0, none⟩ = some (.int .i64 (i : Int)) → w1.cell? ⟨w.heap.size + 1 + 1, 0, none⟩ = some (.int .i64 (j : Int)) → Calls Try.prog 108 #[v, .func (.func 109) #[] #[.pointer (some ⟨w.heap.size + 1, 0, none⟩), .pointer (some ⟨w.heap.size + 1 + 1, 0, none⟩)]] w1 (Tells w1 R)) := by
    intro B w1 v ho k1 k2
    have HI := Lib.hid (HIX.out B w1 v ho k1 k2)
    obtain ⟨a1, c1, rfl, -, -⟩ := ho.form
    clear ho k1 k2 HFA HX HC1 HC2 HB HIX
    go_enter Try.func108, Try.ntmps108
    go_wp2_with (go_at_call 122; ((with_reducible refine HI.out.mono ?_); rintro e w2 ⟨x, rfl, hx, hb1⟩; have HXX := Lib.hid hx; have HB1 := Lib.hid hb1; clear hx hb1))
    go_ret
    exact ⟨by rw [← HXX.out]; rfl, HB1.out⟩
  go_enter Try.func91, Try.ntmps91
  go_wp2_with (first
    | (with_reducible refine wp_loadSys rfl (.tmp 3) rfl w.heap.size l HL.out rfl HX.out ?_)
    | (go_at_call 98; ((with_reducible refine (HFA.out _).mono ?_); rintro e w1 ⟨v1, rfl, ho1, hb1⟩; obtain ⟨a1, c1, rfl, -, -⟩ := ho1.form; have HO := Lib.hid ho1; have HK1 := Lib.hid ((hb1.cell (World.block_lt_of_cell? _ _ HC1.out)).trans HC1.out); have HK2 := Lib.hid ((hb1.cell (World.block_lt_of_cell? _ _ HC2.out)).trans HC2.out); have HB1 := Lib.hid (Below.step HB.out hb1); clear ho1 hb1))
    | (go_at_call 108; ((with_reducible refine (HCO.out _ _ _ HO.out HK1.out HK2.out).mono ?_); rintro e w2 ⟨rfl, hb2⟩; have HB2 := Lib.hid (Below.step HB1.out hb2); clear hb2)))
  go_ret
  exact ⟨rfl, HB2.out⟩

theorem results_exd (tmps : Array Value) (w : World) (g : Nat) (l : List Int) (b : Bool) (hl : l.length ≤ 12) (hg : SysIn w g l) (h2 : tmps.getD 6 undef = .pointer (some ⟨g, 0, none⟩)) (h3 : tmps.getD 7 undef = .bool b) :
    (results Try.f57 tmps).run Try.prog w = .ok (.tuple #[.agg (sysC l), .bool b]) w := by
  have h2' : tmps[6]?.getD undef = .pointer (some ⟨g, 0, none⟩) := by simpa using h2
  have h3' : tmps[7]?.getD undef = .bool b := by simpa using h3
  have hr : Try.f57.results = #[.cell 6 56, .tmp 7] := by kernel_rfl
  simp [results, hr, h2', h3', asAddr, run_loadSys w g l hl hg]
def ExdOut (w : World) (l : List Int) (ok : Bool) (e : Ending) (w' : World) : Prop := e = .returned (.tuple #[.agg (sysC l), .bool ok]) ∧ Below w.heap.size w w'
theorem set_len {l : List Int} {i j : Int} : (setJ l i j).length = l.length := by simp [setJ]
set_option maxHeartbeats 4000000 in
set_option maxRecDepth 100000 in
theorem exchanged_any (l : List Int) (i j : Nat) (w : World) (hg : goodB l = true) (hij : i < j) (hj : j < l.length) :
    Calls Try.prog 57 #[.agg (sysC l), .int .i64 (i : Int), .int .i64 (j : Int)] w (ExdOut w (if shareB l (i : Int) (j : Int) then exL l (i : Int) (j : Int) else []) (shareB l (i : Int) (j : Int))) := by
  have hl := good_len' hg
  have HSH := Lib.hid (fun w => shareFace_any l i j w hl (by omega) (by omega))
  have hb0 : SysIn (w.alloc (.cells (sysC l) 56)) w.heap.size l := heap_alloc_new w _
  have hbx : SysIn ((w.alloc (.cells (sysC l) 56)).alloc (.cells #[.int .i64 0, .int .i64 0, .int .i64 0, .int .i64 0, .int .i64 0, .int .i64 0, .int .i64 0, .int .i64 0, .int .i64 0, .int .i64 0, .int .i64 0, .int .i64 0, .int .i64 0] 56)) w.heap.size l := SysIn.below hb0 (Below.alloc1 _ _)
  have hbz : SysIn ((w.alloc (.cells (sysC l) 56)).alloc (.cells #[.int .i64 0, .int .i64 0, .int .i64 0, .int .i64 0, .int .i64 0, .int .i64 0, .int .i64 0, .int .i64 0, .int .i64 0, .int .i64 0, .int .i64 0, .int .i64 0, .int .i64 0] 56)) (w.heap.size + 1) [] := by
    have := SysIn.blank (w.alloc (.cells (sysC l) 56)) 0 0 rfl (by omega)
    rw [World.size_alloc] at this
    exact this
  have hbel : Below w.heap.size w ((w.alloc (.cells (sysC l) 56)).alloc (.cells #[.int .i64 0, .int .i64 0, .int .i64 0, .int .i64 0, .int .i64 0, .int .i64 0, .int .i64 0, .int .i64 0, .int .i64 0, .int .i64 0, .int .i64 0, .int .i64 0, .int .i64 0] 56)) := Below.step (Below.alloc1 _ _) (Below.alloc1 _ _)
  have f1 := (good_facts hg).2.2.1 i (by omega)
  have f2 := (good_facts hg).2.2.1 j hj
  have hc : ∀ W, SysIn W w.heap.size l → W.cell? ⟨w.heap.size, i, none⟩ = some (.int .i64 (l.getD i 0)) ∧ W.cell? ⟨w.heap.size, j, none⟩ = some (.int .i64 (l.getD j 0)) := fun W h => ⟨h.cell hl i (by omega), h.cell hl j (by omega)⟩
  have he : exL l (i : Int) (j : Int) = if l.getD i 0 < (j : Int) then setJ (setJ l (i : Int) (l.getD j 0)) (l.getD i 0) (j : Int) else setJ (setJ l (i : Int) (j : Int)) (l.getD j 0) (l.getD i 0) := by
    unfold exL; simp only [Int.toNat_natCast]
  have hlen := exL_length l (i : Int) (j : Int)
  have HX := Lib.hid hbx; have HZ := Lib.hid hbz; have HB := Lib.hid hbel; have HL := Lib.hid hl; have HC := Lib.hid hc; have HE := Lib.hid he; have HLEN := Lib.hid hlen
  have hi12 : i < 12 := by omega
  have hj12 : j < 12 := by omega
  clear hb0 hbx hbz hbel hl hc he hlen hg
  generalize hR : shareB l (i : Int) (j : Int) = R at *
  cases R with
  | false =>
    simp only [Bool.false_eq_true, if_false]
    go_enter Try.func57, Try.ntmps57
    go_wp2_with (first
      | (with_reducible refine wp_loadSys rfl (.tmp 3) rfl w.heap.size l HL.out rfl HX.out ?_)
      | (go_at_call 91; ((with_reducible refine (HSH.out _).mono ?_); rintro e w1 ⟨rfl, hb1⟩; have HZ1 := Lib.hid (HZ.out.below hb1); have HB1 := Lib.hid (Below.step HB.out hb1); clear hb1))
      | ((with_reducible refine wp_storeSys0 rfl (.tmp 6) (.tmp 15) rfl (w.heap.size + 1) [] (by simp) rfl rfl HZ1.out ?_); intro w5 hp5 hg5))
    exact bodyPost_ret (results_exd _ _ (w.heap.size + 1) [] false (by simp) hp5 rfl rfl) rfl ⟨rfl, HB1.out.grown hg5 HB1.out.size (by intro k hk; simp at hk; omega)⟩
  | true =>
    simp only [if_true]
    rw [HE.out]
    generalize hx : l.getD i 0 = x at *
    generalize hy : l.getD j 0 = y at *
    clear hx hy hR
    by_cases hq : x < (j : Int)
    · rw [if_pos hq]
      go_enter Try.func57, Try.ntmps57
      go_wp2_with (first
        | (with_reducible refine wp_loadSys rfl (.tmp 3) rfl w.heap.size l HL.out rfl HX.out ?_)
        | (go_at_call 91; ((with_reducible refine (HSH.out _).mono ?_); rintro e w1 ⟨rfl, hb1⟩; have HX1 := Lib.hid (HX.out.below hb1); have HZ1 := Lib.hid (HZ.out.below hb1); have HB1 := Lib.hid (Below.step HB.out hb1); have k1 := (HC.out _ HX1.out).1; have k2 := (HC.out _ HX1.out).2; clear hb1)))
      go_region
      have HX1d : Hid (SysIn w1.drew w.heap.size l) := HX1.out
      have HZ1d : Hid (SysIn w1.drew (w.heap.size + 1) []) := HZ1.out
      have HB1d : Hid (Below w.heap.size w w1.drew) := Below.drew HB1.out
      have HJ1 := Lib.hid (join_int w.heap.size (i : Int) y l w1.drew HX1d.out HL.out (by omega) (by omega) (by omega) (by omega))
      have HJ2 := Lib.hid (fun W (h : SysIn W w.heap.size (setJ l (i : Int) y)) => join_int w.heap.size x (j : Int) (setJ l (i : Int) y) W h (by rw [set_len]; exact HL.out) (by omega) (by rw [set_len]; omega) (by omega) (by rw [set_len]; omega))
      clear k1 k2
      go_wp2_with (first
        | (go_at_call 92; ((with_reducible refine HJ1.out.mono ?_); rintro e w2 ⟨rfl, hs2, hg2⟩; have HX2 : Hid (SysIn w2 w.heap.size (setJ l (i : Int) y)) := hs2; have HZ2 := Lib.hid (HZ1d.out.grown hg2 (Nat.succ_ne_self _)); have HB2 := Lib.hid (HB1d.out.grown hg2 HB1d.out.size (by intro k hk; simp at hk; omega)); clear hs2 hg2))
        | (go_at_call 92; ((with_reducible refine (HJ2.out _ HX2.out).mono ?_); rintro e w3 ⟨rfl, hs3, hg3⟩; have HX3 : Hid (SysIn w3 w.heap.size (setJ (setJ l (i : Int) y) x (j : Int))) := hs3; have HZ3 := Lib.hid (HZ2.out.grown hg3 (Nat.succ_ne_self _)); have HB3 := Lib.hid (HB2.out.grown hg3 HB2.out.size (by intro k hk; simp at hk; omega)); clear hs3 hg3))
        | (with_reducible refine wp_loadSys rfl (.tmp 3) rfl w.heap.size (setJ (setJ l (i : Int) y) x (j : Int)) (by rw [set_len, set_len]; exact HL.out) rfl HX3.out ?_)
        | ((with_reducible refine wp_storeSys rfl (.tmp 6) (.tmp 39) rfl (w.heap.size + 1) (setJ (setJ l (i : Int) y) x (j : Int)) [] (by rw [set_len, set_len]; exact HL.out) (by simp) rfl rfl HZ3.out ?_); intro w5 hp5 hg5))
      exact bodyPost_ret (results_exd _ _ (w.heap.size + 1) _ true (by rw [set_len, set_len]; exact HL.out) hp5 rfl rfl) rfl ⟨rfl, HB3.out.grown hg5 HB3.out.size (by intro k hk; simp at hk; omega)⟩
    · rw [if_neg hq]
      go_enter Try.func57, Try.ntmps57
      go_wp2_with (first
        | (with_reducible refine wp_loadSys rfl (.tmp 3) rfl w.heap.size l HL.out rfl HX.out ?_)
        | (go_at_call 91; ((with_reducible refine (HSH.out _).mono ?_); rintro e w1 ⟨rfl, hb1⟩; have HX1 := Lib.hid (HX.out.below hb1); have HZ1 := Lib.hid (HZ.out.below hb1); have HB1 := Lib.hid (Below.step HB.out hb1); have k1 := (HC.out _ HX1.out).1; have k2 := (HC.out _ HX1.out).2; clear hb1)))
      go_region
      have HX1d : Hid (SysIn w1.drew w.heap.size l) := HX1.out
      have HZ1d : Hid (SysIn w1.drew (w.heap.size + 1) []) := HZ1.out
      have HB1d : Hid (Below w.heap.size w w1.drew) := Below.drew HB1.out
      have HJ1 := Lib.hid (join_int w.heap.size (i : Int) (j : Int) l w1.drew HX1d.out HL.out (by omega) (by omega) (by omega) (by omega))
      have HJ2 := Lib.hid (fun W (h : SysIn W w.heap.size (setJ l (i : Int) (j : Int))) => join_int w.heap.size y x (setJ l (i : Int) (j : Int)) W h (by rw [set_len]; exact HL.out) (by omega) (by rw [set_len]; omega) (by omega) (by rw [set_len]; omega))
      clear k1 k2
      go_wp2_with (first
        | (go_at_call 92; ((with_reducible refine HJ1.out.mono ?_); rintro e w2 ⟨rfl, hs2, hg2⟩; have HX2 : Hid (SysIn w2 w.heap.size (setJ l (i : Int) (j : Int))) := hs2; have HZ2 := Lib.hid (HZ1d.out.grown hg2 (Nat.succ_ne_self _)); have HB2 := Lib.hid (HB1d.out.grown hg2 HB1d.out.size (by intro k hk; simp at hk; omega)); clear hs2 hg2))
        | (go_at_call 92; ((with_reducible refine (HJ2.out _ HX2.out).mono ?_); rintro e w3 ⟨rfl, hs3, hg3⟩; have HX3 : Hid (SysIn w3 w.heap.size (setJ (setJ l (i : Int) (j : Int)) y x)) := hs3; have HZ3 := Lib.hid (HZ2.out.grown hg3 (Nat.succ_ne_self _)); have HB3 := Lib.hid (HB2.out.grown hg3 HB2.out.size (by intro k hk; simp at hk; omega)); clear hs3 hg3))
        | (with_reducible refine wp_loadSys rfl (.tmp 3) rfl w.heap.size (setJ (setJ l (i : Int) (j : Int)) y x) (by rw [set_len, set_len]; exact HL.out) rfl HX3.out ?_)
        | ((with_reducible refine wp_storeSys rfl (.tmp 6) (.tmp 39) rfl (w.heap.size + 1) (setJ (setJ l (i : Int) (j : Int)) y x) [] (by rw [set_len, set_len]; exact HL.out) (by simp) rfl rfl HZ3.out ?_); intro w5 hp5 hg5))
      exact bodyPost_ret (results_exd _ _ (w.heap.size + 1) _ true (by rw [set_len, set_len]; exact HL.out) hp5 rfl rfl) rfl ⟨rfl, HB3.out.grown hg5 HB3.out.size (by intro k hk; simp at hk; omega)⟩

end Go.Proofs.Ytogjclmmjdhfeac
