/- FoldingOfSemi: the program's function and the model's. -/
import Derived.Test.YtodbjkfikbkkbacFolding
namespace Go.Proofs.Ytodbjkfikbkkbac
open Go.RowKit
set_option linter.unusedSimpArgs false
set_option linter.unusedVariables false

theorem semi_pos {l : List Int} (h : semiB l = true) : l.length ≠ 0 := by
  intro h0
  have : l = [] := List.eq_nil_of_length_eq_zero h0
  subst this
  revert h
  decide +kernel

def SemiOut (w : World) (l : List Int) (b : Bool) (e : Ending) (w' : World) : Prop := e = .returned (.tuple #[.agg (sysC l), .bool b]) ∧ Below w.heap.size w w'

theorem results_rsemi (tmps : Array Value) (w : World) (g : Nat) (l : List Int) (b : Bool) (hl : l.length ≤ 12) (hg : SysIn w g l) (h2 : tmps.getD 2 undef = .pointer (some ⟨g, 0, none⟩)) (h3 : tmps.getD 3 undef = .bool b) :
    (results Try.f48 tmps).run Try.prog w = .ok (.tuple #[.agg (sysC l), .bool b]) w := by
  have h2' : tmps[2]?.getD undef = .pointer (some ⟨g, 0, none⟩) := by simpa using h2
  have h3' : tmps[3]?.getD undef = .bool b := by simpa using h3
  have hr : Try.f48.results = #[.cell 2 51, .tmp 3] := by kernel_rfl
  simp [results, hr, h2', h3', asAddr, run_loadSys w g l hl hg]

theorem sys_zero (w : World) : SysIn (w.alloc (.cells #[.int .i64 0, .int .i64 0, .int .i64 0, .int .i64 0, .int .i64 0, .int .i64 0, .int .i64 0, .int .i64 0, .int .i64 0, .int .i64 0, .int .i64 0, .int .i64 0, .int .i64 0] 51)) w.heap.size [] := heap_alloc_new w (.cells (sysC []) 51)

theorem semi_below {w w1 w2 w3 w4 : World} {A : Obj} (h1 : Below (w.alloc A).heap.size (w.alloc A) w1) (h2 : Below w1.heap.size w1 w2) (h3 : Below w2.heap.size w2 w3) (h4 : w3.grownBy w4 (some w.heap.size)) : Below w.heap.size w w4 := by
  have s1 : w.heap.size ≤ w1.heap.size := by have := h1.size; simp at this; omega
  have B := Below.step (Below.step (Below.step (Below.alloc1 w A) h1) h2) h3
  exact B.grown h4 B.size (by intro k hk; simp at hk; omega)

set_option maxHeartbeats 1000000 in
theorem readSemi_yes (v : Value) (l : List Int) (w : World) (h : Rd w v l) (hg : goodB l = true) (hs : semiB l = true) : Calls Try.prog 48 #[v] w (SemiOut w l true) := by
  have HL := Lib.hid (good_len' hg)
  have HF := Lib.hid (fun w => isSemi_any l w hg)
  rw [hs] at HF
  have HG := Lib.hid hg; have H := Lib.hid h
  have HZ := Lib.hid (sys_zero w)
  clear hg hs h
  go_enter Try.func48, Try.ntmps48
  go_wp2_with fail
  refine (readSystem_yes v l _ (H.out.below (Below.alloc1 _ _)) HG.out).mono ?_
  rintro e w1 ⟨rfl, hb⟩
  have HZ1 := Lib.hid (HZ.out.below hb)
  go_wp2_with (first
    | ((with_reducible refine wp_storeNew rfl (.tmp 4) (.tmp 9) rfl _ l HL.out rfl rfl ?_); intro w2 hs2 hb2; have HZ2 := Lib.hid (HZ1.out.below hb2))
    | (with_reducible refine wp_loadSysG (.tmp 4) rfl w1.heap.size l HL.out rfl hs2 (by with_unfolding_all rfl) ?_)
    | (go_at_call 40; refine (HF.out _).mono ?_; rintro e w3 ⟨rfl, hb3⟩; have HZ3 := Lib.hid (HZ2.out.below hb3); have hs3 := hs2.below hb3)
    | (with_reducible refine wp_loadSys rfl (.tmp 4) rfl w1.heap.size l HL.out rfl hs3 ?_)
    | ((with_reducible refine wp_storeSys rfl (.tmp 2) (.tmp 19) rfl w.heap.size l [] HL.out (Nat.zero_le _) rfl rfl HZ3.out ?_); intro w4 hs4 hg4))
  exact bodyPost_ret (results_rsemi _ _ w.heap.size l true HL.out hs4 rfl rfl) rfl ⟨rfl, semi_below hb hb2 hb3 hg4⟩

set_option maxHeartbeats 1000000 in
theorem readSemi_no (v : Value) (l : List Int) (w : World) (h : Rd w v l) (hg : goodB l = true) (hs : semiB l = false) : Calls Try.prog 48 #[v] w (SemiOut w [] false) := by
  have HL := Lib.hid (good_len' hg)
  have HF := Lib.hid (fun w => isSemi_any l w hg)
  rw [hs] at HF
  have HG := Lib.hid hg; have H := Lib.hid h
  have HZ := Lib.hid (sys_zero w)
  clear hg hs h
  go_enter Try.func48, Try.ntmps48
  go_wp2_with fail
  refine (readSystem_yes v l _ (H.out.below (Below.alloc1 _ _)) HG.out).mono ?_
  rintro e w1 ⟨rfl, hb⟩
  have HZ1 := Lib.hid (HZ.out.below hb)
  go_wp2_with (first
    | ((with_reducible refine wp_storeNew rfl (.tmp 4) (.tmp 9) rfl _ l HL.out rfl rfl ?_); intro w2 hs2 hb2; have HZ2 := Lib.hid (HZ1.out.below hb2))
    | (with_reducible refine wp_loadSysG (.tmp 4) rfl w1.heap.size l HL.out rfl hs2 (by with_unfolding_all rfl) ?_)
    | (go_at_call 40; refine (HF.out _).mono ?_; rintro e w3 ⟨rfl, hb3⟩; have HZ3 := Lib.hid (HZ2.out.below hb3))
    | ((with_reducible refine wp_storeSys0 rfl (.tmp 2) (.tmp 18) rfl w.heap.size [] (Nat.zero_le _) rfl rfl HZ3.out ?_); intro w4 hs4 hg4))
  exact bodyPost_ret (results_rsemi _ _ w.heap.size [] false (Nat.zero_le _) hs4 rfl rfl) rfl ⟨rfl, semi_below hb hb2 hb3 hg4⟩

set_option maxHeartbeats 1000000 in
theorem readSemi_bad (v : Value) (l : List Int) (w : World) (h : Rd w v l) (hg : goodB l = false) : Calls Try.prog 48 #[v] w (SemiOut w [] false) := by
  have HG := Lib.hid hg; have H := Lib.hid h
  have HZ := Lib.hid (sys_zero w)
  clear hg h
  go_enter Try.func48, Try.ntmps48
  go_wp2_with fail
  refine (readSystem_no v l _ (H.out.below (Below.alloc1 _ _)) HG.out).mono ?_
  rintro e w1 ⟨rfl, hb⟩
  have HZ1 := Lib.hid (HZ.out.below hb)
  go_wp2_with (first
    | ((with_reducible refine wp_storeNew rfl (.tmp 4) (.tmp 9) rfl _ [] (Nat.zero_le _) rfl rfl ?_); intro w2 hs2 hb2; have HZ2 := Lib.hid (HZ1.out.below hb2))
    | ((with_reducible refine wp_storeSys0 rfl (.tmp 2) (.tmp 18) rfl w.heap.size [] (Nat.zero_le _) rfl rfl HZ2.out ?_); intro w4 hs4 hg4))
  exact bodyPost_ret (results_rsemi _ _ w.heap.size [] false (Nat.zero_le _) hs4 rfl rfl) rfl ⟨rfl, semi_below hb hb2 (Below.refl _ _) hg4⟩

def ok_FoldingOfSemi (l : List Int) : Bool := goodB l && semiB l
def res_FoldingOfSemi (l : List Int) : List Int := if goodB l && semiB l then foldS l else []
theorem len_FoldingOfSemi (l : List Int) : (res_FoldingOfSemi l).length ≤ 1000000 := by
  unfold res_FoldingOfSemi
  split
  · next h => rw [foldS_length]; have := good_len' (by simp at h; exact h.1); omega
  · simp
theorem fos_yes {l : List Int} (h1 : goodB l = true) (h2 : semiB l = true) : res_FoldingOfSemi l = foldS l ∧ ok_FoldingOfSemi l = true := by
  unfold res_FoldingOfSemi ok_FoldingOfSemi; rw [h1, h2]; exact ⟨rfl, rfl⟩
theorem fos_no {l : List Int} (h2 : (goodB l && semiB l) = false) : res_FoldingOfSemi l = [] ∧ ok_FoldingOfSemi l = false := by
  unfold res_FoldingOfSemi ok_FoldingOfSemi; rw [h2]; exact ⟨rfl, rfl⟩

set_option maxHeartbeats 1000000 in
theorem impl_FoldingOfSemi (l : List Int) (w : World) (u : Value) (h : Rd w u l) (m : l.length ≤ 1048576) : Calls Try.prog 27 #[u] w (Gives w (res_FoldingOfSemi l) (ok_FoldingOfSemi l)) := by
  by_cases hc : goodB l = true ∧ semiB l = true
  · obtain ⟨hg, hs⟩ := hc
    rw [(fos_yes hg hs).1, (fos_yes hg hs).2]
    have HL := Lib.hid (good_len' hg)
    have HC := Lib.hid (readSemi_yes u l w h hg hs)
    have HF := Lib.hid (fun w => folding_any l w hg (semi_pos hs))
    have HU : Hid ((foldS l).length ≤ 8) := by show _ ≤ 8; rw [foldS_length]; have := HL.out; omega
    clear hg hs h
    go_enter Try.func27, Try.ntmps27
    go_wp2_with fail
    refine HC.out.mono ?_
    rintro e w1 ⟨rfl, hb⟩
    go_wp2_with (first
      | ((with_reducible refine wp_storeNew rfl (.tmp 4) (.tmp 9) rfl _ l HL.out rfl rfl ?_); intro w2 hs2 hb2)
      | (with_reducible refine wp_loadSys rfl (.tmp 4) rfl w1.heap.size l HL.out rfl hs2 ?_)
      | (go_at_call 49; refine (HF.out _).mono ?_; rintro e w3 ⟨rfl, hb3⟩)
      | (go_at_call 50; refine (stkList_any _ _ HU.out).mono ?_; rintro e w4 ⟨v, rfl, hown, hb4⟩))
    go_ret2
    have C := Below.step (Below.step hb hb2) hb3
    exact ⟨_, rfl, hown.mono C.size, Below.step C hb4⟩
  · have hn : (goodB l && semiB l) = false := by
      cases h1 : goodB l <;> cases h2 : semiB l <;> simp_all
    rw [(fos_no hn).1, (fos_no hn).2]
    have HC : Hid (Calls Try.prog 48 #[u] w (SemiOut w [] false)) := by
      cases h1 : goodB l with
      | false => exact readSemi_bad u l w h h1
      | true =>
        rw [h1, Bool.true_and] at hn
        exact readSemi_no u l w h h1 hn
    clear hc hn h
    go_enter Try.func27, Try.ntmps27
    go_wp2_with fail
    refine HC.out.mono ?_
    rintro e w1 ⟨rfl, hb⟩
    go_wp2_with ((with_reducible refine wp_storeNew rfl (.tmp 4) (.tmp 9) rfl _ [] (Nat.zero_le _) rfl rfl ?_); intro w2 hs2 hb2)
    go_ret2
    exact ⟨_, rfl, Own.nil _ _, Below.step hb hb2⟩

set_option maxHeartbeats 1000000 in
theorem spSemi_nil (v : Value) (l : List Int) (w : World) (h : Rd w v l) (h0 : l.length = 0) : Calls Try.prog 38 #[v] w (Tells w false) := by
  obtain ⟨a, c, rfl, hlc, hcm, hnc, hrd⟩ := h
  rw [h0]
  clear hrd hlc hcm hnc h0
  go_enter Try.func38, Try.ntmps38
  go_wp2
  go_ret
  exact ⟨rfl, Below.refl _ _⟩
theorem spSemi_all (v : Value) (l : List Int) (w : World) (h : Rd w v l) (hg : goodB l = true) : Calls Try.prog 38 #[v] w (Tells w (semiB l)) := by
  by_cases h0 : l.length = 0
  · have : semiB l = false := by
      cases hs : semiB l with
      | false => rfl
      | true => exact absurd h0 (semi_pos hs)
    rw [this]
    exact spSemi_nil v l w h h0
  · exact spSemi_any v l w h hg h0

theorem fold_snoc (l : List Int) (k : Nat) (h : k < l.length / 2) : (foldS l).take (k + 1) = (foldS l).take k ++ [((crN (l.length / 2) (atN l (l.length / 2) k) : Nat) : Int)] := by
  rw [List.take_succ_eq_append_getElem (by rw [foldS_length]; exact h), ← foldS_get l k h]
  simp [List.getD, foldS_length, h]

set_option maxHeartbeats 2000000 in
set_option maxRecDepth 100000 in
theorem specFoS_run (l : List Int) (w : World) (u : Value) (h : Rd w u l) (m : l.length ≤ 1048576) (hg : goodB l = true) (hs : semiB l = true) : Calls Try.prog 26 #[u] w (Gives w (foldS l) true) := by
  have HA := Lib.hid (ahGood_any u l w h m)
  rw [hg] at HA
  have HS := Lib.hid (fun (w1 : World) (h1 : Rd w1 u l) => spSemi_all u l w1 h1 hg)
  rw [hs] at HS
  have h12 := good_len' hg
  have hev := (good_facts hg).1
  have h0 := semi_pos hs
  have hrr := fun k hk => (good_facts hg).2.2.1 k hk
  have HAT := Lib.hid (atN_lt hg h0)
  have HFL := Lib.hid (foldS_length l)
  have hsn := fold_snoc l
  have H := Lib.hid h
  obtain ⟨bb, off, c, rfl, hlc, hcm, hcell⟩ := h.at (by omega)
  obtain ⟨q, hq⟩ : ∃ q, q = l.length / 2 := ⟨_, rfl⟩
  have hlq : l.length = 2 * q := by omega
  have hq6 : q ≤ 6 := by omega
  have hq0 : 0 < q := by omega
  rw [← hq] at HAT HFL hsn
  obtain ⟨n, hn⟩ : ∃ n, n = l.length := ⟨_, rfl⟩
  rw [← hn] at hlc hcell h12 hlq hrr HAT HA HS H ⊢
  unfold maxLen at hcm
  have hd : (n : Int) / 2 = (q : Int) := by omega
  have HC := Lib.hid hcell; have HSN := Lib.hid hsn; have HRR := Lib.hid hrr; have HLQ := Lib.hid hlq; have HN := Lib.hid hn
  clear hn hcell hsn hrr hlq hq hg hs h0 hev m
  go_enter Try.func26, Try.ntmps26
  go_wp2_with (first
    | (go_at_call 37; refine HA.out.mono ?_; rintro e w1 ⟨rfl, hb1⟩)
    | (go_at_call 38; refine (HS.out _ (H.out.below hb1)).mono ?_; rintro e w2 ⟨rfl, hb2⟩; have HB0 := Lib.hid (Below.step hb1 hb2)))
  go_loopw [5, 6] (fun o x wr => ∃ k : Nat, k ≤ q ∧ x = .int .i64 ((atN l q k : Nat) : Int) ∧ Own w.heap.size wr o ((foldS l).take k) ∧ Below w.heap.size w wr) (fun o _ _ => q - (match o with | .slice _ n _ => n | _ => 0))
  case atStart => exact ⟨0, by omega, rfl, Own.nil _ _, HB0.out⟩
  case round =>
    obtain ⟨k, hk, rfl, hown, hbel⟩ := hrel
    have hsz := hbel.size
    have hlk : ((foldS l).take k).length = k := by rw [List.length_take, HFL.out]; omega
    obtain ⟨a1, c1, rfl, hc1, hc2⟩ := hown.form
    rw [hlk] at hc1 hown ⊢
    unfold maxLen at hc2
    have HLK := Lib.hid hlk
    clear hlk
    by_cases hlt : k < q
    · have hx := HAT.out k
      have hsn := HSN.out k hlt
      have hrx := HRR.out (atN l q k) hx
      have hpi := par_int hrx.1
      have hnx : atN l q (k + 1) = 2 * q - 1 - par l (atN l q k) := rfl
      have hsrc : w.cell? ⟨bb, off + atN l q k, none⟩ = some (.int .i64 (l.getD (atN l q k) 0)) := HC.out (atN l q k) hx
      obtain ⟨x, hxe⟩ : ∃ x, x = atN l q k := ⟨_, rfl⟩
      rw [← hxe] at hx hsn hrx hpi hnx hsrc ⊢
      rw [← hpi] at hrx hsrc
      generalize par l x = p at hpi hnx hrx hsrc
      have hpn : p < n := by have := HN.out; omega
      have hnx' : (2 * (q : Int) - 1 - (p : Int)) = ((atN l q (k + 1) : Nat) : Int) := by rw [hnx]; have := HLQ.out; omega
      have HNX := Lib.hid hnx'
      have hx2 : x < 2 * q := by have := HLQ.out; omega
      have HCX := Lib.hid hsrc
      have HO := Lib.hid hown; have HBE := Lib.hid hbel
      have hp2 : p < 2 * q := by have := HLQ.out; omega
      clear hxe hpi hnx hnx' hown hbel hrx hsrc
      by_cases hxq : x < q
      · have hcr : ((crN q x : Nat) : Int) = (q : Int) - 1 - (x : Int) := by unfold crN; omega
        rw [hcr] at hsn
        have HS2 := Lib.hid hsn
        clear hcr hsn
        go_wp2_with (at_builtin; refine wp_append _ rfl _ _ rfl w.heap.size _ _ ((foldS l).take k) [(q : Int) - 1 - (x : Int)] rfl rfl (Own.below HO.out (Below.alloc1 _ _)) (Own.rd (Own.lit1 _ _ _ (Nat.le_refl _))) (by have := HLK.out; simp only [List.length_cons, List.length_nil]; omega) (by simp; omega) ?_; intro v' w3 hown3 hgr hbel3; rw [← HS2.out] at hown3; have HO3 := Lib.hid hown3; have hbel4 := Lib.hid ((HBE.out.alloc hsz _).trans hbel3); have hs3 := (hbel4.out.cell (p := ⟨bb, off + x, none⟩) (World.block_lt_of_cell? w _ HCX.out)).trans HCX.out; clear hgr hbel3 hown3)
        go_roundw
        case rel => exact ⟨k + 1, by omega, by rw [HNX.out], HO3.out, hbel4.out⟩
        case measure =>
          obtain ⟨a2, c2, rfl, _, _⟩ := HO3.out.form
          rw [show ((foldS l).take (k + 1)).length = k + 1 by rw [List.length_take, HFL.out]; omega]
          simp; omega
      · have hcr : ((crN q x : Nat) : Int) = (x : Int) - (q : Int) := by unfold crN; omega
        rw [hcr] at hsn
        have HS2 := Lib.hid hsn
        clear hcr hsn
        go_wp2_with (at_builtin; refine wp_append _ rfl _ _ rfl w.heap.size _ _ ((foldS l).take k) [(x : Int) - (q : Int)] rfl rfl (Own.below HO.out (Below.alloc1 _ _)) (Own.rd (Own.lit1 _ _ _ (Nat.le_refl _))) (by have := HLK.out; simp only [List.length_cons, List.length_nil]; omega) (by simp; omega) ?_; intro v' w3 hown3 hgr hbel3; rw [← HS2.out] at hown3; have HO3 := Lib.hid hown3; have hbel4 := Lib.hid ((HBE.out.alloc hsz _).trans hbel3); have hs3 := (hbel4.out.cell (p := ⟨bb, off + x, none⟩) (World.block_lt_of_cell? w _ HCX.out)).trans HCX.out; clear hgr hbel3 hown3)
        go_roundw
        case rel => exact ⟨k + 1, by omega, by rw [HNX.out], HO3.out, hbel4.out⟩
        case measure =>
          obtain ⟨a2, c2, rfl, _, _⟩ := HO3.out.form
          rw [show ((foldS l).take (k + 1)).length = k + 1 by rw [List.length_take, HFL.out]; omega]
          simp; omega
    · obtain rfl : k = q := by omega
      go_wp2
      go_ret2
      rw [List.take_of_length_le (by rw [HFL.out]; exact Nat.le_refl _)] at hown
      exact ⟨_, rfl, hown, hbel⟩

set_option maxHeartbeats 1000000 in
theorem spec_FoldingOfSemi (l : List Int) (w : World) (u : Value) (h : Rd w u l) (m : l.length ≤ 1048576) : Calls Try.prog 26 #[u] w (Gives w (res_FoldingOfSemi l) (ok_FoldingOfSemi l)) := by
  have HA := Lib.hid (ahGood_any u l w h m)
  cases hg : goodB l with
  | true =>
    cases hs : semiB l with
    | true =>
      rw [(fos_yes hg hs).1, (fos_yes hg hs).2]
      exact specFoS_run l w u h m hg hs
    | false =>
      have hn : (goodB l && semiB l) = false := by rw [hg, hs]; rfl
      rw [(fos_no hn).1, (fos_no hn).2]
      rw [hg] at HA
      have HS := Lib.hid (fun (w1 : World) (h1 : Rd w1 u l) => spSemi_all u l w1 h1 hg)
      rw [hs] at HS
      have H := Lib.hid h
      clear hn hg hs h
      go_enter Try.func26, Try.ntmps26
      go_wp2_with (first
        | (go_at_call 37; refine HA.out.mono ?_; rintro e w1 ⟨rfl, hb1⟩)
        | (go_at_call 38; refine (HS.out _ (H.out.below hb1)).mono ?_; rintro e w2 ⟨rfl, hb2⟩))
      go_ret2
      exact ⟨_, rfl, Own.nil _ _, Below.step hb1 hb2⟩
  | false =>
    have hn : (goodB l && semiB l) = false := by rw [hg]; rfl
    rw [(fos_no hn).1, (fos_no hn).2]
    rw [hg] at HA
    clear hn hg h
    go_enter Try.func26, Try.ntmps26
    go_wp2_with (go_at_call 37; refine HA.out.mono ?_; rintro e w1 ⟨rfl, hb1⟩)
    go_ret2
    exact ⟨_, rfl, Own.nil _ _, hb1⟩

end Go.Proofs.Ytodbjkfikbkkbac
