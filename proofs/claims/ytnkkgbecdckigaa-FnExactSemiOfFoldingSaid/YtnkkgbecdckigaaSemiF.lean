/- The semi-meander of a folding in the program. -/
import Derived.Test.YtnkkgbecdckigaaFolding
import Derived.Test.YtnkkgbecdckigaaRain
namespace Go.Proofs.Ytnkkgbecdckigaa
open Go.RowKit
set_option linter.unusedSimpArgs false
set_option linter.unusedVariables false

/-- the arches joined so far -/
def semiK (s : List Int) (q : Nat) : Nat → List Int
  | 0 => List.replicate (2 * q) 0
  | k + 1 => ((semiK s q k).set (exN q (par s k)) ((2 * q - 1 - exN q (par s ((k + 1) % q)) : Nat) : Int)).set (2 * q - 1 - exN q (par s ((k + 1) % q))) ((exN q (par s k) : Nat) : Int)
theorem semiK_length (s : List Int) (q : Nat) : ∀ k, (semiK s q k).length = 2 * q
  | 0 => by simp [semiK]
  | k + 1 => by rw [semiK, List.length_set, List.length_set, semiK_length s q k]
def semiL (s : List Int) : List Int := semiK s s.length s.length
theorem semiL_length (s : List Int) : (semiL s).length = 2 * s.length := semiK_length _ _ _
theorem exN_lt {q c : Nat} (h : c < q) : exN q c < 2 * q := by unfold exN; split <;> omega

theorem sysG_blank (w : World) (A B : Obj) (q : Nat) (h : q ≤ 6) : SysIn (((w.alloc A).alloc B).alloc (.cells #[.int .i64 0, .int .i64 0, .int .i64 0, .int .i64 0, .int .i64 0, .int .i64 0, .int .i64 0, .int .i64 0, .int .i64 0, .int .i64 0, .int .i64 0, .int .i64 0, .int .i64 (2 * (q : Int))] 62)) (w.heap.size + 2) (List.replicate (2 * q) 0) := by
  have := SysIn.blank ((w.alloc A).alloc B) (2 * q) (2 * (q : Int)) (by omega) (by omega)
  simp only [World.size_alloc] at this
  exact this
theorem sysG_zero (w : World) (A B : Obj) : SysIn (((w.alloc A).alloc (.cells #[.int .i64 0, .int .i64 0, .int .i64 0, .int .i64 0, .int .i64 0, .int .i64 0, .int .i64 0, .int .i64 0, .int .i64 0, .int .i64 0, .int .i64 0, .int .i64 0, .int .i64 0] 62)).alloc B) (w.heap.size + 1) [] := by
  have := SysIn.below (show SysIn ((w.alloc A).alloc (.cells (sysC []) 62)) (w.alloc A).heap.size [] from heap_alloc_new _ _) (Below.alloc1 _ B)
  rw [World.size_alloc] at this
  exact this
theorem stkG_box (w : World) (l : List Int) (B C : Obj) : StkIn (((w.alloc (.cells (stkC l) 42)).alloc B).alloc C) w.heap.size l :=
  StkIn.below (StkIn.below (show StkIn (w.alloc (.cells (stkC l) 42)) w.heap.size l from heap_alloc_new w _) (Below.alloc1 _ B)) (Below.alloc1 _ C)

theorem results_semi (tmps : Array Value) (w : World) (g : Nat) (l : List Int) (hl : l.length ≤ 12) (hg : SysIn w g l) (h2 : tmps.getD 2 undef = .pointer (some ⟨g, 0, none⟩)) :
    (results Try.f55 tmps).run Try.prog w = .ok (.agg (sysC l)) w := by
  have h2' : tmps[2]?.getD undef = .pointer (some ⟨g, 0, none⟩) := by simpa using h2
  have hr : Try.f55.results = #[.cell 2 62] := by kernel_rfl
  simp [results, hr, h2', asAddr, run_loadSys w g l hl hg]

set_option maxHeartbeats 4000000 in
set_option maxRecDepth 100000 in
theorem semi_any (s : List Int) (w : World) (hs : stackB s = true) (h6 : s.length ≤ 6) :
    Calls Try.prog 55 #[.agg (stkC s)] w (SysRet w (semiL s)) := by
  have h8 := stack_len hs
  have h1 := (stack_facts hs).1
  have hlast := stkC_last h8
  have hrr := (stack_facts hs).2.2.1
  obtain ⟨q, hq⟩ : ∃ q, q = s.length := ⟨_, rfl⟩
  unfold semiL
  rw [← hq] at hlast h8 h6 h1 hrr ⊢
  have HBL : Hid (SysIn _ (w.heap.size + 2) (semiK s q 0)) := sysG_blank w (.cells (stkC s) 42) (.cells #[.int .i64 0, .int .i64 0, .int .i64 0, .int .i64 0, .int .i64 0, .int .i64 0, .int .i64 0, .int .i64 0, .int .i64 0, .int .i64 0, .int .i64 0, .int .i64 0, .int .i64 0] 62) q h6
  have HZ := Lib.hid (sysG_zero w (.cells (stkC s) 42) (.cells #[.int .i64 0, .int .i64 0, .int .i64 0, .int .i64 0, .int .i64 0, .int .i64 0, .int .i64 0, .int .i64 0, .int .i64 0, .int .i64 0, .int .i64 0, .int .i64 0, .int .i64 (2 * (q : Int))] 62))
  have HBX := Lib.hid (stkG_box w s (.cells #[.int .i64 0, .int .i64 0, .int .i64 0, .int .i64 0, .int .i64 0, .int .i64 0, .int .i64 0, .int .i64 0, .int .i64 0, .int .i64 0, .int .i64 0, .int .i64 0, .int .i64 0] 62) (.cells #[.int .i64 0, .int .i64 0, .int .i64 0, .int .i64 0, .int .i64 0, .int .i64 0, .int .i64 0, .int .i64 0, .int .i64 0, .int .i64 0, .int .i64 0, .int .i64 0, .int .i64 (2 * (q : Int))] 62))
  have HQ := Lib.hid hq; have HRR := Lib.hid hrr
  have HL := Lib.hid (semiK_length s q)
  have H8 : Hid (s.length ≤ 8) := by rw [← HQ.out]; exact h8
  have hal := fun b w => run_stamps b q w h8
  clear hq hrr hs
  go_enter Try.func55, Try.ntmps55
  go_wp2
  clear hal
  go_loopw [16] (fun i wr => ∃ k : Nat, k ≤ q ∧ i = .int .i64 k ∧ SysIn wr (w.heap.size + 2) (semiK s q k) ∧ StkIn wr w.heap.size s ∧ SysIn wr (w.heap.size + 1) [] ∧ Below w.heap.size w wr) (fun i _ => q - (intOf i).toNat)
  case atStart => exact ⟨0, by omega, rfl, HBL.out, HBX.out, HZ.out, ((Below.alloc1 _ _).alloc (by simp) _).alloc (by simp; omega) _⟩
  case round =>
    obtain ⟨k, hk, rfl, hm, hbx, hz, hbel⟩ := hrel
    by_cases hlt : k < q
    · have hc := hbx.cell H8.out k (by omega)
      have hcs := hbx.size H8.out
      rw [← HQ.out] at hcs
      have hk2 : (k + 1) % q < q := Nat.mod_lt _ (by omega)
      have hrem : ((k : Int) + 1) % (q : Int) = (((k + 1) % q : Nat) : Int) := by rw [Int.natCast_emod]; rfl
      have hnext : semiK s q (k + 1) = ((semiK s q k).set (exN q (par s k)) ((2 * q - 1 - exN q (par s ((k + 1) % q)) : Nat) : Int)).set (2 * q - 1 - exN q (par s ((k + 1) % q))) ((exN q (par s k) : Nat) : Int) := rfl
      obtain ⟨k2, hk2e⟩ : ∃ k2, k2 = (k + 1) % q := ⟨_, rfl⟩
      rw [← hk2e] at hk2 hrem hnext
      have hc2 := hbx.cell H8.out k2 (by omega)
      have hx1 := HRR.out k hlt
      have hx2 := HRR.out k2 hk2
      have p1 := par_int hx1.1
      have p2 := par_int hx2.1
      rw [← p1] at hc hx1
      rw [← p2] at hc2 hx2
      generalize par s k = c1 at *
      generalize par s k2 = c2 at *
      have hc1q : c1 < q := by omega
      have hc2q : c2 < q := by omega
      have hLk := HL.out k
      have hL12 : (semiK s q k).length ≤ 12 := by omega
      have e1 := fun w => exit_any (semiK s q k) q c1 w hLk h6 hc1q
      have e2 := fun w => exit_any (semiK s q k) q c2 w hLk h6 hc2q
      have x1 := exN_lt hc1q
      have x2 := exN_lt hc2q
      have e3 := fun w => otherSide_any (semiK s q k) (exN q c2) w hL12 (by omega)
      rw [hLk] at e3
      have hlit := sysC_lit hL12
      generalize semiK s q k = L at *
      have hj := fun (w : World) (h : SysIn w (w.heap.size) L) => h
      generalize exN q c1 = a1 at *
      generalize exN q c2 = a2 at *
      obtain ⟨a3, ha3⟩ : ∃ a3, a3 = 2 * q - 1 - a2 := ⟨_, rfl⟩
      rw [← ha3] at e3 hnext
      have x3 : a3 < 2 * q := by omega
      rw [hlit] at e1 e2 e3
      have E1 := Lib.hid e1; have E2 := Lib.hid e2; have E3 := Lib.hid e3; have HNX := Lib.hid hnext; have HLK := Lib.hid hLk; have HL12 := Lib.hid hL12
      have HM := Lib.hid hm; have HB := Lib.hid hbx; have HZZ := Lib.hid hz; have HBE := Lib.hid hbel
      clear e1 e2 e3 hnext ha3 hlit hj p1 p2 hx1 hx2 hm hbx hz hbel hk2e hLk hL12
      go_wp2
      have HSW : SysIn wr (w.heap.size + 2) L := HM.out
      have k0 := sys_cell HL12.out HM.out 0 (by omega)
      have k1 := sys_cell HL12.out HM.out 1 (by omega)
      have k2 := sys_cell HL12.out HM.out 2 (by omega)
      have k3 := sys_cell HL12.out HM.out 3 (by omega)
      have k4 := sys_cell HL12.out HM.out 4 (by omega)
      have k5 := sys_cell HL12.out HM.out 5 (by omega)
      have k6 := sys_cell HL12.out HM.out 6 (by omega)
      have k7 := sys_cell HL12.out HM.out 7 (by omega)
      have k8 := sys_cell HL12.out HM.out 8 (by omega)
      have k9 := sys_cell HL12.out HM.out 9 (by omega)
      have k10 := sys_cell HL12.out HM.out 10 (by omega)
      have k11 := sys_cell HL12.out HM.out 11 (by omega)
      have k12 := sys_cell HL12.out HM.out 12 (by omega)
      have hB0 : Below wr.heap.size wr wr.drew := (Below.refl _ _).drew
      go_region_with (first
        | (go_at_call 69; ((with_reducible refine (E1.out _).mono ?_); rintro e w' ⟨rfl, hb'⟩; have hs' : SysIn w' (w.heap.size + 2) L := SysIn.below (by assumption) hb'; have hB' : Below wr.heap.size wr w' := Below.step (by assumption) hb'; have k0' := sys_cell HL12.out hs' 0 (by omega); have k1' := sys_cell HL12.out hs' 1 (by omega); have k2' := sys_cell HL12.out hs' 2 (by omega); have k3' := sys_cell HL12.out hs' 3 (by omega); have k4' := sys_cell HL12.out hs' 4 (by omega); have k5' := sys_cell HL12.out hs' 5 (by omega); have k6' := sys_cell HL12.out hs' 6 (by omega); have k7' := sys_cell HL12.out hs' 7 (by omega); have k8' := sys_cell HL12.out hs' 8 (by omega); have k9' := sys_cell HL12.out hs' 9 (by omega); have k10' := sys_cell HL12.out hs' 10 (by omega); have k11' := sys_cell HL12.out hs' 11 (by omega); have k12' := sys_cell HL12.out hs' 12 (by omega)))
        | (go_at_call 69; ((with_reducible refine (E2.out _).mono ?_); rintro e w' ⟨rfl, hb'⟩; have hs' : SysIn w' (w.heap.size + 2) L := SysIn.below (by assumption) hb'; have hB' : Below wr.heap.size wr w' := Below.step (by assumption) hb'; have k0' := sys_cell HL12.out hs' 0 (by omega); have k1' := sys_cell HL12.out hs' 1 (by omega); have k2' := sys_cell HL12.out hs' 2 (by omega); have k3' := sys_cell HL12.out hs' 3 (by omega); have k4' := sys_cell HL12.out hs' 4 (by omega); have k5' := sys_cell HL12.out hs' 5 (by omega); have k6' := sys_cell HL12.out hs' 6 (by omega); have k7' := sys_cell HL12.out hs' 7 (by omega); have k8' := sys_cell HL12.out hs' 8 (by omega); have k9' := sys_cell HL12.out hs' 9 (by omega); have k10' := sys_cell HL12.out hs' 10 (by omega); have k11' := sys_cell HL12.out hs' 11 (by omega); have k12' := sys_cell HL12.out hs' 12 (by omega)))
        | (go_at_call 70; ((with_reducible refine (E3.out _).mono ?_); rintro e w' ⟨rfl, hb'⟩; have hs' : SysIn w' (w.heap.size + 2) L := SysIn.below (by assumption) hb'; have hB' : Below wr.heap.size wr w' := Below.step (by assumption) hb'; have k0' := sys_cell HL12.out hs' 0 (by omega); have k1' := sys_cell HL12.out hs' 1 (by omega); have k2' := sys_cell HL12.out hs' 2 (by omega); have k3' := sys_cell HL12.out hs' 3 (by omega); have k4' := sys_cell HL12.out hs' 4 (by omega); have k5' := sys_cell HL12.out hs' 5 (by omega); have k6' := sys_cell HL12.out hs' 6 (by omega); have k7' := sys_cell HL12.out hs' 7 (by omega); have k8' := sys_cell HL12.out hs' 8 (by omega); have k9' := sys_cell HL12.out hs' 9 (by omega); have k10' := sys_cell HL12.out hs' 10 (by omega); have k11' := sys_cell HL12.out hs' 11 (by omega); have k12' := sys_cell HL12.out hs' 12 (by omega)))
        | (go_at_call 68; ((with_reducible refine (join_any (w.heap.size + 2) a1 a3 L _ (by assumption) HL12.out (by rw [HLK.out]; exact x1) (by rw [HLK.out]; exact x3)).mono ?_); rintro e w' ⟨rfl, hs', hg'⟩; have hfin : ∃ wp, Below wr.heap.size wr wp ∧ wp.grownBy w' (some (w.heap.size + 2)) := ⟨_, by assumption, hg'⟩)))
      all_goals
        obtain ⟨wp, hA, hG⟩ := hfin
        have HS5 := Lib.hid hs'
        rw [← HNX.out] at HS5
        have HB5 := Lib.hid ((HB.out.below hA).grown hG (by omega))
        have HZ5 := Lib.hid ((HZZ.out.below hA).grown hG (by omega))
        have HE5 := Lib.hid ((HBE.out.trans (hA.mono HBE.out.size)).grown hG (Nat.le_trans HBE.out.size hA.size) (by intro k hk; simp at hk; omega))
        clear hs' hA hG
        go_wp2
        go_roundw
        case rel => exact ⟨k + 1, by omega, by go_num, HS5.out, HB5.out, HZ5.out, HE5.out⟩
        case measure => simp [intOf]; omega
    · obtain rfl : k = q := by omega
      have HLL : Hid ((semiK s k k).length ≤ 12) := by show _ ≤ 12; rw [HL.out]; omega
      go_wp2_with (first
        | (with_reducible refine wp_loadSys rfl (.tmp 3) rfl (w.heap.size + 2) (semiK s k k) HLL.out rfl hm ?_)
        | ((with_reducible refine wp_storeSys rfl (.tmp 2) (.tmp 39) rfl (w.heap.size + 1) (semiK s k k) [] HLL.out (Nat.zero_le _) rfl rfl hz ?_); intro w2 hs2 hg2))
      exact bodyPost_ret (results_semi _ _ (w.heap.size + 1) (semiK s k k) HLL.out hs2 rfl) rfl ⟨rfl, hbel.grown hg2 hbel.size (by intro k hk; simp at hk; omega)⟩

end Go.Proofs.Ytnkkgbecdckigaa
