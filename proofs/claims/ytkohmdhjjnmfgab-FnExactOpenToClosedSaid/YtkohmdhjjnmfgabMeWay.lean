/- The model's way round a curve. -/
import Derived.Test.YtkohmdhjjnmfgabWay
import Derived.Test.YtkohmdhjjnmfgabMeander
import Derived.Test.YtkohmdhjjnmfgabOwn
import Derived.Deep.LoopGhost
import Derived.Deep.QuietTactic
import Derived.BigQuiet
namespace Go.Proofs.Ytkohmdhjjnmfgab
open Go.RowKit
set_option linter.unusedSimpArgs false
set_option linter.unusedVariables false

/-- a row of numbers that a world holds, and every world over it -/
theorem cells_stay {w : World} {b1 o1 n : Nat} {T : Nat → Nat} (hc : ∀ k, k < n → w.cell? ⟨b1, o1 + k, none⟩ = some (.int .i64 ((T k : Nat) : Int))) :
    ∀ w', Below w.heap.size w w' → ∀ k, k < n → w'.cell? ⟨b1, o1 + k, none⟩ = some (.int .i64 ((T k : Nat) : Int)) :=
  fun w' hb k hk => (hb.cell (p := ⟨b1, o1 + k, none⟩) (World.block_lt_of_cell? w _ (hc k hk))).trans (hc k hk)

set_option maxHeartbeats 2000000 in
theorem meWay_core (T B : Nat → Nat) (n i b1 o1 c1 b2 o2 c2 : Nat) (pt : PairedN T n) (pb : PairedN B n) (hn : n ≤ 12) (hi : i < n) (hl1 : n ≤ c1) (hm1 : c1 ≤ maxLen) (hl2 : n ≤ c2) (hm2 : c2 ≤ maxLen) (w : World)
    (hc1 : ∀ k, k < n → w.cell? ⟨b1, o1 + k, none⟩ = some (.int .i64 ((T k : Nat) : Int))) (hc2 : ∀ k, k < n → w.cell? ⟨b2, o2 + k, none⟩ = some (.int .i64 ((B k : Nat) : Int))) :
    Calls Try.prog 38 #[.agg #[.slice (some ⟨b1, o1, none⟩) n c1, .slice (some ⟨b2, o2, none⟩) n c2], .int .i64 (i : Int)] w (Made w (wayV T B n i)) := by
  unfold maxLen at hm1 hm2
  have hT := cells_stay hc1
  have hB := cells_stay hc2
  have hA := Box2.new 28 w (.slice (some ⟨b1, o1, none⟩) n c1) (.slice (some ⟨b2, o2, none⟩) n c2)
  have B1 := Below.alloc1 w (.cells #[.slice (some ⟨b1, o1, none⟩) n c1, .slice (some ⟨b2, o2, none⟩) n c2] 28)
  have q1 := (pt i hi).1
  have q2 := (pb (T i) q1).1
  have hst := wayAt_start pt pb hi
  have e1 := hT _ B1 i hi
  have B2 := Below.step B1 (Below.alloc1 _ (.cells #[.int .i64 (i : Int), .int .i64 ((T i : Nat) : Int)] 3))
  have hA2 := Box2.below hA (Below.alloc1 _ (.cells #[.int .i64 (i : Int), .int .i64 ((T i : Nat) : Int)] 3))
  have hO2 := Own.lit2 (w.heap.size + 1) (w.alloc (.cells #[.slice (some ⟨b1, o1, none⟩) n c1, .slice (some ⟨b2, o2, none⟩) n c2] 28)) (i : Int) ((T i : Nat) : Int) (by simp)
  rw [World.size_alloc] at hO2
  have e2 := hT _ B2 i hi
  have e3 := hB _ B2 (T i) q1
  have f0 := hA2.c0; have f1 := hA2.c1
  have k0 := hA.c0; have k1 := hA.c1
  have HPT := Lib.hid pt; have HPB := Lib.hid pb; have HT := Lib.hid hT; have HB := Lib.hid hB; have HO2 := Lib.hid hO2; have HA2 := Lib.hid hA2; have HB2 := Lib.hid B2; have HST := Lib.hid hst
  clear hT hB hO2 hA2 B2 hst hA B1 hc1 hc2 pt pb
  generalize T i = y at *
  generalize B y = z at *
  go_enter Try.func38, Try.ntmps38
  go_wp2_with fail
  clear e1 k0 k1
  generalize ((w.alloc (.cells #[.slice (some ⟨b1, o1, none⟩) n c1, .slice (some ⟨b2, o2, none⟩) n c2] 28)).alloc (.cells #[.int .i64 (i : Int), .int .i64 (y : Int)] 3)) = W2 at *
  go_quiet (fail)
  go_wp2_with fail
  clear e2 e3 f0 f1
  go_loopg [5, 6] (n - 1) (fun g s5 s6 wr => ∃ (x : Nat) (done : List Nat), s6 = .int .i64 (x : Int) ∧ x < n ∧ Own (w.heap.size + 1) wr s5 (done.map fun (k : Nat) => (k : Int)) ∧ Below w.heap.size w wr ∧ Box2 28 wr w.heap.size (.slice (some ⟨b1, o1, none⟩) n c1) (.slice (some ⟨b2, o2, none⟩) n c2) ∧ Hid (WayAt T B n i g x done))
  case atStart => exact ⟨z, [i, y], rfl, q2, Own.below HO2.out (below_drewN (Below.refl _ _) _), Below.drewN HB2.out _, Box2.below HA2.out (below_drewN (Below.refl _ _) _), HST⟩
  case round =>
    obtain ⟨x, done, rfl, hx, how, hbe, hbx, HW⟩ := hrel
    clear HST HA2 HB2 HO2
    generalize wr = wa at *
    by_cases e : x = i
    · subst e
      have hne : ((x : Int) != (x : Int)) = false := by simp
      have hd := wayAt_end HW.out
      obtain ⟨a5, n5, c5, rfl⟩ := how.form'
      have HD := Lib.hid hd; have HOW := Lib.hid how; clear hd how
      go_wp2
      go_ret
      exact ⟨_, rfl, by unfold wayV; rw [← HD.out]; exact HOW.out.mono (Nat.le_succ _), hbe⟩
    · obtain ⟨g', hg', hN⟩ := wayAt_next HW.out e
      have hlen := wayAt_len HW.out
      have hne : ((x : Int) != (i : Int)) = true := by simp; omega
      have p1 := (HPT.out x hx).1
      have p2 := (HPB.out (T x) p1).1
      have e1 := HT.out wa hbe x hx
      have hsz := hbe.size
      have k0 := hbx.c0; have k1 := hbx.c1
      have hE := HB.out
      have hTT := HT.out
      have HE := Lib.hid hE; have HTT := Lib.hid hTT
      clear hE hTT
      have HLEN : Hid ((done.map fun (k : Nat) => (k : Int)).length ≤ 24) := by show _ ≤ 24; rw [List.length_map]; omega
      have HN := Lib.hid hN; have HOW := Lib.hid how; have HBE := Lib.hid hbe; have HBX := Lib.hid hbx; have HG := Lib.hid hg'
      have E1 := Lib.hid (fun w' hb => HT.out w' hb x hx); have E2 := Lib.hid (fun w' hb => HB.out w' hb (T x) p1)
      clear hN how hbe hbx hg' hlen e
      generalize T x = y at *
      generalize B y = z at *
      go_wp2_with (at_builtin; refine wp_append _ rfl _ _ rfl (w.heap.size + 1) _ _ (done.map fun (k : Nat) => (k : Int)) [(x : Int), (y : Int)] rfl rfl (Own.below HOW.out (Below.alloc1 _ _)) (Own.rd (Own.lit2 _ _ _ _ (Nat.le_refl _))) (by have := HLEN.out; simp only [List.length_cons, List.length_nil]; omega) (by have := HBX.out.lt; simp; omega) ?_; intro v' w2 hown2 hgr hbel2; have hb3 := (HBE.out.alloc HBE.out.size (.cells #[.int .i64 (x : Int), .int .i64 (y : Int)] 3)).trans (hbel2.mono (Nat.le_succ _)); clear hbel2; have hbx2 := Box2.grown (Box2.below HBX.out (Below.alloc1 wa (.cells #[.int .i64 (x : Int), .int .i64 (y : Int)] 3))) hgr (fun e => by have := (HOW.out.lt _ e.symm).1; omega); have f0 := hbx2.c0; have f1 := hbx2.c1; have e2 := E1.out _ hb3; have e3 := E2.out _ hb3; have HO := Lib.hid hown2; have HB3 := Lib.hid hb3; have HX2 := Lib.hid hbx2; clear hgr hown2 hb3 hbx2)
      clear e1 k0 k1
      go_quiet (fail)
      go_wp2_with fail
      go_roundg g'
      case measure => have := HG.out; omega
      case rel => exact ⟨z, done ++ [x, y], rfl, p2, by rw [List.map_append]; exact Own.below HO.out (below_drewN (Below.refl _ _) _), Below.drewN HB3.out _, Box2.below HX2.out (below_drewN (Below.refl _ _) _), HN⟩

end Go.Proofs.Ytkohmdhjjnmfgab
