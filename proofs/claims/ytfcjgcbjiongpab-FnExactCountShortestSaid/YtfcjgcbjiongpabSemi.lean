/- Semi-meanders: isSemi, spSemi, IsSemi. -/
import Derived.Test.YtfcjgcbjiongpabRain
import Derived.Test.YtfcjgcbjiongpabComps
import Derived.Test.YtfcjgcbjiongpabJoin
import Derived.BigRegion
import Derived.IntWalk
namespace Go.Proofs.Ytfcjgcbjiongpab
open Go.RowKit
set_option linter.unusedSimpArgs false
set_option linter.unusedVariables false

def semiB (l : List Int) : Bool := decide (compsL l (rainbow (l.length / 2)) = 1)
theorem rainbow_good (n : Nat) (h : n ≤ 6) : goodB (rainbow n) = true := by
  have : n = 0 ∨ n = 1 ∨ n = 2 ∨ n = 3 ∨ n = 4 ∨ n = 5 ∨ n = 6 := by omega
  rcases this with rfl | rfl | rfl | rfl | rfl | rfl | rfl <;> decide +kernel
theorem half_len {l : List Int} (h : goodB l = true) : l.length = (rainbow (l.length / 2)).length := by
  rw [rainbow_len]; have := (good_facts h).1; omega

def LitOut (w : World) (l : List Int) (e : Ending) (w' : World) : Prop := e = .returned (.agg #[sysV l 0, sysV l 1, sysV l 2, sysV l 3, sysV l 4, sysV l 5, sysV l 6, sysV l 7, sysV l 8, sysV l 9, sysV l 10, sysV l 11, sysV l 12]) ∧ Below w.heap.size w w'
set_option maxHeartbeats 2000000 in
set_option maxRecDepth 100000 in
theorem isSemi_any (l : List Int) (w : World) (hg : goodB l = true) :
    Calls Try.prog 79 #[.agg (sysC l)] w (Tells w (semiB l)) := by
  have hl := good_len' hg
  have hev := (good_facts hg).1
  have hlast := sysC_last hl
  have hm6 : l.length / 2 ≤ 6 := by omega
  have hrl := rainbow_le _ hm6
  have hM := fun w => isMeander_any l (rainbow (l.length / 2)) hg (rainbow_good _ hm6) (half_len hg) w
  have hR : ∀ w, Calls Try.prog 90 #[.int .i64 ((l.length / 2 : Nat) : Int)] w (LitOut w (rainbow (l.length / 2))) := by
    intro w
    refine (rainbow_any _ w hm6).mono ?_
    rintro e w' ⟨rfl, hb⟩
    exact ⟨by rw [sysC_lit hrl], hb⟩
  unfold pairC at hM
  unfold semiB
  generalize decide (compsL l (rainbow (l.length / 2)) = 1) = D at *
  generalize rainbow (l.length / 2) = R at *
  have hbx : SysIn (w.alloc (.cells (sysC l) 53)) w.heap.size l := heap_alloc_new w _
  obtain ⟨n, hn⟩ : ∃ n, n = l.length := ⟨_, rfl⟩
  have hs12 : sysV l 12 = .int .i64 (n : Int) := by rw [hn]; rfl
  rw [hs12] at hM
  rw [← hn] at hl hev hR
  have HL : Hid (l.length ≤ 12) := by rw [← hn]; exact hl
  have HM := Lib.hid hM; have HR := Lib.hid hR; have HBX := Lib.hid hbx; have HS12 := Lib.hid hs12
  have HD : Hid ((n : Int) / 2 = ((n / 2 : Nat) : Int)) := by show _ = _; omega
  have s2 : (n : Int) / 2 ≤ 6 := by omega
  have s3 : 0 ≤ (n : Int) / 2 := by omega
  have s4 : IntKind.i64.wrap ((n : Int) / 2) = (n : Int) / 2 := IntWalk.i64_in _ (by omega)
  have HC0 := Lib.hid (next_cells (w0 := w) hs12 HL.out hbx (Below.alloc1 _ _))
  clear hM hR hbx hs12 hn hg hlast hm6 hrl
  go_enter Try.func79, Try.ntmps79
  go_wp2_with fail
  go_region_held3 (fun w' => Hid (SysIn w' w.heap.size l ∧ Below w.heap.size w w') ∧ w'.cell? ⟨w.heap.size, 0, none⟩ = some (sysV l 0) ∧ w'.cell? ⟨w.heap.size, 1, none⟩ = some (sysV l 1) ∧ w'.cell? ⟨w.heap.size, 2, none⟩ = some (sysV l 2) ∧ w'.cell? ⟨w.heap.size, 3, none⟩ = some (sysV l 3) ∧ w'.cell? ⟨w.heap.size, 4, none⟩ = some (sysV l 4) ∧ w'.cell? ⟨w.heap.size, 5, none⟩ = some (sysV l 5) ∧ w'.cell? ⟨w.heap.size, 6, none⟩ = some (sysV l 6) ∧ w'.cell? ⟨w.heap.size, 7, none⟩ = some (sysV l 7) ∧ w'.cell? ⟨w.heap.size, 8, none⟩ = some (sysV l 8) ∧ w'.cell? ⟨w.heap.size, 9, none⟩ = some (sysV l 9) ∧ w'.cell? ⟨w.heap.size, 10, none⟩ = some (sysV l 10) ∧ w'.cell? ⟨w.heap.size, 11, none⟩ = some (sysV l 11) ∧ w'.cell? ⟨w.heap.size, 12, none⟩ = some (.int .i64 (n : Int)))
    (first | assumption | exact next_cells HS12.out HL.out (show SysIn (World.drew _) _ _ from HBX.out) (Below.drew (Below.alloc1 _ _)) | exact next_keep HS12.out HL.out (by assumption) (by assumption))
    (first
      | (go_at_call 90; (try rw [HD.out]); ((with_reducible refine (HR.out _).mono ?_); rintro e' w' ⟨rfl, hb'⟩))
      | (go_at_call 91; ((with_reducible refine (HM.out _).mono ?_); rintro e' w' ⟨rfl, hb'⟩)))
  have hB : Below w.heap.size w w' := next_out (b := w.heap.size) (n := n) (l := l) (by assumption)
  have HBB := Lib.hid hB; clear hB
  go_wp2
  go_ret
  exact ⟨rfl, HBB.out⟩

end Go.Proofs.Ytfcjgcbjiongpab
