/- Rainbows: the model's list and the program's struct. -/
import Derived.Test.YtbinpefogecgmaaJoin
import Derived.Test.YtbinpefogecgmaaRead
import Derived.Test.YtbinpefogecgmaaSlice
namespace Go.Proofs.Ytbinpefogecgmaa
open Go.RowKit
set_option linter.unusedSimpArgs false
set_option linter.unusedVariables false

/-- the numbers downward, the first k of them -/
def down (n k : Nat) : List Int := (List.range k).map fun (i : Nat) => 2 * (n : Int) - 1 - (i : Int)
def rainbow (n : Nat) : List Int := down n (2 * n)
theorem down_snoc (n k : Nat) : down n (k + 1) = down n k ++ [2 * (n : Int) - 1 - (k : Int)] := by
  unfold down
  rw [List.range_succ, List.map_append]; rfl

set_option maxHeartbeats 1000000 in
theorem ahRainbow_any (n : Nat) (hn : n ≤ 6) (w : World) : Calls Try.prog 104 #[.int .i64 n] w (Made w (rainbow n)) := by
  go_enter Try.func104, Try.ntmps104
  go_wp2
  go_loopw [3, 4] (fun o i wr => ∃ k : Nat, k ≤ 2 * n ∧ i = .int .i64 (2 * (n : Int) - 1 - (k : Int)) ∧ Own w.heap.size wr o (down n k) ∧ Below w.heap.size w wr) (fun _ i _ => (intOf i + 1).toNat)
  case atStart => exact ⟨0, by omega, by go_num, Own.nil _ _, Below.refl _ _⟩
  case round =>
    obtain ⟨k, hk, rfl, hown, hbel⟩ := hrel
    have hsz := hbel.size
    by_cases hlt : k < 2 * n
    · have hsn := Lib.hid (down_snoc n k)
      have hlen : (down n k).length = k := by simp [down]
      have HL := Lib.hid hlen; clear hlen
      go_wp2_with (at_builtin; refine wp_append _ rfl _ _ rfl w.heap.size _ _ (down n k) [2 * (n : Int) - 1 - (k : Int)] rfl rfl (Own.below hown (Below.alloc1 _ _)) (Own.rd (Own.lit1 _ _ _ (Nat.le_refl _))) (by rw [HL.out]; simp; omega) (by simp; omega) ?_; intro v' w1 hown1 hgr hbel1; rw [← hsn.out] at hown1; have hbel2 := (hbel.alloc hsz _).trans hbel1; clear hown hgr hbel1 hbel)
      go_roundw
      case rel => exact ⟨k + 1, by omega, by go_num, hown1, hbel2⟩
      case measure => simp [intOf]; omega
    · obtain rfl : k = 2 * n := by omega
      go_wp2
      go_ret
      exact ⟨_, rfl, hown, hbel⟩

def rainJ (n : Nat) : Nat → List Int
  | 0 => List.replicate (2 * n) 0
  | k + 1 => ((rainJ n k).set k (2 * (n : Int) - 1 - (k : Int))).set (2 * n - 1 - k) (k : Int)

theorem rainJ_length (n : Nat) : ∀ k, (rainJ n k).length = 2 * n
  | 0 => by simp [rainJ]
  | k + 1 => by simp [rainJ, rainJ_length n k]

theorem rainJ_all (n : Nat) (hn : n ≤ 6) : rainJ n n = rainbow n := by
  have : n = 0 ∨ n = 1 ∨ n = 2 ∨ n = 3 ∨ n = 4 ∨ n = 5 ∨ n = 6 := by omega
  rcases this with rfl | rfl | rfl | rfl | rfl | rfl | rfl <;> rfl

theorem rainbow_len (n : Nat) : (rainbow n).length = 2 * n := by simp [rainbow, down]
theorem rainbow_le (n : Nat) (h : n ≤ 6) : (rainbow n).length ≤ 12 := by rw [rainbow_len]; omega

theorem results_rainbow (tmps : Array Value) (w : World) (g : Nat) (l : List Int) (hl : l.length ≤ 12) (hg : SysIn w g l) (h2 : tmps.getD 2 undef = .pointer (some ⟨g, 0, none⟩)) :
    (results Try.f103 tmps).run Try.prog w = .ok (.agg (sysC l)) w := by
  have h2' : tmps[2]?.getD undef = .pointer (some ⟨g, 0, none⟩) := by simpa using h2
  have hr : Try.f103.results = #[.cell 2 76] := by kernel_rfl
  simp [results, hr, h2', asAddr, run_loadSys w g l hl hg]

/-- a system by value -/
def SysRet (w : World) (l : List Int) (e : Ending) (w' : World) : Prop := e = .returned (.agg (sysC l)) ∧ Below w.heap.size w w'

theorem rain_blank (w : World) (n : Nat) (hn : n ≤ 6) (Z : Array Value) : SysIn ((w.alloc (.cells Z 76)).alloc (.cells #[.int .i64 0, .int .i64 0, .int .i64 0, .int .i64 0, .int .i64 0, .int .i64 0, .int .i64 0, .int .i64 0, .int .i64 0, .int .i64 0, .int .i64 0, .int .i64 0, .int .i64 (2 * (n : Int))] 76)) (w.heap.size + 1) (List.replicate (2 * n) 0) := by
  have := SysIn.blank (w.alloc (.cells Z 76)) (2 * n) (2 * (n : Int)) (by omega) (by omega)
  rw [World.size_alloc] at this
  exact this
theorem rain_zero (w : World) (n : Nat) : SysIn ((w.alloc (.cells #[.int .i64 0, .int .i64 0, .int .i64 0, .int .i64 0, .int .i64 0, .int .i64 0, .int .i64 0, .int .i64 0, .int .i64 0, .int .i64 0, .int .i64 0, .int .i64 0, .int .i64 0] 76)).alloc (.cells #[.int .i64 0, .int .i64 0, .int .i64 0, .int .i64 0, .int .i64 0, .int .i64 0, .int .i64 0, .int .i64 0, .int .i64 0, .int .i64 0, .int .i64 0, .int .i64 0, .int .i64 (2 * (n : Int))] 76)) w.heap.size [] :=
  SysIn.old (show SysIn (w.alloc (.cells (sysC []) 76)) w.heap.size [] from heap_alloc_new w _) (2 * (n : Int))

set_option maxHeartbeats 1000000 in
theorem rainbow_any (n : Nat) (w : World) (hn : n ≤ 6) : Calls Try.prog 103 #[.int .i64 (n : Int)] w (SysRet w (rainbow n)) := by
  have HBL := Lib.hid (rain_blank w n hn #[.int .i64 0, .int .i64 0, .int .i64 0, .int .i64 0, .int .i64 0, .int .i64 0, .int .i64 0, .int .i64 0, .int .i64 0, .int .i64 0, .int .i64 0, .int .i64 0, .int .i64 0])
  have HZ := Lib.hid (rain_zero w n)
  go_enter Try.func103, Try.ntmps103
  go_wp2
  go_loopw [9] (fun i wr => ∃ k : Nat, k ≤ n ∧ i = .int .i64 k ∧ SysIn wr (w.heap.size + 1) (rainJ n k) ∧ SysIn wr w.heap.size [] ∧ Below w.heap.size w wr ∧ w.heap.size + 1 < wr.heap.size) (fun i _ => n - (intOf i).toNat)
  case atStart => exact ⟨0, by omega, rfl, HBL.out, HZ.out, Below.step (Below.alloc1 _ _) (Below.alloc1 _ _), by simp⟩
  case round =>
    obtain ⟨k, hk, rfl, hsys, hz, hbel, hsz1⟩ := hrel
    have hsz := hbel.size
    have hL := Lib.hid (rainJ_length n k)
    have hcs := hsys.size (by rw [hL.out]; omega)
    rw [hL.out] at hcs
    by_cases hlt : k < n
    · have hcs2 : wr.cell? ⟨w.heap.size + 1, 12, none⟩ = some (.int .i64 (2 * (n : Int))) := by rw [hcs]; congr 2
      clear hcs
      have hjoin := Lib.hid (join_int (w.heap.size + 1) k (2 * (n : Int) - 1 - (k : Int)) (rainJ n k) wr hsys (by rw [hL.out]; omega) (by omega) (by rw [hL.out]; omega) (by omega) (by rw [hL.out]; omega))
      go_wp2_with (go_at_call 87; refine hjoin.out.mono ?_; rintro e w' ⟨rfl, hs', hg⟩)
      go_roundw
      case rel =>
        refine ⟨k + 1, by omega, by go_num, ?_, hz.grown hg (by omega), hbel.grown hg hsz (by intro k hk; simp at hk; omega), by have := hg.size; omega⟩
        have e : (2 * (n : Int) - 1 - (k : Int)).toNat = 2 * n - 1 - k := by omega
        rw [e] at hs'
        exact hs'
      case measure => simp [intOf]; omega
    · obtain rfl : k = n := by omega
      clear hcs
      have hfin := Lib.hid (rainJ_all k hn)
      rw [hfin.out] at hsys
      have hl2 := Lib.hid (rainbow_le k hn)
      go_wp2_with (first
        | (with_reducible refine wp_loadSys rfl (.tmp 3) rfl (w.heap.size + 1) (rainbow k) hl2.out rfl hsys ?_)
        | ((with_reducible refine wp_storeSys rfl (.tmp 2) (.tmp 20) rfl w.heap.size (rainbow k) [] hl2.out (Nat.zero_le _) rfl rfl hz ?_); intro w2 hs2 hg2))
      exact bodyPost_ret (results_rainbow _ _ w.heap.size (rainbow k) hl2.out hs2 rfl) rfl ⟨rfl, hbel.grown hg2 hsz (by intro k hk; simp at hk; omega)⟩

end Go.Proofs.Ytbinpefogecgmaa
