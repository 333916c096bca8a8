/- The folding of a semi-meander in the program. -/
import Derived.Test.YtnkkgbecdckigaaSemi2
import Derived.Test.YtnkkgbecdckigaaMoved
namespace Go.Proofs.Ytnkkgbecdckigaa
open Go.RowKit
set_option linter.unusedSimpArgs false
set_option linter.unusedVariables false

theorem below_next {w w1 w2 : World} {B : Nat} (h : Below B w w1) (hb : Below w1.heap.size w1 w2) (hB : B ≤ w1.heap.size) : Below B w w2 := h.trans (hb.mono hB)
def NatRet (w : World) (x : Nat) (e : Ending) (w' : World) : Prop := e = .returned (.int .i64 (x : Int)) ∧ Below w.heap.size w w'

set_option maxHeartbeats 1000000 in
theorem otherSide_any (l : List Int) (x : Nat) (w : World) (h12 : l.length ≤ 12) (hx : x < l.length) :
    Calls Try.prog 70 #[.agg (sysC l), .int .i64 (x : Int)] w (NatRet w (l.length - 1 - x)) := by
  have hlast := sysC_last h12
  obtain ⟨n, hn⟩ : ∃ n, n = l.length := ⟨_, rfl⟩
  rw [← hn] at hlast h12 hx ⊢
  have hp := fun w => refl_place (n : Int) (x : Int) w (by omega) (by omega) (by omega) (by omega)
  have e : (n : Int) - 1 - (x : Int) = ((n - 1 - x : Nat) : Int) := by omega
  rw [e] at hp
  have HP := Lib.hid hp
  clear hp e hn
  go_enter Try.func70, Try.ntmps70
  go_wp2_with (go_at_call 81; ((with_reducible refine (HP.out _).mono ?_); rintro e w1 ⟨rfl, hb1⟩))
  go_ret
  exact ⟨rfl, Below.step (Below.alloc1 _ _) hb1⟩

theorem ret_nat {x y : Int} (h : x = y) : Ending.returned (.int .i64 x) = .returned (.int .i64 y) := by rw [h]
/-- the crossing of a point, of q of them -/
def crN (q x : Nat) : Nat := max x (2 * q - 1 - x) - q


/-- the point at which a crossing is left -/
def exN (q c : Nat) : Nat := if c % 2 = 0 then q + c else q - 1 - c

set_option maxHeartbeats 1000000 in
theorem exit_any (l : List Int) (q c : Nat) (w : World) (hq : l.length = 2 * q) (h6 : q ≤ 6) (hc : c < q) :
    Calls Try.prog 69 #[.agg (sysC l), .int .i64 (c : Int)] w (NatRet w (exN q c)) := by
  have hl : l.length ≤ 12 := by omega
  have hlast := sysC_last hl
  have hO := fun w => otherSide_any l (q + c) w hl (by omega)
  have hbx : SysIn (w.alloc (.cells (sysC l) 62)) w.heap.size l := heap_alloc_new w _
  have HL : Hid (l.length ≤ 12) := hl
  obtain ⟨n, hn⟩ : ∃ n, n = l.length := ⟨_, rfl⟩
  rw [← hn] at hlast hO hq
  have hd : (n : Int) / 2 = (q : Int) := by omega
  have hn12 : n ≤ 12 := by omega
  have e1 : n - 1 - (q + c) = q - 1 - c := by omega
  rw [e1] at hO
  have e2 : ((q + c : Nat) : Int) = (q : Int) + (c : Int) := by omega
  rw [e2] at hO
  have HO := Lib.hid hO; have HBX := Lib.hid hbx
  clear hO hbx hn hl e1 e2 hq
  by_cases hp : c % 2 = 0
  · have h1 : ((c : Int) % 2 == 0) = true := by simp; omega
    have HE : Hid (exN q c = q + c) := if_pos hp
    clear hp
    go_enter Try.func69, Try.ntmps69
    go_wp2
    go_ret
    exact ⟨ret_nat (by rw [HE.out]; omega), Below.alloc1 _ _⟩
  · have h1 : ((c : Int) % 2 == 0) = false := by simp; omega
    have HE : Hid (exN q c = q - 1 - c) := if_neg hp
    clear hp
    go_enter Try.func69, Try.ntmps69
    go_wp2_with (first
      | (with_reducible refine wp_loadSys rfl (.tmp 2) rfl w.heap.size l HL.out rfl HBX.out ?_)
      | (go_at_call 70; ((with_reducible refine (HO.out _).mono ?_); rintro e w1 ⟨rfl, hb1⟩)))
    go_ret
    exact ⟨ret_nat (by rw [HE.out]), Below.step (Below.alloc1 _ _) hb1⟩

/-- where the curve is behind k crossings -/
def atN (l : List Int) (q : Nat) : Nat → Nat
  | 0 => q
  | k + 1 => 2 * q - 1 - par l (atN l q k)
def foldS (l : List Int) : List Int := (List.range (l.length / 2)).map fun k => ((crN (l.length / 2) (atN l (l.length / 2) k) : Nat) : Int)
theorem foldS_length (l : List Int) : (foldS l).length = l.length / 2 := by simp [foldS]
theorem foldS_get (l : List Int) (k : Nat) (h : k < l.length / 2) : (foldS l).getD k 0 = ((crN (l.length / 2) (atN l (l.length / 2) k) : Nat) : Int) := by simp [foldS, List.getD, h]
theorem atN_lt {l : List Int} (hg : goodB l = true) (h0 : l.length ≠ 0) : ∀ k, atN l (l.length / 2) k < l.length
  | 0 => by have := (good_facts hg).1; show l.length / 2 < _; omega
  | k + 1 => by have := (good_facts hg).1; show 2 * (l.length / 2) - 1 - _ < _; omega

theorem fold_cells {w0 w : World} {b n x m : Nat} {l : List Int} (hn : sysV l 12 = .int .i64 (n : Int)) (hl : l.length ≤ 12) (hx : x < 12) (hm : (m : Int) = l.getD x 0) (h : SysIn w b l) (hb : Below w0.heap.size w0 w) :
    Hid (SysIn w b l ∧ Below w0.heap.size w0 w) ∧ w.cell? ⟨b, 0, none⟩ = some (sysV l 0) ∧ w.cell? ⟨b, 1, none⟩ = some (sysV l 1) ∧ w.cell? ⟨b, 2, none⟩ = some (sysV l 2) ∧ w.cell? ⟨b, 3, none⟩ = some (sysV l 3) ∧ w.cell? ⟨b, 4, none⟩ = some (sysV l 4) ∧ w.cell? ⟨b, 5, none⟩ = some (sysV l 5) ∧ w.cell? ⟨b, 6, none⟩ = some (sysV l 6) ∧ w.cell? ⟨b, 7, none⟩ = some (sysV l 7) ∧ w.cell? ⟨b, 8, none⟩ = some (sysV l 8) ∧ w.cell? ⟨b, 9, none⟩ = some (sysV l 9) ∧ w.cell? ⟨b, 10, none⟩ = some (sysV l 10) ∧ w.cell? ⟨b, 11, none⟩ = some (sysV l 11) ∧ w.cell? ⟨b, 12, none⟩ = some (.int .i64 (n : Int)) ∧ w.cell? ⟨b, x, none⟩ = some (.int .i64 (m : Int)) := by
  have h1 := next_cells hn hl h hb
  have h2 := h.cell hl x hx
  rw [← hm] at h2
  exact ⟨h1.1, h1.2.1, h1.2.2.1, h1.2.2.2.1, h1.2.2.2.2.1, h1.2.2.2.2.2.1, h1.2.2.2.2.2.2.1, h1.2.2.2.2.2.2.2.1, h1.2.2.2.2.2.2.2.2.1, h1.2.2.2.2.2.2.2.2.2.1, h1.2.2.2.2.2.2.2.2.2.2.1, h1.2.2.2.2.2.2.2.2.2.2.2.1, h1.2.2.2.2.2.2.2.2.2.2.2.2.1, h1.2.2.2.2.2.2.2.2.2.2.2.2.2, h2⟩
theorem fold_out {w0 w : World} {b n x m : Nat} {l : List Int} (h : Hid (SysIn w b l ∧ Below w0.heap.size w0 w) ∧ w.cell? ⟨b, 0, none⟩ = some (sysV l 0) ∧ w.cell? ⟨b, 1, none⟩ = some (sysV l 1) ∧ w.cell? ⟨b, 2, none⟩ = some (sysV l 2) ∧ w.cell? ⟨b, 3, none⟩ = some (sysV l 3) ∧ w.cell? ⟨b, 4, none⟩ = some (sysV l 4) ∧ w.cell? ⟨b, 5, none⟩ = some (sysV l 5) ∧ w.cell? ⟨b, 6, none⟩ = some (sysV l 6) ∧ w.cell? ⟨b, 7, none⟩ = some (sysV l 7) ∧ w.cell? ⟨b, 8, none⟩ = some (sysV l 8) ∧ w.cell? ⟨b, 9, none⟩ = some (sysV l 9) ∧ w.cell? ⟨b, 10, none⟩ = some (sysV l 10) ∧ w.cell? ⟨b, 11, none⟩ = some (sysV l 11) ∧ w.cell? ⟨b, 12, none⟩ = some (.int .i64 (n : Int)) ∧ w.cell? ⟨b, x, none⟩ = some (.int .i64 (m : Int))) : Below w0.heap.size w0 w := h.1.out.2
theorem fold_keep {w0 w w2 : World} {b n x m : Nat} {l : List Int} (hn : sysV l 12 = .int .i64 (n : Int)) (hl : l.length ≤ 12) (hx : x < 12) (hm : (m : Int) = l.getD x 0) (h : Hid (SysIn w b l ∧ Below w0.heap.size w0 w) ∧ w.cell? ⟨b, 0, none⟩ = some (sysV l 0) ∧ w.cell? ⟨b, 1, none⟩ = some (sysV l 1) ∧ w.cell? ⟨b, 2, none⟩ = some (sysV l 2) ∧ w.cell? ⟨b, 3, none⟩ = some (sysV l 3) ∧ w.cell? ⟨b, 4, none⟩ = some (sysV l 4) ∧ w.cell? ⟨b, 5, none⟩ = some (sysV l 5) ∧ w.cell? ⟨b, 6, none⟩ = some (sysV l 6) ∧ w.cell? ⟨b, 7, none⟩ = some (sysV l 7) ∧ w.cell? ⟨b, 8, none⟩ = some (sysV l 8) ∧ w.cell? ⟨b, 9, none⟩ = some (sysV l 9) ∧ w.cell? ⟨b, 10, none⟩ = some (sysV l 10) ∧ w.cell? ⟨b, 11, none⟩ = some (sysV l 11) ∧ w.cell? ⟨b, 12, none⟩ = some (.int .i64 (n : Int)) ∧ w.cell? ⟨b, x, none⟩ = some (.int .i64 (m : Int))) (hb : Below w.heap.size w w2) :
    Hid (SysIn w2 b l ∧ Below w0.heap.size w0 w2) ∧ w2.cell? ⟨b, 0, none⟩ = some (sysV l 0) ∧ w2.cell? ⟨b, 1, none⟩ = some (sysV l 1) ∧ w2.cell? ⟨b, 2, none⟩ = some (sysV l 2) ∧ w2.cell? ⟨b, 3, none⟩ = some (sysV l 3) ∧ w2.cell? ⟨b, 4, none⟩ = some (sysV l 4) ∧ w2.cell? ⟨b, 5, none⟩ = some (sysV l 5) ∧ w2.cell? ⟨b, 6, none⟩ = some (sysV l 6) ∧ w2.cell? ⟨b, 7, none⟩ = some (sysV l 7) ∧ w2.cell? ⟨b, 8, none⟩ = some (sysV l 8) ∧ w2.cell? ⟨b, 9, none⟩ = some (sysV l 9) ∧ w2.cell? ⟨b, 10, none⟩ = some (sysV l 10) ∧ w2.cell? ⟨b, 11, none⟩ = some (sysV l 11) ∧ w2.cell? ⟨b, 12, none⟩ = some (.int .i64 (n : Int)) ∧ w2.cell? ⟨b, x, none⟩ = some (.int .i64 (m : Int)) := fold_cells hn hl hx hm (h.1.out.1.below hb) (Below.step h.1.out.2 hb)


end Go.Proofs.Ytnkkgbecdckigaa
