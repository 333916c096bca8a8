/- Points moved: shift, reflection, draw. -/
import Derived.Test.YtogjclmmjdhfeabJoin
import Derived.Test.YtogjclmmjdhfeabRead
import Derived.Test.YtogjclmmjdhfeabSlice
namespace Go.Proofs.Ytogjclmmjdhfeab
open Go.RowKit
set_option linter.unusedSimpArgs false
set_option linter.unusedVariables false

def IntOut (w : World) (x : Int) (e : Ending) (w' : World) : Prop := e = .returned (.int .i64 x) ∧ Below w.heap.size w w'

/-- where a shift moves a point -/
def shiftTo (by_ size i : Int) : Int := ((i + by_).tmod size + size).tmod size

theorem shiftTo_in (b n i : Int) (hn : 0 < n) : 0 ≤ shiftTo b n i ∧ shiftTo b n i < n := by
  unfold shiftTo
  have h1 := Int.lt_tmod_of_pos (i + b) hn
  have h3 : 0 ≤ (i + b).tmod n + n := by omega
  rw [Int.tmod_eq_emod_of_nonneg h3]
  exact ⟨Int.emod_nonneg _ (by omega), Int.emod_lt_of_pos _ hn⟩

set_option maxHeartbeats 1000000 in
theorem shift_place (b n i : Int) (w : World) (hb0 : -100 ≤ b) (hb1 : b ≤ 100) (hn0 : 0 < n) (hn1 : n ≤ 12) (hi0 : 0 ≤ i) (hi1 : i ≤ 100) :
    Calls Try.prog 196 #[.agg #[.int .i64 b, .int .i64 n], .int .i64 i] w (IntOut w (shiftTo b n i)) := by
  have e : wrap64 ((i + b).tmod n + n) = (i + b).tmod n + n := by
    have h1 := Int.tmod_lt_of_pos (i + b) hn0
    have h2 := Int.lt_tmod_of_pos (i + b) hn0
    exact IntWalk.wrap64_in _ (by omega)
  have E := Lib.hid e; clear e
  go_enter Try.func196, Try.ntmps196
  go_wp2
  go_quiet (fail)
  go_wp2
  go_ret
  refine ⟨?_, below_drewN (Below.alloc1 _ _) _⟩
  show Ending.returned (.int .i64 ((wrap64 ((i + b).tmod n + n)).tmod n)) = _
  rw [E.out]
  rfl

theorem refl_place (n i : Int) (w : World) (hn0 : 0 < n) (hn1 : n ≤ 12) (hi0 : 0 ≤ i) (hi1 : i ≤ 100) :
    Calls Try.prog 225 #[.agg #[.int .i64 n], .int .i64 i] w (IntOut w (n - 1 - i)) := by
  go_enter Try.func225, Try.ntmps225
  go_wp2
  go_ret
  exact ⟨rfl, Below.alloc1 _ _⟩

theorem drawn_below {w w2 w3 : World} {A : Obj} (C : Below w.heap.size w w2) (hg : (w2.alloc A).grownBy w3 (some w2.heap.size)) : Below w.heap.size w w3 :=
  (C.alloc C.size A).grown hg (by have := C.size; simp; omega) (by intro k hk; simp at hk; have := C.size; omega)

/-- what draw leaves of a list behind k points of the other one -/
def drawL (f : Int → Int) (l o : List Int) : Nat → List Int
  | 0 => l
  | k + 1 => (drawL f l o k).set (f (k : Int)).toNat (f (o.getD k 0))
theorem drawL_length (f : Int → Int) (l o : List Int) : ∀ k, (drawL f l o k).length = l.length
  | 0 => rfl
  | k + 1 => by rw [drawL, List.length_set, drawL_length f l o k]

theorem next_grown {w w0 w1 w2 : World} {b j : Nat} {v : Value} (h : w.grownBy w0 (some b)) (h1 : Below w0.heap.size w0 w1) (h2 : Below w1.heap.size w1 w2) : w.grownBy (w2.setCell ⟨b, j, none⟩ v) (some b) := by
  have h3 := Below.step h1 h2
  refine ⟨h3.os.trans h.os, h3.tape.trans h.tape, h3.output.trans h.output, by have := h3.size; have := h.size; simp; omega, fun k hk hne => ?_⟩
  exact (heap_setCell_other w2 ⟨b, j, none⟩ k v (fun e => hne (by simp [e]))).trans ((h3.block k (Nat.lt_of_lt_of_le hk h.size)).trans (h.block k hk hne))
theorem next_box {w2 : World} {s b j : Nat} {v : Value} {o : List Int} (h : SysIn w2 s o) (hb : b < s) : SysIn (w2.setCell ⟨b, j, none⟩ v) s o :=
  (heap_setCell_other w2 ⟨b, j, none⟩ s v (by simp; omega)).trans h

set_option maxHeartbeats 2000000 in
theorem draw_refl (b : Nat) (f : Int → Int) (g : Value) (l o : List Int) (w : World) (h : SysIn w b l) (hl : l.length ≤ 12) (ho : o.length ≤ 12)
    (hp : 0 < o.length → ∀ (i : Int) (w : World), 0 ≤ i → i < 12 → Calls Try.prog 225 #[g, .int .i64 i] w (IntOut w (f i)))
    (hr : ∀ k, k < o.length → 0 ≤ o.getD k 0 ∧ o.getD k 0 < 12) (hf : ∀ k : Nat, k < o.length → 0 ≤ f (k : Int) ∧ f (k : Int) < l.length) :
    Calls Try.prog 194 #[.pointer (some ⟨b, 0, none⟩), .agg (sysC o), .func (.func 225) #[g] #[]] w (TurnedJ w b (drawL f l o o.length)) := by
  have hbw := h.lt
  have hlast := sysC_last ho
  obtain ⟨n, hn⟩ : ∃ n, n = o.length := ⟨_, rfl⟩
  rw [← hn] at hlast ho hr hf hp ⊢
  have hbox : SysIn (w.alloc (.cells (sysC o) 100)) w.heap.size o := heap_alloc_new w _
  have h1 : SysIn (w.alloc (.cells (sysC o) 100)) b l := h.below (Below.alloc1 _ _)
  have hg1 : w.grownBy (w.alloc (.cells (sysC o) 100)) (some b) := World.grownBy_alloc w _ _
  have HN := Lib.hid hn; have HR := Lib.hid hr; have HF := Lib.hid hf; have HBX := Lib.hid hbox; have H1 := Lib.hid h1; have HG1 := Lib.hid hg1; have HL := Lib.hid hl; have HP := Lib.hid hp; have HB := Lib.hid hbw
  have hal := fun b w => run_mates b n w ho
  clear hn hr hf hbox h1 hg1 h hl hp hbw
  go_enter Try.func194, Try.ntmps194
  go_wp2
  clear hal
  go_loopw [13] (fun i wr => ∃ k : Nat, k ≤ n ∧ i = .int .i64 k ∧ SysIn wr b (drawL f l o k) ∧ SysIn wr w.heap.size o ∧ w.grownBy wr (some b)) (fun i _ => n - (intOf i).toNat)
  case atStart => exact ⟨0, by omega, rfl, H1.out, HBX.out, HG1.out⟩
  case round =>
    obtain ⟨k, hk, rfl, hsys, hbx, hgr⟩ := hrel
    by_cases hlt : k < n
    · have hc := hbx.cell (by rw [← HN.out]; exact ho) k (by omega)
      have hx := HR.out k hlt
      have hf1 := HF.out k hlt
      have hLL := Lib.hid (drawL_length f l o k)
      have hp1 := fun w => HP.out (by omega) (k : Int) w (by omega) (by omega)
      have hp2 := fun w => HP.out (by omega) (o.getD k 0) w hx.1 hx.2
      have hnext : drawL f l o (k + 1) = (drawL f l o k).set (f (k : Int)).toNat (f (o.getD k 0)) := rfl
      generalize f (o.getD k 0) = y at hp2 hnext
      generalize o.getD k 0 = x at hc hx hp2
      obtain ⟨j, hj⟩ := Int.eq_ofNat_of_zero_le hf1.1
      rw [hj] at hp1 hnext hf1
      rw [Int.toNat_natCast] at hnext
      have hj12 : j < 12 := by have := HL.out; omega
      have HJ : Hid (j < (drawL f l o k).length) := by show j < _; rw [hLL.out]; omega
      have HP1 := Lib.hid hp1; have HP2 := Lib.hid hp2; have HNX := Lib.hid hnext
      clear hp1 hp2 hnext hj hf1
      have HBX := Lib.hid hbx; have HGR := Lib.hid hgr; clear hbx hgr
      go_wp2
      generalize wr = wr0 at *
      go_region_with (first
        | (go_at_call 225; ((with_reducible refine (HP1.out _).mono ?_); rintro e w' ⟨rfl, hb'⟩; have hs' : SysIn w' b (drawL f l o k) := SysIn.below (by assumption) hb'; have c' := hs'.cell (by rw [hLL.out]; exact HL.out) j hj12; have f' := hs'.free j))
        | (go_at_call 225; ((with_reducible refine (HP2.out _).mono ?_); rintro e w' ⟨rfl, hb'⟩; have hs' : SysIn w' b (drawL f l o k) := SysIn.below (by assumption) hb'; have c' := hs'.cell (by rw [hLL.out]; exact HL.out) j hj12; have f' := hs'.free j)))
      obtain ⟨wm, hb0, hb2⟩ : ∃ wm, Below wr0.drew.heap.size wr0.drew wm ∧ Below wm.heap.size wm w' := ⟨_, (by assumption), hb'⟩
      have hb1 : Below wr0.heap.size wr0 wm := ((Below.refl _ wr0).drew).trans hb0
      have HG2 := Lib.hid (next_grown HGR.out hb1 hb2 (j := j) (v := .int .i64 y))
      have HX2 := Lib.hid (next_box (SysIn.below HBX.out (Below.step hb1 hb2)) HB.out (j := j) (v := .int .i64 y))
      have HS2 := Lib.hid (hs'.stored j y HJ.out)
      rw [← HNX.out] at HS2
      go_wp2
      go_roundw
      case rel => exact ⟨k + 1, by omega, by go_num, HS2.out, HX2.out, HG2.out⟩
      case measure => simp [intOf]; omega
    · obtain rfl : k = n := by omega
      go_wp2
      go_end0
      exact ⟨rfl, hsys, hgr⟩

set_option maxHeartbeats 2000000 in
theorem draw_shift (b : Nat) (f : Int → Int) (g : Value) (l o : List Int) (w : World) (h : SysIn w b l) (hl : l.length ≤ 12) (ho : o.length ≤ 12)
    (hp : 0 < o.length → ∀ (i : Int) (w : World), 0 ≤ i → i < 12 → Calls Try.prog 196 #[g, .int .i64 i] w (IntOut w (f i)))
    (hr : ∀ k, k < o.length → 0 ≤ o.getD k 0 ∧ o.getD k 0 < 12) (hf : ∀ k : Nat, k < o.length → 0 ≤ f (k : Int) ∧ f (k : Int) < l.length) :
    Calls Try.prog 194 #[.pointer (some ⟨b, 0, none⟩), .agg (sysC o), .func (.func 196) #[g] #[]] w (TurnedJ w b (drawL f l o o.length)) := by
  have hbw := h.lt
  have hlast := sysC_last ho
  obtain ⟨n, hn⟩ : ∃ n, n = o.length := ⟨_, rfl⟩
  rw [← hn] at hlast ho hr hf hp ⊢
  have hbox : SysIn (w.alloc (.cells (sysC o) 100)) w.heap.size o := heap_alloc_new w _
  have h1 : SysIn (w.alloc (.cells (sysC o) 100)) b l := h.below (Below.alloc1 _ _)
  have hg1 : w.grownBy (w.alloc (.cells (sysC o) 100)) (some b) := World.grownBy_alloc w _ _
  have HN := Lib.hid hn; have HR := Lib.hid hr; have HF := Lib.hid hf; have HBX := Lib.hid hbox; have H1 := Lib.hid h1; have HG1 := Lib.hid hg1; have HL := Lib.hid hl; have HP := Lib.hid hp; have HB := Lib.hid hbw
  have hal := fun b w => run_mates b n w ho
  clear hn hr hf hbox h1 hg1 h hl hp hbw
  go_enter Try.func194, Try.ntmps194
  go_wp2
  clear hal
  go_loopw [13] (fun i wr => ∃ k : Nat, k ≤ n ∧ i = .int .i64 k ∧ SysIn wr b (drawL f l o k) ∧ SysIn wr w.heap.size o ∧ w.grownBy wr (some b)) (fun i _ => n - (intOf i).toNat)
  case atStart => exact ⟨0, by omega, rfl, H1.out, HBX.out, HG1.out⟩
  case round =>
    obtain ⟨k, hk, rfl, hsys, hbx, hgr⟩ := hrel
    by_cases hlt : k < n
    · have hc := hbx.cell (by rw [← HN.out]; exact ho) k (by omega)
      have hx := HR.out k hlt
      have hf1 := HF.out k hlt
      have hLL := Lib.hid (drawL_length f l o k)
      have hp1 := fun w => HP.out (by omega) (k : Int) w (by omega) (by omega)
      have hp2 := fun w => HP.out (by omega) (o.getD k 0) w hx.1 hx.2
      have hnext : drawL f l o (k + 1) = (drawL f l o k).set (f (k : Int)).toNat (f (o.getD k 0)) := rfl
      generalize f (o.getD k 0) = y at hp2 hnext
      generalize o.getD k 0 = x at hc hx hp2
      obtain ⟨j, hj⟩ := Int.eq_ofNat_of_zero_le hf1.1
      rw [hj] at hp1 hnext hf1
      rw [Int.toNat_natCast] at hnext
      have hj12 : j < 12 := by have := HL.out; omega
      have HJ : Hid (j < (drawL f l o k).length) := by show j < _; rw [hLL.out]; omega
      have HP1 := Lib.hid hp1; have HP2 := Lib.hid hp2; have HNX := Lib.hid hnext
      clear hp1 hp2 hnext hj hf1
      have HBX := Lib.hid hbx; have HGR := Lib.hid hgr; clear hbx hgr
      go_wp2
      generalize wr = wr0 at *
      go_region_with (first
        | (go_at_call 196; ((with_reducible refine (HP1.out _).mono ?_); rintro e w' ⟨rfl, hb'⟩; have hs' : SysIn w' b (drawL f l o k) := SysIn.below (by assumption) hb'; have c' := hs'.cell (by rw [hLL.out]; exact HL.out) j hj12; have f' := hs'.free j))
        | (go_at_call 196; ((with_reducible refine (HP2.out _).mono ?_); rintro e w' ⟨rfl, hb'⟩; have hs' : SysIn w' b (drawL f l o k) := SysIn.below (by assumption) hb'; have c' := hs'.cell (by rw [hLL.out]; exact HL.out) j hj12; have f' := hs'.free j)))
      obtain ⟨wm, hb0, hb2⟩ : ∃ wm, Below wr0.drew.heap.size wr0.drew wm ∧ Below wm.heap.size wm w' := ⟨_, (by assumption), hb'⟩
      have hb1 : Below wr0.heap.size wr0 wm := ((Below.refl _ wr0).drew).trans hb0
      have HG2 := Lib.hid (next_grown HGR.out hb1 hb2 (j := j) (v := .int .i64 y))
      have HX2 := Lib.hid (next_box (SysIn.below HBX.out (Below.step hb1 hb2)) HB.out (j := j) (v := .int .i64 y))
      have HS2 := Lib.hid (hs'.stored j y HJ.out)
      rw [← HNX.out] at HS2
      go_wp2
      go_roundw
      case rel => exact ⟨k + 1, by omega, by go_num, HS2.out, HX2.out, HG2.out⟩
      case measure => simp [intOf]; omega
    · obtain rfl : k = n := by omega
      go_wp2
      go_end0
      exact ⟨rfl, hsys, hgr⟩


end Go.Proofs.Ytogjclmmjdhfeab
