/- DropArch. -/
import Derived.Test.YtbinpefogecgmaaPoints
import Derived.Test.YtbinpefogecgmaaPut
import Derived.Test.YtbinpefogecgmaaEnum
namespace Go.Proofs.Ytbinpefogecgmaa
open Go.RowKit
set_option linter.unusedSimpArgs false
set_option linter.unusedVariables false

def narrowTo (i j x : Int) : Int := if i < (if j < x then x - 1 else x) then (if j < x then x - 1 else x) - 1 else (if j < x then x - 1 else x)

set_option maxHeartbeats 1000000 in
theorem narrow_place (i j x : Int) (w : World) (hx0 : -100 ≤ x) (hx1 : x ≤ 100) :
    Calls Try.prog 107 #[.agg #[.int .i64 i, .int .i64 j], .int .i64 x] w (IntOut w (narrowTo i j x)) := by
  unfold narrowTo
  by_cases h1 : j < x
  · simp only [if_pos h1]
    by_cases h2 : i < x - 1
    · simp only [if_pos h2]
      go_enter Try.func107, Try.ntmps107
      go_wp2
      go_ret
      exact ⟨rfl, Below.alloc1 _ _⟩
    · simp only [if_neg h2]
      go_enter Try.func107, Try.ntmps107
      go_wp2
      go_ret
      exact ⟨rfl, Below.alloc1 _ _⟩
  · simp only [if_neg h1]
    by_cases h2 : i < x
    · simp only [if_pos h2]
      go_enter Try.func107, Try.ntmps107
      go_wp2
      go_ret
      exact ⟨rfl, Below.alloc1 _ _⟩
    · simp only [if_neg h2]
      go_enter Try.func107, Try.ntmps107
      go_wp2
      go_ret
      exact ⟨rfl, Below.alloc1 _ _⟩

/-- where the point k of the system without the arch i, j leads -/
def dropF (l : List Int) (i j : Nat) (k : Nat) : Int := narrowTo (i : Int) (j : Int) (l.getD (widenTo (i : Int) (j : Int) (k : Int)).toNat 0)
def dropM (l : List Int) (i j : Nat) : Nat → List Int
  | 0 => List.replicate (l.length - 2) 0
  | k + 1 => (dropM l i j k).set k (dropF l i j k)
theorem dropM_length (l : List Int) (i j : Nat) : ∀ k, (dropM l i j k).length = l.length - 2
  | 0 => by simp [dropM]
  | k + 1 => by rw [dropM, List.length_set, dropM_length l i j k]
/-- the model's way -/
def withoutV (i j x : Int) : Int := x - ((if i < x then 1 else 0) + (if j < x then 1 else 0))
def withoutL (l : List Int) (i j : Nat) : Nat → List Int
  | 0 => []
  | k + 1 => if k = i ∨ k = j then withoutL l i j k else withoutL l i j k ++ [withoutV (i : Int) (j : Int) (l.getD k 0)]
theorem withoutL_len (l : List Int) (i j : Nat) : ∀ k, (withoutL l i j k).length ≤ k
  | 0 => Nat.le_refl _
  | k + 1 => by have := withoutL_len l i j k; unfold withoutL; split <;> simp <;> omega
def dropCheck (l : List Int) : Bool := (List.range l.length).all fun i => !decide (i < par l i) || (withoutL l i (par l i) l.length == dropM l i (par l i) (l.length - 2))
theorem dropCheck0 : (sysAll 0).all dropCheck = true := by kernel_rfl
theorem dropCheck1 : (sysAll 1).all dropCheck = true := by kernel_rfl
theorem dropCheck2 : (sysAll 2).all dropCheck = true := by kernel_rfl
theorem dropCheck3 : (sysAll 3).all dropCheck = true := by kernel_rfl
theorem dropCheck4 : (sysAll 4).all dropCheck = true := by kernel_rfl
theorem dropCheck5 : (sysAll 5).all dropCheck = true := by kernel_rfl
theorem dropCheck6 : (sysAll 6).all dropCheck = true := by kernel_rfl
theorem drop_eq {l : List Int} (hg : goodB l = true) {i : Nat} (hi : i < l.length) (hb : i < par l i) : withoutL l i (par l i) l.length = dropM l i (par l i) (l.length - 2) := by
  have h := List.all_eq_true.1 (good_all6 dropCheck0 dropCheck1 dropCheck2 dropCheck3 dropCheck4 dropCheck5 dropCheck6 hg) i (List.mem_range.2 hi)
  simp [hb] at h
  exact h

def ok_DropArch (l : List Int) (i : Int) : Bool := goodB l && decide (0 ≤ i ∧ i < (l.length : Int)) && beginsB l i
def res_DropArch (l : List Int) (i : Int) : List Int := if ok_DropArch l i then dropM l i.toNat (par l i.toNat) (l.length - 2) else []
theorem len_DropArch (l : List Int) (i : Int) : (res_DropArch l i).length ≤ 1000000 := by
  unfold res_DropArch
  split
  · next h => simp [ok_DropArch] at h; have := good_len' h.1.1; rw [dropM_length]; omega
  · simp

/-- the ends of an arch, in a variable -/
def GapIn (w : World) (b : Nat) (i j : Nat) : Prop := w.heap[b]? = some (.cells #[.int .i64 (i : Int), .int .i64 (j : Int)] 98 (0, 0))
theorem GapIn.below {w w' : World} {b i j : Nat} (h : GapIn w b i j) (hb : Below w.heap.size w w') : GapIn w' b i j := (hb.block b (Array.getElem?_eq_some_iff.1 h).1).trans h
theorem GapIn.cells {w : World} {b i j : Nat} (h : GapIn w b i j) : w.cell? ⟨b, 0, none⟩ = some (.int .i64 (i : Int)) ∧ w.cell? ⟨b, 1, none⟩ = some (.int .i64 (j : Int)) := by
  constructor <;> rw [cell_of_row w b _ _ _ _ h] <;> rfl
theorem GapIn.grown {w w' : World} {b g i j : Nat} (h : GapIn w b i j) (hg : w.grownBy w' (some g)) (hne : b ≠ g) : GapIn w' b i j :=
  (hg.block b (Array.getElem?_eq_some_iff.1 h).1 (by simp; exact hne)).trans h

set_option maxHeartbeats 4000000 in
theorem implDrop_run (l : List Int) (i : Nat) (w : World) (u : Value) (h : Rd w u l) (hg : goodB l = true) (hi : i < l.length) (hbg : i < par l i) :
    Calls Try.prog 47 #[u, .int .i64 (i : Int)] w (Gives w (dropM l i (par l i) (l.length - 2)) true) := by
  have hl := good_len' hg
  have hfx := (good_facts hg).2.2.1
  have hpi := par_int (hfx i hi).1
  have hpn := (hfx i hi).2.1
  obtain ⟨j, hj⟩ : ∃ j, j = par l i := ⟨_, rfl⟩
  rw [← hj] at hpi hbg ⊢
  have hbeg := fun w => begins_any l (i : Int) w hl (by omega) (by omega)
  have hbt : beginsB l (i : Int) = true := by unfold beginsB; rw [Int.toNat_natCast]; exact decide_eq_true (by omega)
  rw [hbt] at hbeg
  have HL : Hid (l.length ≤ 12) := hl
  have HG := Lib.hid hg
  have HFX := Lib.hid hfx
  have HBG := Lib.hid hbeg
  obtain ⟨n, hn⟩ : ∃ n, n = l.length := ⟨_, rfl⟩
  have hjn : j < n := by omega
  have HN := Lib.hid hn
  have HPI : Hid (l.getD i 0 = (j : Int)) := hpi.symm
  rw [← hn] at hi hl
  have HD := Lib.hid (dropM_length l i j)
  rw [← hn] at HD
  have HDl : Hid ((dropM l i j (n - 2)).length ≤ 12) := by show (dropM l i j (n - 2)).length ≤ 12; rw [HD.out]; omega
  rw [show l.length - 2 = n - 2 by rw [hn]]
  have H0 : Hid (dropM l i j 0 = List.replicate (n - 2) 0) := by show dropM l i j 0 = _; rw [hn]; rfl
  clear hn hg hfx hbeg hbt hpi hpn hj
  have hn2 : 2 ≤ n := by omega
  have hd1 : decide ((i : Int) < 0) = false := by simp
  have hd2 : decide (n ≤ i) = false := by simp; omega
  go_enter Try.func47, Try.ntmps47
  go_wp2_with fail
  refine (readSystem_yes u l _ h HG.out).mono ?_
  rintro e w1 ⟨rfl, hb⟩
  go_wp2_with (first
    | ((with_reducible refine wp_storeNew rfl (.tmp 6) (.tmp 14) rfl _ l HL.out rfl rfl ?_); intro w2 hs2 hb2; have hcs := hs2.size HL.out; rw [← HN.out] at hcs)
    | (with_reducible refine wp_loadSysG (.tmp 6) rfl w1.heap.size l HL.out rfl hs2 (by first | with_unfolding_all rfl | (simp only [hd1, hd2, Bool.or_false]; with_unfolding_all rfl)) ?_)
    | (go_at_call 89; refine (HBG.out _).mono ?_; rintro e w3 ⟨rfl, hb3⟩; have hs3 := SysIn.below hs2 hb3; have c3 := hs3.cell HL.out i (by omega); rw [HPI.out] at c3; have hs4 := SysIn.below hs3 (Below.alloc1 w3 (.cells #[.int .i64 (i : Int), .int .i64 (j : Int)] 98)); have c4n := hs4.size HL.out; rw [← HN.out] at c4n; have hbl := SysIn.blank (w3.alloc (.cells #[.int .i64 (i : Int), .int .i64 (j : Int)] 98)) (n - 2) ((n : Int) - 2) (by omega) (by omega)))
  have hbox := SysIn.below hs4 (Below.alloc1 _ (.cells #[.int .i64 0, .int .i64 0, .int .i64 0, .int .i64 0, .int .i64 0, .int .i64 0, .int .i64 0, .int .i64 0, .int .i64 0, .int .i64 0, .int .i64 0, .int .i64 0, .int .i64 ((n : Int) - 2)] 76))
  have hgap0 : GapIn (w3.alloc (.cells #[.int .i64 (i : Int), .int .i64 (j : Int)] 98)) w3.heap.size i j := heap_alloc_new w3 _
  have hgap := GapIn.below hgap0 (Below.alloc1 _ (.cells #[.int .i64 0, .int .i64 0, .int .i64 0, .int .i64 0, .int .i64 0, .int .i64 0, .int .i64 0, .int .i64 0, .int .i64 0, .int .i64 0, .int .i64 0, .int .i64 0, .int .i64 ((n : Int) - 2)] 76))
  have C3 := Below.step (Below.step hb hb2) hb3
  have C5 := Below.step (Below.step C3 (Below.alloc1 w3 (.cells #[.int .i64 (i : Int), .int .i64 (j : Int)] 98))) (Below.alloc1 _ (.cells #[.int .i64 0, .int .i64 0, .int .i64 0, .int .i64 0, .int .i64 0, .int .i64 0, .int .i64 0, .int .i64 0, .int .i64 0, .int .i64 0, .int .i64 0, .int .i64 0, .int .i64 ((n : Int) - 2)] 76))
  have hbl' : SysIn ((w3.alloc (.cells #[.int .i64 (i : Int), .int .i64 (j : Int)] 98)).alloc (.cells #[.int .i64 0, .int .i64 0, .int .i64 0, .int .i64 0, .int .i64 0, .int .i64 0, .int .i64 0, .int .i64 0, .int .i64 0, .int .i64 0, .int .i64 0, .int .i64 0, .int .i64 ((n : Int) - 2)] 76)) (w3.heap.size + 1) (dropM l i j 0) := by
    rw [H0.out]; rw [World.size_alloc] at hbl; exact hbl
  have h13 := hs3.lt
  have hC3 := C3.size
  generalize (w3.alloc (.cells #[.int .i64 (i : Int), .int .i64 (j : Int)] 98)).alloc (.cells #[.int .i64 0, .int .i64 0, .int .i64 0, .int .i64 0, .int .i64 0, .int .i64 0, .int .i64 0, .int .i64 0, .int .i64 0, .int .i64 0, .int .i64 0, .int .i64 0, .int .i64 ((n : Int) - 2)] 76) = w5 at hbox hgap C5 hbl' ⊢
  clear hbl c4n hs4 hgap0 hs3 c3 C3 hb3 hs2 hcs hb hb2
  go_loopw [46] (fun q wr => ∃ k : Nat, k ≤ n - 2 ∧ q = .int .i64 k ∧ SysIn wr (w3.heap.size + 1) (dropM l i j k) ∧ SysIn wr w1.heap.size l ∧ GapIn wr w3.heap.size i j ∧ Below w.heap.size w wr) (fun q _ => n - (intOf q).toNat)
  case atStart => exact ⟨0, by omega, rfl, hbl', hbox, hgap, C5⟩
  case round =>
    obtain ⟨k, hk, rfl, hsys, hbx, hgp, hbr⟩ := hrel
    clear hbl' hbox hgap C5
    by_cases hlt : k < n - 2
    · have hlt2 : (k : Int) < (n : Int) - 2 := by omega
      have hw := widen_in (n := n - 2) hbg (by omega) k hlt
      have hnext : dropM l i j (k + 1) = (dropM l i j k).set k (narrowTo (i : Int) (j : Int) (l.getD (widenTo (i : Int) (j : Int) (k : Int)).toNat 0)) := rfl
      have hp1 := fun w => widen_place (i : Int) (j : Int) (k : Int) w (by omega) (by omega)
      obtain ⟨p, hp⟩ := Int.eq_ofNat_of_zero_le hw.1
      rw [hp] at hw hnext hp1
      rw [Int.toNat_natCast] at hnext
      have hpn : p < 12 := by omega
      have hx := HFX.out p (by have := HN.out; omega)
      have hp2 := fun w => narrow_place (i : Int) (j : Int) (l.getD p 0) w (by omega) (by have := HN.out; omega)
      have hcx := hbx.cell HL.out p hpn
      have hLL : Hid ((dropM l i j k).length ≤ 12) := by show (dropM l i j k).length ≤ 12; rw [HD.out]; omega
      have HJ : Hid (k < (dropM l i j k).length) := by show k < (dropM l i j k).length; rw [HD.out]; exact hlt
      obtain ⟨x, hxe⟩ : ∃ x, x = l.getD p 0 := ⟨_, rfl⟩
      rw [← hxe] at hnext hp2 hcx hx
      have HXE := Lib.hid hxe
      generalize narrowTo (i : Int) (j : Int) x = y at hnext hp2
      have hk12 : k < 12 := by omega
      have hci := hsys.cell hLL.out k hk12
      have hfi := hsys.free k
      obtain ⟨hg1, hg2⟩ := hgp.cells
      have HP1 := Lib.hid hp1; have HP2 := Lib.hid hp2; have HNX := Lib.hid hnext
      have HS0 := Lib.hid hsys; have HB0 := Lib.hid hbx; have HG0 := Lib.hid hgp; have HBR := Lib.hid hbr
      clear hp1 hp2 hnext hp hw hx hxe hbr
      go_wp2
      generalize wr = wr0 at *
      go_region_with (first
        | (go_at_call 108; ((with_reducible refine (HP1.out _).mono ?_); rintro e w' ⟨rfl, hb'⟩; have hs' : SysIn w' (w3.heap.size + 1) (dropM l i j k) := SysIn.below (by assumption) hb'; have hx' : SysIn w' w1.heap.size l := SysIn.below (by assumption) hb'; have hq' : GapIn w' w3.heap.size i j := GapIn.below (by assumption) hb'; have g1' := hq'.cells.1; have g2' := hq'.cells.2; have c' := hs'.cell hLL.out k hk12; have f' := hs'.free k; have y' := hx'.cell HL.out p hpn; rw [← HXE.out] at y'))
        | (go_at_call 107; ((with_reducible refine (HP2.out _).mono ?_); rintro e w' ⟨rfl, hb'⟩; have hs' : SysIn w' (w3.heap.size + 1) (dropM l i j k) := SysIn.below (by assumption) hb'; have c' := hs'.cell hLL.out k hk12; have f' := hs'.free k)))
      all_goals
        obtain ⟨wm, hb0, hb2⟩ : ∃ wm, Below wr0.drew.heap.size wr0.drew wm ∧ Below wm.heap.size wm w' := ⟨_, (by assumption), hb'⟩
        have hb1 : Below wr0.heap.size wr0 wm := ((Below.refl _ wr0).drew).trans hb0
        have hb3 := Below.step hb1 hb2
        have HS2 := Lib.hid (hs'.stored k y HJ.out)
        have HX2 := Lib.hid (SysIn.grown (SysIn.below HB0.out hb3) (grown_setCell (b := w3.heap.size + 1) (i := k) (v := .int .i64 y)) (by omega))
        have HG2 := Lib.hid (GapIn.grown (GapIn.below HG0.out hb3) (grown_setCell (b := w3.heap.size + 1) (i := k) (v := .int .i64 y)) (by omega))
        have HB2 := Lib.hid ((Below.step HBR.out hb3).setCell (p := ⟨w3.heap.size + 1, k, none⟩) (show w.heap.size ≤ w3.heap.size + 1 by omega) (.int .i64 y))
        rw [← HNX.out] at HS2
        go_wp2
        go_roundw
        case rel => exact ⟨k + 1, by omega, by go_num, HS2.out, HX2.out, HG2.out, HB2.out⟩
        case measure => simp [intOf]; omega
    · obtain rfl : k = n - 2 := by omega
      have hlt2 : ¬ (((n - 2 : Nat) : Int) < (n : Int) - 2) := by omega
      go_wp2_with (first
        | (with_reducible refine wp_loadSys rfl (.tmp 9) rfl (w3.heap.size + 1) (dropM l i j (n - 2)) HDl.out rfl hsys ?_)
        | (go_at_call 80; refine (list_any _ _ HDl.out).mono ?_; rintro e w6 ⟨v, rfl, hown, hb6⟩))
      go_ret2
      exact ⟨_, rfl, hown.mono hbr.size, Below.step hbr hb6⟩

end Go.Proofs.Ytbinpefogecgmaa
