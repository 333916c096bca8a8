/- The program's moved, turned, reversed, renumbered. -/
import Derived.Test.YtnkkgbecdckigaaStkRead
import Derived.Test.YtnkkgbecdckigaaDraw
namespace Go.Proofs.Ytnkkgbecdckigaa
open Go.RowKit
set_option linter.unusedSimpArgs false
set_option linter.unusedVariables false

theorem stkL_set {l : List Int} (i : Nat) (x : Int) (hi : i < l.length) : stkL (l.set i x) = (stkL l).set i (.int .i64 x) := by
  unfold stkL ints
  rw [List.length_set, List.set_append_left _ _ (by simp; omega)]
  congr 1
  rw [List.map_append, List.map_append, List.set_append_left _ _ (by simpa using hi), List.map_set]
theorem StkIn.stored {w : World} {b : Nat} {l : List Int} (h : StkIn w b l) (i : Nat) (x : Int) (hi : i < l.length) : StkIn (w.setCell ⟨b, i, none⟩ (.int .i64 x)) b (l.set i x) := by
  have := heap_setCell_same w b i _ _ (.int .i64 x) h
  unfold StkIn
  rw [this]
  unfold stkC
  rw [stkL_set i x hi]
  simp
theorem StkIn.other {w : World} {b g i : Nat} {v : Value} {l : List Int} (h : StkIn w b l) (hne : b ≠ g) : StkIn (w.setCell ⟨g, i, none⟩ v) b l :=
  (heap_setCell_other w ⟨g, i, none⟩ b v (fun e => hne (by simpa using e))).trans h
theorem StkIn.blank (w : World) (n : Nat) (hn : n ≤ 8) : StkIn (w.alloc (.cells #[.int .i64 0, .int .i64 0, .int .i64 0, .int .i64 0, .int .i64 0, .int .i64 0, .int .i64 0, .int .i64 0, .int .i64 (n : Int)] 42)) w.heap.size (List.replicate n 0) := by
  have e : stkC (List.replicate n 0) = #[.int .i64 0, .int .i64 0, .int .i64 0, .int .i64 0, .int .i64 0, .int .i64 0, .int .i64 0, .int .i64 0, .int .i64 (n : Int)] := by
    unfold stkC stkL ints
    rw [List.length_replicate, List.replicate_append_replicate, show n + (8 - n) = 8 by omega]
    rfl
  have := heap_alloc_new w (.cells (stkC (List.replicate n 0)) 42)
  rw [e] at this
  unfold StkIn
  rw [e]
  exact this
theorem StkIn.zero (w : World) : StkIn (w.alloc (.cells #[.int .i64 0, .int .i64 0, .int .i64 0, .int .i64 0, .int .i64 0, .int .i64 0, .int .i64 0, .int .i64 0, .int .i64 0] 42)) w.heap.size [] := heap_alloc_new w (.cells (stkC []) 42)

/-- a stack by value -/
def StkRet (w : World) (l : List Int) (e : Ending) (w' : World) : Prop := e = .returned (.agg (stkC l)) ∧ Below w.heap.size w w'

/-- what moved leaves behind k places -/
def movedL (f : Int → Int) (l : List Int) : Nat → List Int
  | 0 => List.replicate l.length 0
  | k + 1 => (movedL f l k).set (f (k : Int)).toNat (l.getD k 0)
theorem movedL_length (f : Int → Int) (l : List Int) : ∀ k, (movedL f l k).length = l.length
  | 0 => by simp [movedL]
  | k + 1 => by rw [movedL, List.length_set, movedL_length f l k]

theorem results_moved (tmps : Array Value) (w : World) (g : Nat) (l : List Int) (hl : l.length ≤ 8) (hg : StkIn w g l) (h4 : tmps.getD 4 undef = .pointer (some ⟨g, 0, none⟩)) :
    (results Try.f76 tmps).run Try.prog w = .ok (.agg (stkC l)) w := by
  have h4' : tmps[4]?.getD undef = .pointer (some ⟨g, 0, none⟩) := by simpa using h4
  have hr : Try.f76.results = #[.cell 4 42] := by kernel_rfl
  simp [results, hr, h4', asAddr, run_loadStk w g l hl hg]

theorem moved_blank (w : World) (A B : Obj) (n : Nat) (hn : n ≤ 8) : StkIn (((w.alloc A).alloc B).alloc (.cells #[.int .i64 0, .int .i64 0, .int .i64 0, .int .i64 0, .int .i64 0, .int .i64 0, .int .i64 0, .int .i64 0, .int .i64 (n : Int)] 42)) (w.heap.size + 2) (List.replicate n 0) := by
  have := StkIn.blank ((w.alloc A).alloc B) n hn
  simp only [World.size_alloc] at this
  exact this
theorem moved_zero (w : World) (A B : Obj) : StkIn (((w.alloc A).alloc (.cells #[.int .i64 0, .int .i64 0, .int .i64 0, .int .i64 0, .int .i64 0, .int .i64 0, .int .i64 0, .int .i64 0, .int .i64 0] 42)).alloc B) (w.heap.size + 1) [] := by
  have := StkIn.below (StkIn.zero (w.alloc A)) (Below.alloc1 _ B)
  rw [World.size_alloc] at this
  exact this
theorem moved_box (w : World) (l : List Int) (B C : Obj) : StkIn (((w.alloc (.cells (stkC l) 42)).alloc B).alloc C) w.heap.size l :=
  StkIn.below (StkIn.below (show StkIn (w.alloc (.cells (stkC l) 42)) w.heap.size l from heap_alloc_new w _) (Below.alloc1 _ B)) (Below.alloc1 _ C)

set_option maxHeartbeats 2000000 in
theorem moved_shift (f : Int → Int) (g : Value) (l : List Int) (w : World) (h8 : l.length ≤ 8)
    (hp : ∀ (i : Int) (w : World), 0 ≤ i → i < l.length → Calls Try.prog 77 #[g, .int .i64 i] w (IntOut w (f i)))
    (hf : ∀ k : Nat, k < l.length → 0 ≤ f (k : Int) ∧ f (k : Int) < l.length) :
    Calls Try.prog 76 #[.agg (stkC l), .func (.func 77) #[g] #[]] w (StkRet w (movedL f l l.length)) := by
  have hlast := stkC_last h8
  have hml := movedL_length f l
  obtain ⟨n, hn⟩ : ∃ n, n = l.length := ⟨_, rfl⟩
  rw [← hn] at hlast h8 hf hp hml ⊢
  have hb0 : List.replicate n (0 : Int) = movedL f l 0 := by rw [hn]; rfl
  have hbl := moved_blank w (.cells (stkC l) 42) (.cells #[.int .i64 0, .int .i64 0, .int .i64 0, .int .i64 0, .int .i64 0, .int .i64 0, .int .i64 0, .int .i64 0, .int .i64 0] 42) n h8
  rw [hb0] at hbl
  have HBL := Lib.hid hbl
  have HZ := Lib.hid (moved_zero w (.cells (stkC l) 42) (.cells #[.int .i64 0, .int .i64 0, .int .i64 0, .int .i64 0, .int .i64 0, .int .i64 0, .int .i64 0, .int .i64 0, .int .i64 (n : Int)] 42))
  have HBX := Lib.hid (moved_box w l (.cells #[.int .i64 0, .int .i64 0, .int .i64 0, .int .i64 0, .int .i64 0, .int .i64 0, .int .i64 0, .int .i64 0, .int .i64 0] 42) (.cells #[.int .i64 0, .int .i64 0, .int .i64 0, .int .i64 0, .int .i64 0, .int .i64 0, .int .i64 0, .int .i64 0, .int .i64 (n : Int)] 42))
  have HN := Lib.hid hn; have HF := Lib.hid hf; have HP := Lib.hid hp; have HML := Lib.hid hml
  have hal := fun b w => run_stamps b n w h8
  clear hn hf hp hml hb0 hbl
  go_enter Try.func76, Try.ntmps76
  go_wp2
  clear hal
  go_loopw [16] (fun i wr => ∃ k : Nat, k ≤ n ∧ i = .int .i64 k ∧ StkIn wr (w.heap.size + 2) (movedL f l k) ∧ StkIn wr w.heap.size l ∧ StkIn wr (w.heap.size + 1) [] ∧ Below w.heap.size w wr) (fun i _ => n - (intOf i).toNat)
  case atStart => exact ⟨0, by omega, rfl, HBL.out, HBX.out, HZ.out, ((Below.alloc1 _ _).alloc (by simp) _).alloc (by simp; omega) _⟩
  case round =>
    obtain ⟨k, hk, rfl, hm, hbx, hz, hbel⟩ := hrel
    by_cases hlt : k < n
    · have hc := hbx.cell (by rw [← HN.out]; exact h8) k (by omega)
      have hf1 := HF.out k hlt
      have hp1 := fun w => HP.out (k : Int) w (by omega) (by omega)
      have hnext : movedL f l (k + 1) = (movedL f l k).set (f (k : Int)).toNat (l.getD k 0) := rfl
      generalize l.getD k 0 = x at hc hnext
      obtain ⟨j, hj⟩ := Int.eq_ofNat_of_zero_le hf1.1
      rw [hj] at hp1 hnext hf1
      rw [Int.toNat_natCast] at hnext
      have hj8 : j < 8 := by omega
      have HJ : Hid (j < (movedL f l k).length) := by show j < _; rw [HML.out]; omega
      have HJ8 : Hid ((movedL f l k).length ≤ 8) := by show _ ≤ 8; rw [HML.out]; omega
      have HP1 := Lib.hid hp1; have HNX := Lib.hid hnext
      have HM := Lib.hid hm; have HB := Lib.hid hbx; have HZZ := Lib.hid hz; have HBE := Lib.hid hbel
      clear hp1 hnext hj hf1 hm hbx hz hbel
      go_wp2_with (go_at_call 77; ((with_reducible refine (HP1.out _).mono ?_); rintro e w1 ⟨rfl, hb1⟩; have HB1 := Lib.hid hb1; have c1 := (HM.out.below hb1).cell HJ8.out j hj8; have f1 := (HM.out.below hb1).free j; clear hb1))
      go_roundw
      case rel =>
        refine ⟨k + 1, by omega, by go_num, ?_, (HB.out.below HB1.out).other (by omega), (HZZ.out.below HB1.out).other (by omega), ?_⟩
        · rw [HNX.out]; exact (HM.out.below HB1.out).stored j x HJ.out
        · have := HBE.out.size
          exact ((HBE.out.trans (HB1.out.mono this))).setCell (by show w.heap.size ≤ w.heap.size + 2; omega) _
      case measure => simp [intOf]; omega
    · obtain rfl : k = n := by omega
      have HJ8 : Hid ((movedL f l k).length ≤ 8) := by show _ ≤ 8; rw [HML.out]; omega
      have hzlt := hz.lt
      go_wp2_with (first
        | (with_reducible refine wp_loadStk rfl (.tmp 5) rfl (w.heap.size + 2) (movedL f l k) HJ8.out rfl hm ?_)
        | ((with_reducible refine wp_storeStk rfl (.tmp 4) (.tmp 28) rfl (w.heap.size + 1) (movedL f l k) [] HJ8.out (Nat.zero_le _) rfl rfl hz ?_); intro w2 hs2 hg2))
      exact bodyPost_ret (results_moved _ _ (w.heap.size + 1) (movedL f l k) HJ8.out hs2 rfl) rfl ⟨rfl, hbel.grown hg2 hbel.size (by intro k hk; simp at hk; omega)⟩

set_option maxHeartbeats 2000000 in
theorem moved_refl (f : Int → Int) (g : Value) (l : List Int) (w : World) (h8 : l.length ≤ 8)
    (hp : ∀ (i : Int) (w : World), 0 ≤ i → i < l.length → Calls Try.prog 81 #[g, .int .i64 i] w (IntOut w (f i)))
    (hf : ∀ k : Nat, k < l.length → 0 ≤ f (k : Int) ∧ f (k : Int) < l.length) :
    Calls Try.prog 76 #[.agg (stkC l), .func (.func 81) #[g] #[]] w (StkRet w (movedL f l l.length)) := by
  have hlast := stkC_last h8
  have hml := movedL_length f l
  obtain ⟨n, hn⟩ : ∃ n, n = l.length := ⟨_, rfl⟩
  rw [← hn] at hlast h8 hf hp hml ⊢
  have hb0 : List.replicate n (0 : Int) = movedL f l 0 := by rw [hn]; rfl
  have hbl := moved_blank w (.cells (stkC l) 42) (.cells #[.int .i64 0, .int .i64 0, .int .i64 0, .int .i64 0, .int .i64 0, .int .i64 0, .int .i64 0, .int .i64 0, .int .i64 0] 42) n h8
  rw [hb0] at hbl
  have HBL := Lib.hid hbl
  have HZ := Lib.hid (moved_zero w (.cells (stkC l) 42) (.cells #[.int .i64 0, .int .i64 0, .int .i64 0, .int .i64 0, .int .i64 0, .int .i64 0, .int .i64 0, .int .i64 0, .int .i64 (n : Int)] 42))
  have HBX := Lib.hid (moved_box w l (.cells #[.int .i64 0, .int .i64 0, .int .i64 0, .int .i64 0, .int .i64 0, .int .i64 0, .int .i64 0, .int .i64 0, .int .i64 0] 42) (.cells #[.int .i64 0, .int .i64 0, .int .i64 0, .int .i64 0, .int .i64 0, .int .i64 0, .int .i64 0, .int .i64 0, .int .i64 (n : Int)] 42))
  have HN := Lib.hid hn; have HF := Lib.hid hf; have HP := Lib.hid hp; have HML := Lib.hid hml
  have hal := fun b w => run_stamps b n w h8
  clear hn hf hp hml hb0 hbl
  go_enter Try.func76, Try.ntmps76
  go_wp2
  clear hal
  go_loopw [16] (fun i wr => ∃ k : Nat, k ≤ n ∧ i = .int .i64 k ∧ StkIn wr (w.heap.size + 2) (movedL f l k) ∧ StkIn wr w.heap.size l ∧ StkIn wr (w.heap.size + 1) [] ∧ Below w.heap.size w wr) (fun i _ => n - (intOf i).toNat)
  case atStart => exact ⟨0, by omega, rfl, HBL.out, HBX.out, HZ.out, ((Below.alloc1 _ _).alloc (by simp) _).alloc (by simp; omega) _⟩
  case round =>
    obtain ⟨k, hk, rfl, hm, hbx, hz, hbel⟩ := hrel
    by_cases hlt : k < n
    · have hc := hbx.cell (by rw [← HN.out]; exact h8) k (by omega)
      have hf1 := HF.out k hlt
      have hp1 := fun w => HP.out (k : Int) w (by omega) (by omega)
      have hnext : movedL f l (k + 1) = (movedL f l k).set (f (k : Int)).toNat (l.getD k 0) := rfl
      generalize l.getD k 0 = x at hc hnext
      obtain ⟨j, hj⟩ := Int.eq_ofNat_of_zero_le hf1.1
      rw [hj] at hp1 hnext hf1
      rw [Int.toNat_natCast] at hnext
      have hj8 : j < 8 := by omega
      have HJ : Hid (j < (movedL f l k).length) := by show j < _; rw [HML.out]; omega
      have HJ8 : Hid ((movedL f l k).length ≤ 8) := by show _ ≤ 8; rw [HML.out]; omega
      have HP1 := Lib.hid hp1; have HNX := Lib.hid hnext
      have HM := Lib.hid hm; have HB := Lib.hid hbx; have HZZ := Lib.hid hz; have HBE := Lib.hid hbel
      clear hp1 hnext hj hf1 hm hbx hz hbel
      go_wp2_with (go_at_call 81; ((with_reducible refine (HP1.out _).mono ?_); rintro e w1 ⟨rfl, hb1⟩; have HB1 := Lib.hid hb1; have c1 := (HM.out.below hb1).cell HJ8.out j hj8; have f1 := (HM.out.below hb1).free j; clear hb1))
      go_roundw
      case rel =>
        refine ⟨k + 1, by omega, by go_num, ?_, (HB.out.below HB1.out).other (by omega), (HZZ.out.below HB1.out).other (by omega), ?_⟩
        · rw [HNX.out]; exact (HM.out.below HB1.out).stored j x HJ.out
        · have := HBE.out.size
          exact ((HBE.out.trans (HB1.out.mono this))).setCell (by show w.heap.size ≤ w.heap.size + 2; omega) _
      case measure => simp [intOf]; omega
    · obtain rfl : k = n := by omega
      have HJ8 : Hid ((movedL f l k).length ≤ 8) := by show _ ≤ 8; rw [HML.out]; omega
      have hzlt := hz.lt
      go_wp2_with (first
        | (with_reducible refine wp_loadStk rfl (.tmp 5) rfl (w.heap.size + 2) (movedL f l k) HJ8.out rfl hm ?_)
        | ((with_reducible refine wp_storeStk rfl (.tmp 4) (.tmp 28) rfl (w.heap.size + 1) (movedL f l k) [] HJ8.out (Nat.zero_le _) rfl rfl hz ?_); intro w2 hs2 hg2))
      exact bodyPost_ret (results_moved _ _ (w.heap.size + 1) (movedL f l k) HJ8.out hs2 rfl) rfl ⟨rfl, hbel.grown hg2 hbel.size (by intro k hk; simp at hk; omega)⟩

end Go.Proofs.Ytnkkgbecdckigaa
