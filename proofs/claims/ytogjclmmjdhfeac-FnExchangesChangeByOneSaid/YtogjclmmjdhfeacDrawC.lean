/- The cursor from which inputs are drawn. -/
/- The laws' first test, and bytes that came in. -/
/- Systems drawn. -/
/- What is drawn for the laws on systems. -/
/- A text with edits, drawn. -/
/- What is drawn for the laws on arches. -/
/- What is drawn for the law on lists of systems. -/
import Derived.Test.YtogjclmmjdhfeacOwn
import Derived.Deep.RegionWith
import Derived.RegionTactic
import Derived.Laws.BitsAllLaws
import Derived.Laws.Bits64
import Derived.Test.YtogjclmmjdhfeacParse
import Derived.Test.YtogjclmmjdhfeacFlat
import Derived.Test.YtogjclmmjdhfeacRain
import Derived.Test.YtogjclmmjdhfeacShift
import Derived.Test.YtogjclmmjdhfeacListsLaw
import Derived.Test.YtogjclmmjdhfeacStr0
import Derived.Test.YtogjclmmjdhfeacText
import Derived.Test.YtogjclmmjdhfeacNum
namespace Go.Proofs.Ytogjclmmjdhfeac
open Go.RowKit
set_option linter.unusedSimpArgs false
set_option linter.unusedVariables false

/-- a slice of bytes reads as a list -/
def RdY (w : World) (v : Value) (l : List Int) : Prop :=
  ∃ a c, v = .slice a l.length c ∧ l.length ≤ c ∧ c ≤ maxLen ∧ (l = [] ∨ ∃ b off, a = some ⟨b, off, none⟩ ∧ ∀ k, k < l.length → w.cell? ⟨b, off + k, none⟩ = some (.int .u8 (l.getD k 0)) ∧ 0 ≤ l.getD k 0 ∧ l.getD k 0 ≤ 255)
theorem RdY.below {w w' : World} {v : Value} {l : List Int} (h : RdY w v l) (hb : Below w.heap.size w w') : RdY w' v l := by
  obtain ⟨a, c, h1, h2, h3, h4⟩ := h
  refine ⟨a, c, h1, h2, h3, h4.imp id ?_⟩
  rintro ⟨b, off, e, hc⟩
  refine ⟨b, off, e, fun k hk => ?_⟩
  have h5 := (hc k hk).1
  exact ⟨(hb.cell (p := ⟨b, off + k, none⟩) (World.block_lt_of_cell? w _ h5)).trans h5, (hc k hk).2⟩

def Cur3 (w : World) (g : Nat) (v : Value) (a s : Int) : Prop := w.heap[g]? = some (.cells #[v, .int .i64 a, .int .u64 s] 66 (0, 0))
theorem Cur3.lt {w : World} {g : Nat} {v : Value} {a s : Int} (h : Cur3 w g v a s) : g < w.heap.size := (Array.getElem?_eq_some_iff.1 h).1
theorem Cur3.c0 {w : World} {g : Nat} {v : Value} {a s : Int} (h : Cur3 w g v a s) : w.cell? ⟨g, 0, none⟩ = some v := by rw [cell_of_row w g _ _ _ _ h]; rfl
theorem Cur3.c1 {w : World} {g : Nat} {v : Value} {a s : Int} (h : Cur3 w g v a s) : w.cell? ⟨g, 1, none⟩ = some (.int .i64 a) := by rw [cell_of_row w g _ _ _ _ h]; rfl
theorem Cur3.c2 {w : World} {g : Nat} {v : Value} {a s : Int} (h : Cur3 w g v a s) : w.cell? ⟨g, 2, none⟩ = some (.int .u64 s) := by rw [cell_of_row w g _ _ _ _ h]; rfl
theorem Cur3.free {w : World} {g : Nat} {v : Value} {a s : Int} (h : Cur3 w g v a s) (k : Nat) : w.frozen? ⟨g, k, none⟩ = false := frozen_of_row w g k _ _ h
theorem Cur3.set1 {w : World} {g : Nat} {v : Value} {a s : Int} (h : Cur3 w g v a s) (x : Int) : Cur3 (w.setCell ⟨g, 1, none⟩ (.int .i64 x)) g v x s := heap_setCell_same w g 1 _ _ _ h
theorem Cur3.set2 {w : World} {g : Nat} {v : Value} {a s : Int} (h : Cur3 w g v a s) (x : Int) : Cur3 (w.setCell ⟨g, 2, none⟩ (.int .u64 x)) g v a x := heap_setCell_same w g 2 _ _ _ h
theorem Cur3.grown {w w' : World} {g : Nat} {v : Value} {a s : Int} {row : Option Nat} (h : Cur3 w g v a s) (hg : w.grownBy w' row) (hne : some g ≠ row) : Cur3 w' g v a s := (hg.block g h.lt hne).trans h
theorem Cur3.below {w w' : World} {g : Nat} {v : Value} {a s : Int} (h : Cur3 w g v a s) (hb : Below w.heap.size w w') : Cur3 w' g v a s := (hb.block g h.lt).trans h
/-- a cursor that has read at most M bytes -/
def CurC (w : World) (g : Nat) (v : Value) (M : Nat) : Prop := ∃ (a : Nat) (s : Int), Cur3 w g v a s ∧ a ≤ M ∧ 0 ≤ s ∧ s < 18446744073709551616
theorem CurC.lt {w : World} {g M : Nat} {v : Value} (h : CurC w g v M) : g < w.heap.size := by obtain ⟨_, _, h, _⟩ := h; exact h.lt
theorem CurC.mono {w : World} {g M M' : Nat} {v : Value} (h : CurC w g v M) (hm : M ≤ M') : CurC w g v M' := by obtain ⟨a, s, h1, h2, h3⟩ := h; exact ⟨a, s, h1, by omega, h3⟩
theorem CurC.grown {w w' : World} {g M : Nat} {v : Value} {row : Option Nat} (h : CurC w g v M) (hg : w.grownBy w' row) (hne : some g ≠ row) : CurC w' g v M := by obtain ⟨a, s, h1, h2⟩ := h; exact ⟨a, s, h1.grown hg hne, h2⟩
theorem CurC.below {w w' : World} {g M : Nat} {v : Value} (h : CurC w g v M) (hb : Below w.heap.size w w') : CurC w' g v M := by obtain ⟨a, s, h1, h2⟩ := h; exact ⟨a, s, h1.below hb, h2⟩
theorem RdY.apart {w w' : World} {g : Nat} {v : Value} {l : List Int} {a s : Int} (h : RdY w v l) (hc : Cur3 w g v a s) (hg : w.grownBy w' (some g)) : RdY w' v l := by
  obtain ⟨ad, c, h1, h2, h3, h4⟩ := h
  refine ⟨ad, c, h1, h2, h3, h4.imp id ?_⟩
  rintro ⟨b, off, e, hcl⟩
  refine ⟨b, off, e, fun k hk => ?_⟩
  have h5 := (hcl k hk).1
  refine ⟨?_, (hcl k hk).2⟩
  have hb := World.block_lt_of_cell? w _ h5
  by_cases hbg : b = g
  · subst hbg
    rw [cell_of_row w b _ _ _ _ hc] at h5
    have h6 : off + k < 3 := by
      have := (Array.getElem?_eq_some_iff.1 h5).1
      simpa using this
    have h7 : off + k = 0 ∨ off + k = 1 ∨ off + k = 2 := by omega
    rcases h7 with h7 | h7 | h7 <;> rw [h7] at h5 <;> simp at h5
    rw [h5] at h1
    cases h1
  · have h8 := hg.block b hb (by simp; exact hbg)
    have h9 : w'.cell? ⟨b, off + k, none⟩ = w.cell? ⟨b, off + k, none⟩ := by unfold World.cell?; simp only [h8]
    rw [h9]; exact h5
/-- what a function of the cursor leaves behind -/
def CurOut (w : World) (g : Nat) (v : Value) (M : Nat) (w' : World) : Prop := CurC w' g v M ∧ w.grownBy w' (some g)
def DrewI (w : World) (g : Nat) (v : Value) (M : Nat) (P : Int → Prop) (e : Ending) (w' : World) : Prop := ∃ x : Int, e = .returned (.int .i64 x) ∧ P x ∧ CurOut w g v M w'

theorem shr_bound (s : Int) (h0 : 0 ≤ s) (h1 : s < 18446744073709551616) : 0 ≤ s / 1099511627776 ∧ s / 1099511627776 < 18446744073709551616 := by omega
theorem and_bound (x : Int) (h0 : 0 ≤ x) (h1 : x < 18446744073709551616) : ∃ y : Nat, bits .and .u64 x 255 = (y : Int) ∧ y ≤ 255 :=
  ⟨x.toNat &&& 255, u64_and x 255 h0 h1 (by omega) (by omega), Nat.and_le_right⟩
set_option maxHeartbeats 4000000 in
set_option maxRecDepth 100000 in
theorem next_any (g M : Nat) (v : Value) (l : List Int) (w : World) (h : CurC w g v M) (hr : RdY w v l) (hM : M ≤ 1000000) :
    Calls Try.prog 90 #[.pointer (some ⟨g, 0, none⟩)] w (DrewI w g v (M + 1) (fun x => 0 ≤ x ∧ x ≤ 255)) := by
  obtain ⟨a, s, hc, haM, hs0, hs1⟩ := h
  obtain ⟨ad, c, rfl, hlc, hcm, hcell⟩ := hr
  unfold maxLen at hcm
  have HC := Lib.hid hc
  by_cases hlt : a < l.length
  · obtain ⟨b, off, rfl, hcl⟩ : ∃ b off, ad = some ⟨b, off, none⟩ ∧ ∀ k, k < l.length → w.cell? ⟨b, off + k, none⟩ = some (.int .u8 (l.getD k 0)) ∧ 0 ≤ l.getD k 0 ∧ l.getD k 0 ≤ 255 := by
      rcases hcell with rfl | h
      · simp at hlt
      · exact h
    have hx := hcl a hlt
    generalize l.getD a 0 = x at *
    have hcx : w.drew.cell? ⟨b, off + a, none⟩ = some (.int .u8 x) := hx.1
    have hcx2 : w.drew.drew.cell? ⟨b, off + a, none⟩ = some (.int .u8 x) := hx.1
    have k0 := hc.c0; have k1 := hc.c1; have k2 := hc.c2
    have k3 := hc.free 1; have k4 := hc.free 2
    have hw : IntKind.i64.wrap ((a : Int) + 1) = (a : Int) + 1 := IntWalk.i64_in _ (by omega)
    obtain ⟨s', hs', hs2⟩ : ∃ s', IntKind.u64.wrap (IntKind.u64.wrap (IntKind.u64.wrap (s * 6364136223846793005) + x) + 1442695040888963407) = s' ∧ 0 ≤ s' ∧ s' < 18446744073709551616 := ⟨_, rfl, by rw [IntKind.wrap_u64]; omega⟩
    have d0 : w.drew.cell? ⟨g, 0, none⟩ = _ := k0
    have d1 : w.drew.cell? ⟨g, 1, none⟩ = _ := k1
    have d2 : w.drew.drew.cell? ⟨g, 0, none⟩ = _ := k0
    have d3 : w.drew.drew.cell? ⟨g, 1, none⟩ = _ := k1
    have hx0 := hx.2.1; have hx1 := hx.2.2
    clear hcl hcell hx
    go_enter Try.func90, Try.ntmps90
    go_wp2_with fail
    go_region
    go_wp2_with fail
    go_region
    go_wp2_with fail
    have hW : Cur3 (((w.setCell ⟨g, 1, none⟩ (.int .i64 ((a : Int) + 1))).setCell ⟨g, 2, none⟩ (.int .u64 s')).drew.drew) g (.slice (some ⟨b, off, none⟩) l.length c) ((a : Int) + 1) s' := (HC.out.set1 _).set2 _
    have hG : w.grownBy (((w.setCell ⟨g, 1, none⟩ (.int .i64 ((a : Int) + 1))).setCell ⟨g, 2, none⟩ (.int .u64 s')).drew.drew) (some g) := grown_drewN (grown_drewN (grown_trans grown_setCell grown_setCell) 1) 1
    clear k0 k1 k2 k3 k4 d0 d1 d2 d3 hcx hcx2 HC
    generalize ((w.setCell ⟨g, 1, none⟩ (.int .i64 ((a : Int) + 1))).setCell ⟨g, 2, none⟩ (.int .u64 s')).drew.drew = W at *
    have k0 := hW.c0; have k1 := hW.c1
    have d0 : W.drew.cell? ⟨g, 0, none⟩ = _ := k0
    have d1 : W.drew.cell? ⟨g, 1, none⟩ = _ := k1
    have HW := Lib.hid hW; have HG := Lib.hid hG
    have hle : decide ((a : Int) + 1 ≤ (l.length : Int)) = true := decide_eq_true (by omega)
    clear hW hG
    go_region
    go_wp2_with fail
    go_ret
    exact ⟨x, rfl, ⟨hx0, hx1⟩, ⟨a + 1, s', HW.out, by omega, hs2⟩, grown_drewN HG.out 1⟩
  · have k0 := hc.c0; have k1 := hc.c1; have k2 := hc.c2
    have k3 := hc.free 1; have k4 := hc.free 2
    have hw : IntKind.i64.wrap ((a : Int) + 1) = (a : Int) + 1 := IntWalk.i64_in _ (by omega)
    obtain ⟨s', hs', hs2⟩ : ∃ s', IntKind.u64.wrap (IntKind.u64.wrap (s * 6364136223846793005) + 1442695040888963407) = s' ∧ 0 ≤ s' ∧ s' < 18446744073709551616 := ⟨_, rfl, by rw [IntKind.wrap_u64]; omega⟩
    have hs3 : IntKind.u64.wrap (IntKind.u64.wrap (IntKind.u64.wrap (s * 6364136223846793005) + 0) + 1442695040888963407) = s' := by
      rw [← hs']; simp only [IntKind.wrap_u64]; omega
    have hs4 : IntKind.u64.wrap (IntKind.u64.wrap (s * 6364136223846793005)) = IntKind.u64.wrap (s * 6364136223846793005) := by
      simp only [IntKind.wrap_u64]; omega
    have d0 : w.drew.cell? ⟨g, 0, none⟩ = _ := k0
    have d1 : w.drew.cell? ⟨g, 1, none⟩ = _ := k1
    have hge : decide ((a : Int) < (l.length : Int)) = false := decide_eq_false (by omega)
    clear hcell
    go_enter Try.func90, Try.ntmps90
    go_wp2_with fail
    go_region
    go_wp2_with fail
    have hW : Cur3 (((w.setCell ⟨g, 1, none⟩ (.int .i64 ((a : Int) + 1))).setCell ⟨g, 2, none⟩ (.int .u64 s')).drew) g (.slice ad l.length c) ((a : Int) + 1) s' := (HC.out.set1 _).set2 _
    have hG : w.grownBy (((w.setCell ⟨g, 1, none⟩ (.int .i64 ((a : Int) + 1))).setCell ⟨g, 2, none⟩ (.int .u64 s')).drew) (some g) := grown_drewN (grown_trans grown_setCell grown_setCell) 1
    clear k0 k1 k2 k3 k4 d0 d1 HC
    generalize ((w.setCell ⟨g, 1, none⟩ (.int .i64 ((a : Int) + 1))).setCell ⟨g, 2, none⟩ (.int .u64 s')).drew = W at *
    have k0 := hW.c0; have k1 := hW.c1; have k2 := hW.c2
    have d0 : W.drew.cell? ⟨g, 0, none⟩ = _ := k0
    have d1 : W.drew.cell? ⟨g, 1, none⟩ = _ := k1
    have d2 : W.drew.cell? ⟨g, 2, none⟩ = _ := k2
    have HW := Lib.hid hW; have HG := Lib.hid hG
    have hle : decide ((a : Int) + 1 ≤ (l.length : Int)) = false := decide_eq_false (by omega)
    obtain ⟨h5, h6⟩ := shr_bound s' hs2.1 hs2.2
    obtain ⟨y, hy, hy2⟩ := and_bound (s' / 1099511627776) h5 h6
    clear hW hG
    go_region
    go_wp2_with fail
    go_ret
    exact ⟨y, by simp, ⟨by omega, by omega⟩, ⟨a + 1, s', HW.out, by omega, hs2⟩, grown_drewN HG.out 1⟩
theorem CurOut.refl {w : World} {g M k : Nat} {v : Value} (h : CurC w g v M) : CurOut w g v (M + k) w := ⟨h.mono (by omega), World.grownBy.refl _ _⟩
theorem CurOut.trans {w w1 w2 : World} {g M1 M2 : Nat} {v : Value} (h1 : CurOut w g v M1 w1) (h2 : CurOut w1 g v M2 w2) : CurOut w g v M2 w2 := ⟨h2.1, grown_trans h1.2 h2.2⟩
theorem CurOut.rd {w w' : World} {g M K : Nat} {v : Value} {l : List Int} (hr : RdY w v l) (hc : CurC w g v K) (h : CurOut w g v M w') : RdY w' v l := by
  obtain ⟨a, s, h3, _⟩ := hc
  exact hr.apart h3 h.2
/-- a number drawn below n -/
def PickI (n x : Int) : Prop := 0 ≤ x ∧ (x = 0 ∨ x < n)
set_option maxHeartbeats 4000000 in
set_option maxRecDepth 100000 in
theorem pick_any (g M : Nat) (n : Int) (v : Value) (l : List Int) (w : World) (h : CurC w g v M) (hr : RdY w v l) (hM : M ≤ 900000) (hn : n ≤ 4611686018427387904) :
    Calls Try.prog 56 #[.pointer (some ⟨g, 0, none⟩), .int .i64 n] w (DrewI w g v (M + 2) (PickI n)) := by
  have HN1 := Lib.hid (next_any g M v l w h hr (by omega))
  have HN2 := Lib.hid (fun w1 (ho : CurOut w g v (M + 1) w1) => next_any g (M + 1) v l w1 ho.1 (CurOut.rd hr h ho) (by omega))
  have H := Lib.hid h
  clear h hr
  by_cases h1 : n ≤ 1
  · go_enter Try.func56, Try.ntmps56
    go_wp2_with fail
    go_ret
    exact ⟨0, rfl, ⟨by omega, .inl rfl⟩, CurOut.refl H.out⟩
  · by_cases h2 : n ≤ 200
    · have h3 : ¬ 200 < n := by omega
      go_enter Try.func56, Try.ntmps56
      go_wp2_with (go_at_call 90; refine HN1.out.mono ?_; rintro e w1 ⟨x, rfl, ⟨hx0, hx1⟩, ho⟩; have HO := Lib.hid ho; clear ho; have hm1 : 0 ≤ x % n := Int.emod_nonneg _ (by omega); have hm2 : x % n < n := Int.emod_lt_of_pos _ (by omega))
      go_ret
      exact ⟨x % n, rfl, ⟨hm1, .inr hm2⟩, ⟨HO.out.1.mono (by omega), HO.out.2⟩⟩
    · have h3 : 200 < n := by omega
      go_enter Try.func56, Try.ntmps56
      go_wp2_with (first
        | (go_at_call 90; refine HN1.out.mono ?_; rintro e w1 ⟨x, rfl, ⟨hx0, hx1⟩, ho⟩; have HO := Lib.hid ho; clear ho)
        | (go_at_call 90; refine (HN2.out _ HO.out).mono ?_; rintro e w2 ⟨y, rfl, ⟨hy0, hy1⟩, ho⟩; have HO2 := Lib.hid (HO.out.trans ho); clear ho; have hw1 : IntKind.i64.wrap (x * 256) = x * 256 := IntWalk.i64_in _ (by omega); have hw2 : IntKind.i64.wrap (x * 256 + y) = x * 256 + y := IntWalk.i64_in _ (by omega); have hm1 : 0 ≤ (x * 256 + y) % n := Int.emod_nonneg _ (by omega); have hm2 : (x * 256 + y) % n < n := Int.emod_lt_of_pos _ (by omega)))
      go_ret
      exact ⟨(x * 256 + y) % n, rfl, ⟨hm1, .inr hm2⟩, HO2.out⟩
set_option maxHeartbeats 1000000 in
theorem one_any (g M : Nat) (n : Int) (v : Value) (l : List Int) (w : World) (h : CurC w g v M) (hr : RdY w v l) (hM : M ≤ 900000) (hn : n ≤ 4611686018427387904) :
    Calls Try.prog 55 #[.pointer (some ⟨g, 0, none⟩), .int .i64 n] w (fun e w' => ∃ b : Bool, e = .returned (.bool b) ∧ CurOut w g v (M + 2) w') := by
  have HP := Lib.hid (pick_any g M n v l w h hr hM hn)
  clear h hr
  go_enter Try.func55, Try.ntmps55
  go_wp2_with (go_at_call 56; refine HP.out.mono ?_; rintro e w1 ⟨x, rfl, _, ho⟩; have HO := Lib.hid ho; clear ho)
  go_ret
  exact ⟨_, rfl, HO.out⟩
end Go.Proofs.Ytogjclmmjdhfeac

namespace Go.Proofs.Ytogjclmmjdhfeac
open Go.RowKit
set_option linter.unusedSimpArgs false
set_option linter.unusedVariables false

theorem rdY_nil (w : World) : RdY w (.slice none 0 0) [] := ⟨none, 0, rfl, Nat.le_refl _, by unfold maxLen; omega, .inl rfl⟩
theorem wf_u8 {n : Int} (h : (Lit.int .u8 n).wf = true) : 0 ≤ n ∧ n ≤ 255 := by
  simp [Lit.wf, IntKind.min, IntKind.max, IntKind.signed, IntKind.bits] at h
  omega
theorem rdY_row (w : World) (x : Addr) (l c : Nat) (zs : List Int) (hl : l ≤ c) (hm : c ≤ maxLen) (hz : zs.length = c) (hcell : ∀ i, i < zs.length → w.cell? (x.add i) = some (.int .u8 (zs.getD i 0))) (hwz : ∀ n ∈ zs, (Lit.int .u8 n).wf = true) :
    RdY w (.slice (some x) l c) (zs.take l) := by
  have hlen : (zs.take l).length = l := by rw [List.length_take]; omega
  refine ⟨some x, c, by rw [hlen], by omega, hm, ?_⟩
  by_cases h0 : l = 0
  · subst h0; exact .inl (by simp)
  · refine .inr ?_
    have hx := hcell 0 (by omega)
    have hs : x.spot = none := by
      simp only [Addr.add, if_true] at hx
      unfold World.cell? at hx
      cases hsp : x.spot with
      | none => rfl
      | some q =>
        rw [hsp] at hx
        split at hx <;> simp at hx
    obtain ⟨b, off, sp⟩ := x
    simp at hs
    subst hs
    refine ⟨b, off, rfl, fun k hk => ?_⟩
    rw [hlen] at hk
    have h2 := hcell k (by omega)
    rw [Addr.add_lit] at h2
    have e : (zs.take l).getD k 0 = zs.getD k 0 := by simp [List.getD, List.getElem?_take_of_lt hk]
    rw [e]
    refine ⟨h2, ?_⟩
    have hmem : zs.getD k 0 ∈ zs := by simp [List.getD, show k < zs.length by omega]
    exact wf_u8 (hwz _ hmem)
theorem big_any (a1 : Option Addr) (n1 c1 : Nat) (l1 : List Int) (a2 : Option Addr) (n2 c2 : Nat) (l2 : List Int) (w : World) (y1 : RdY w (.slice a1 n1 c1) l1) (y2 : RdY w (.slice a2 n2 c2) l2) :
    Calls Try.prog 5 #[.slice a1 n1 c1, .slice a2 n2 c2] w fun e w' => ∃ b : Bool, e = .returned (.bool b) ∧ w' = w := by
  have h1 : n1 ≤ 9223372036854775807 := by
    obtain ⟨a, c, e, h2, h3, _⟩ := y1
    simp only [Value.slice.injEq] at e
    unfold maxLen at h3; omega
  have h2 : n2 ≤ 9223372036854775807 := by
    obtain ⟨a, c, e, h2, h3, _⟩ := y2
    simp only [Value.slice.injEq] at e
    unfold maxLen at h3; omega
  clear y1 y2
  go_enter Try.func5, Try.ntmps5
  by_cases h : n1 ≤ 1048576
  · have hw : IntKind.i64.wrap (1048576 - (n1 : Int)) = 1048576 - (n1 : Int) := IntWalk.i64_in _ (by omega)
    go_wp2
    go_ret
    exact ⟨_, rfl, rfl⟩
  · go_wp2
    go_ret
    first | exact ⟨_, rfl, rfl⟩ | exact ⟨true, rfl, rfl⟩ | rfl | simp

end Go.Proofs.Ytogjclmmjdhfeac

namespace Go.Proofs.Ytogjclmmjdhfeac
open Go.RowKit
set_option linter.unusedSimpArgs false
set_option linter.unusedVariables false

theorem CurOut.below {w w1 w2 : World} {g M : Nat} {v : Value} (h : CurOut w g v M w1) (hb : Below w1.heap.size w1 w2) : CurOut w g v M w2 :=
  ⟨h.1.below hb, ⟨hb.os.trans h.2.os, hb.tape.trans h.2.tape, hb.output.trans h.2.output, Nat.le_trans h.2.size hb.size, fun k hk hne => (hb.block k (Nat.lt_of_lt_of_le hk h.2.size)).trans (h.2.block k hk hne)⟩⟩
/-- rows of the call's own may be written -/
theorem CurOut.wrote {w w1 w2 : World} {g M : Nat} {v : Value} {row : Option Nat} (h : CurOut w g v M w1) (hg : w1.grownBy w2 row) (hr : ∀ k, row = some k → w.heap.size ≤ k) (hgl : g < w.heap.size) : CurOut w g v M w2 :=
  ⟨h.1.grown hg (fun e => by have := hr g e.symm; omega), ⟨hg.os.trans h.2.os, hg.tape.trans h.2.tape, hg.output.trans h.2.output, Nat.le_trans h.2.size hg.size, fun k hk hne => (hg.block k (Nat.lt_of_lt_of_le hk h.2.size) (fun e => by have := hr k e.symm; omega)).trans (h.2.block k hk hne)⟩⟩
theorem CurOut.own {w w1 : World} {g M B : Nat} {v u : Value} {ls : List Int} (h : CurOut w g v M w1) (ho : Own B w u ls) (hB : g < B) : Own B w1 u ls :=
  ho.grown h.2 (fun k hk e => by have := (ho.lt k hk).1; simp at e; omega)
theorem CurOut.mono {w w1 : World} {g M M' : Nat} {v : Value} (h : CurOut w g v M w1) (hm : M ≤ M') : CurOut w g v M' w1 := ⟨h.1.mono hm, h.2⟩
/-- a list drawn -/
def DrewL (w : World) (g : Nat) (v : Value) (M K : Nat) (e : Ending) (w' : World) : Prop := ∃ (u : Value) (ls : List Int), e = .returned u ∧ Own w.heap.size w' u ls ∧ ls.length ≤ K ∧ CurOut w g v M w'

theorem res_Parse_len (s : ByteArray) : (res_ParseSystem s).length ≤ 12 := by
  unfold res_ParseSystem
  cases h : parsed s with
  | none => simp
  | some q => have := (parsed_len h).2; simpa using this
set_option maxHeartbeats 4000000 in
set_option maxRecDepth 100000 in
theorem sure_any (g M n : Nat) (v : Value) (l : List Int) (w : World) (h : CurC w g v M) (hr : RdY w v l) (hM : M ≤ 800000) (hn : n ≤ 100) :
    Calls Try.prog 83 #[.pointer (some ⟨g, 0, none⟩), .int .i64 (n : Int)] w (DrewL w g v (M + 4 * n) 12) := by
  have HONE := Lib.hid (fun (k : Nat) (w1 : World) (hk : k ≤ 2 * n) (ho : CurOut w g v (M + 2 * k) w1) => one_any g (M + 2 * k) 2 v l w1 ho.1 (CurOut.rd hr h ho) (by omega) (by omega))
  have HP := Lib.hid (fun (s : ByteArray) w (hs : s.size ≤ 1000) => ahParse_any s w (by omega))
  have H := Lib.hid h
  clear h hr
  go_enter Try.func83, Try.ntmps83
  go_wp2_with fail
  go_loopw [5, 6, 7, 8] (fun s o f i wr => ∃ (k op lf : Nat) (t : ByteArray), k ≤ 2 * n ∧ i = .int .i64 (k : Int) ∧ o = .int .i64 (op : Int) ∧ f = .int .i64 (lf : Int) ∧ op + 2 * lf + k = 2 * n ∧ s = .string t ∧ t.size = k ∧ CurOut w g v (M + 2 * k) wr) (fun _ _ _ i _ => 2 * n - (intOf i).toNat)
  case atStart => exact ⟨0, 0, n, ByteArray.empty, by omega, rfl, rfl, rfl, by omega, rfl, rfl, CurOut.refl H.out⟩
  case round =>
    obtain ⟨k, op, lf, t, hk, rfl, rfl, rfl, hsum, rfl, hts, hout⟩ := hrel
    generalize wr = wc at *
    have hw0 : IntKind.i64.wrap (2 * (n : Int)) = 2 * (n : Int) := IntWalk.i64_in _ (by omega)
    by_cases hlt : k < 2 * n
    · have HOUT := Lib.hid hout
      have HO1 := Lib.hid (HONE.out k wc hk hout)
      have HTS := Lib.hid hts
      have hts2 : t.size ≤ 200 := by omega
      have hlt2 : (k : Int) < 2 * (n : Int) := by omega
      clear hout hts
      by_cases hl : 0 < lf
      · by_cases ho : op = 0
        · subst ho
          have h0 : (0 : Int) < (lf : Int) := by omega
          have hw1 : IntKind.i64.wrap ((lf : Int) - 1) = (lf : Int) - 1 := IntWalk.i64_in _ (by omega)
          have HL := Lib.hid hl
          have HS := Lib.hid hsum
          clear hsum
          go_wp2
          go_roundw
          case rel => exact ⟨k + 1, 1, lf - 1, _, by omega, by go_num, rfl, by have := HL.out; congr 1; omega, by have := HS.out; have := HL.out; omega, rfl, by rw [ByteArray.size_append, HTS.out]; rfl, (CurOut.mono HOUT.out (by omega))⟩
          case measure => simp [intOf]; omega
        · have hop : ((op : Int) == 0) = false := beq_eq_false_iff_ne.2 (by omega)
          have h0 : (0 : Int) < (lf : Int) := by omega
          have hw1 : IntKind.i64.wrap ((lf : Int) - 1) = (lf : Int) - 1 := IntWalk.i64_in _ (by omega)
          have hw2 : IntKind.i64.wrap ((op : Int) - 1) = (op : Int) - 1 := IntWalk.i64_in _ (by omega)
          have hw3 : IntKind.i64.wrap ((op : Int) + 1) = (op : Int) + 1 := IntWalk.i64_in _ (by omega)
          have HS := Lib.hid hsum
          have HOP := Lib.hid ho; have HL := Lib.hid hl
          have HIF : Hid (∀ b : Bool, b = true ∨ b = false) := fun b => by cases b <;> simp
          clear hsum
          go_wp2_with (go_at_call 55; refine HO1.out.mono ?_; rintro e w1 ⟨b, rfl, ho⟩; have HO2 := Lib.hid (CurOut.trans HOUT.out ho); clear ho; rcases HIF.out b with rfl | rfl)
          all_goals
            go_wp2
            go_roundw
            case rel =>
              first
                | exact ⟨k + 1, op + 1, lf - 1, _, by omega, by go_num, by first | rfl | (congr 1), by have := HL.out; congr 1; omega, by have := HS.out; have := HL.out; omega, rfl, by rw [ByteArray.size_append, HTS.out]; rfl, (CurOut.mono HO2.out (by omega))⟩
                | exact ⟨k + 1, op - 1, lf, _, by omega, by go_num, by have := HOP.out; congr 1; omega, rfl, by have := HS.out; have := HOP.out; omega, rfl, by rw [ByteArray.size_append, HTS.out]; rfl, (CurOut.mono HO2.out (by omega))⟩
            case measure => simp [intOf]; omega
      · obtain rfl : lf = 0 := by omega
        have hop : 0 < op := by omega
        have hw2 : IntKind.i64.wrap ((op : Int) - 1) = (op : Int) - 1 := IntWalk.i64_in _ (by omega)
        have HS := Lib.hid hsum; have HOP := Lib.hid hop
        clear hsum
        go_wp2
        go_roundw
        case rel => exact ⟨k + 1, op - 1, 0, _, by omega, by go_num, by have := HOP.out; congr 1; omega, rfl, by have := HS.out; have := HOP.out; omega, rfl, by rw [ByteArray.size_append, HTS.out]; rfl, (CurOut.mono HOUT.out (by omega))⟩
        case measure => simp [intOf]; omega
    · obtain rfl : k = 2 * n := by omega
      have hlt2 : ¬ ((2 * n : Nat) : Int) < 2 * (n : Int) := by omega
      have HOUT := Lib.hid hout
      have HPS := Lib.hid (fun w => HP.out t w (by omega))
      have HRL := Lib.hid (res_Parse_len t)
      generalize res_ParseSystem t = R at *
      generalize ok_ParseSystem t = OK at *
      clear hout hsum
      go_wp2_with (go_at_call 106; refine (HPS.out _).mono ?_; rintro e w1 ⟨u, rfl, ho, hb⟩; obtain ⟨y1, y2, y3, rfl⟩ := ho.form'; have HO := Lib.hid ho; have HB := Lib.hid hb; clear ho hb)
      go_ret
      exact ⟨_, R, rfl, HO.out.mono HOUT.out.2.size, HRL.out, (CurOut.mono (CurOut.below HOUT.out HB.out) (by omega))⟩
theorem CurOut.lt {w w1 : World} {g M : Nat} {v : Value} (h : CurOut w g v M w1) : w.heap.size ≤ w1.heap.size := h.2.size
set_option maxHeartbeats 4000000 in
set_option maxRecDepth 100000 in
theorem system_any (g M m : Nat) (v : Value) (l : List Int) (w : World) (h : CurC w g v M) (hr : RdY w v l) (hM : M ≤ 700000) (hm : m ≤ 6) :
    Calls Try.prog 45 #[.pointer (some ⟨g, 0, none⟩), .int .i64 (m : Int)] w (DrewL w g v (M + 40) 14) := by
  have hgl := h.lt
  have HRY := Lib.hid (fun w1 K (ho : CurOut w g v K w1) => CurOut.rd hr h ho)
  have HP0 := Lib.hid (pick_any g M ((m : Int) + 1) v l w h hr (by omega) (by omega))
  have HPK := Lib.hid (fun (K : Nat) (n : Int) (w1 : World) (ho : CurOut w g v K w1) (hK : K ≤ 800000) (hn : n ≤ 1000) => pick_any g K n v l w1 ho.1 (CurOut.rd hr h ho) (by omega) (by omega))
  have HSU := Lib.hid (fun (K n : Nat) (w1 : World) (ho : CurOut w g v K w1) (hK : K ≤ 800000) (hn : n ≤ 6) => sure_any g K n v l w1 ho.1 (CurOut.rd hr h ho) (by omega) (by omega))
  have hw1 : IntKind.i64.wrap ((m : Int) + 1) = (m : Int) + 1 := IntWalk.i64_in _ (by omega)
  clear h hr
  go_enter Try.func45, Try.ntmps45
  go_wp2_with fail
  refine HP0.out.mono ?_
  rintro e w1 ⟨x, rfl, ⟨hx0, hx1⟩, ho1⟩
  obtain ⟨n, rfl⟩ := Int.eq_ofNat_of_zero_le hx0
  have hn6 : n ≤ 6 := by rcases hx1 with hx1 | hx1 <;> omega
  have HO1 := Lib.hid ho1
  clear hx0 hx1 ho1
  go_wp2_with fail
  refine (HSU.out _ n w1 HO1.out (by omega) hn6).mono ?_
  rintro e w2 ⟨u, ls, rfl, hq2, hl2, ho2⟩
  obtain ⟨y1, c2, rfl, hc1, hc2⟩ := hq2.form
  unfold maxLen at hc2
  have HO2 := Lib.hid (CurOut.mono (HO1.out.trans ho2) (show M + 2 + 4 * n ≤ M + 26 by omega))
  have HQ2 := Lib.hid (hq2.mono HO1.out.lt)
  clear hq2 ho2
  go_wp2_with fail
  refine (HPK.out _ 16 w2 HO2.out (by omega) (by omega)).mono ?_
  rintro e w3 ⟨d, rfl, ⟨hd0, hd1⟩, ho3⟩
  have HO3 := Lib.hid (HO2.out.trans ho3)
  have HQ3 := Lib.hid (CurOut.own ho3 HQ2.out hgl)
  clear ho3
  have hd : d = 0 ∨ d = 1 ∨ d = 2 ∨ d = 3 ∨ (d ≠ 0 ∧ d ≠ 1 ∧ d ≠ 2 ∧ d ≠ 3) := by omega
  clear hd0 hd1
  rcases hd with rfl | rfl | rfl | rfl | ⟨n0, n1, n2, n3⟩
  · by_cases hz : ls.length = 0
    · have hz2 : ¬ (0 : Int) < (ls.length : Int) := by omega
      have HLZ := Lib.hid hz
      clear hz
      go_wp2_with fail
      go_ret
      exact ⟨_, ls, rfl, HQ3.out, by omega, CurOut.mono HO3.out (by omega)⟩
    · have hz2 : (0 : Int) < (ls.length : Int) := by omega
      have hw2 : IntKind.i64.wrap ((ls.length : Int) + 2) = (ls.length : Int) + 2 := IntWalk.i64_in _ (by omega)
      obtain ⟨gq, rfl, _⟩ := HQ3.out.get 0 (by omega)
      go_wp2_with fail
      refine (HPK.out _ (ls.length : Int) w3 HO3.out (by omega) (by omega)).mono ?_
      rintro e w4 ⟨x, rfl, ⟨hx0, hx1⟩, ho4⟩
      obtain ⟨j, rfl⟩ := Int.eq_ofNat_of_zero_le hx0
      have hj : j < ls.length := by rcases hx1 with hx1 | hx1 <;> omega
      have HO4 := Lib.hid (HO3.out.trans ho4)
      have HQ4 := Lib.hid (CurOut.own ho4 HQ3.out hgl)
      clear ho4 hx0 hx1
      go_wp2_with fail
      refine (HPK.out _ ((ls.length : Int) + 2) w4 HO4.out (by omega) (by omega)).mono ?_
      rintro e w5 ⟨z, rfl, ⟨hz0, hz1⟩, ho5⟩
      have HO5 := Lib.hid (HO4.out.trans ho5)
      have HQ5 := Lib.hid (CurOut.own ho5 HQ4.out hgl)
      have hw3 : IntKind.i64.wrap (z - 1) = z - 1 := IntWalk.i64_in _ (by omega)
      have hji : (j : Int) < (ls.length : Int) := by omega
      have hj0 : (0 : Int) ≤ (j : Int) := by omega
      clear ho5 hz1
      go_wp2_with ((refine wp_storeOwn rfl (.tmp 30) (.tmp 29) rfl w.heap.size gq j ls.length c2 ls (z - 1) rfl rfl HQ5.out hj ?_); intro w6 hq6 hg6; have HQ6 := Lib.hid hq6; have HO6 := Lib.hid (CurOut.wrote HO5.out hg6 (fun k hk => by simp at hk; subst hk; exact (HQ5.out.lt _ rfl).1) hgl); clear hq6 hg6)
      go_ret
      exact ⟨_, ls.set j (z - 1), rfl, HQ6.out, by rw [List.length_set]; omega, CurOut.mono HO6.out (by omega)⟩
  · have hw2 : IntKind.i64.wrap ((ls.length : Int) + 1) = (ls.length : Int) + 1 := IntWalk.i64_in _ (by omega)
    have HQ4 := Lib.hid (HQ3.out.below (Below.alloc1 w3 (.cells #[.int .i64 ((ls.length : Int) + 1)] 3)))
    go_wp2_with (at_builtin; refine wp_append _ rfl (.tmp 33) (.tmp 37) rfl w.heap.size _ (.slice (some ⟨w3.heap.size, 0, none⟩) 1 1) ls [(ls.length : Int) + 1] rfl rfl HQ4.out (Own.lit1 _ w3 _ (Nat.le_refl _)).rd (by simp; omega) (by have := HO3.out.lt; simp; omega) ?_; intro v5 w5 hq5 hg5 hb5; obtain ⟨x1, x2, x3, rfl⟩ := hq5.form'; have HQ5 := Lib.hid hq5; have HO5 := Lib.hid (CurOut.wrote (CurOut.below HO3.out (Below.alloc1 w3 (.cells #[.int .i64 ((ls.length : Int) + 1)] 3))) hg5 (fun k hk => (HQ4.out.lt k hk).1) hgl); clear hq5 hg5 hb5)
    go_ret
    exact ⟨_, ls ++ [(ls.length : Int) + 1], rfl, HQ5.out, by simp; omega, CurOut.mono HO5.out (by omega)⟩
  · go_wp2_with fail
    refine (HPK.out _ 2 w3 HO3.out (by omega) (by omega)).mono ?_
    rintro e w4 ⟨x, rfl, ⟨hx0, hx1⟩, ho4⟩
    obtain ⟨j, rfl⟩ := Int.eq_ofNat_of_zero_le hx0
    have hj : j ≤ 1 := by rcases hx1 with hx1 | hx1 <;> omega
    have HO4 := Lib.hid (HO3.out.trans ho4)
    have hw2 : IntKind.i64.wrap (6 + (j : Int)) = ((6 + j : Nat) : Int) := by rw [show (6 : Int) + (j : Int) = ((6 + j : Nat) : Int) by omega]; exact IntWalk.i64_in _ (by omega)
    clear ho4 hx0 hx1
    go_wp2_with fail
    refine (ahFlat_upto (6 + j) (by omega) w4).mono ?_
    rintro e w5 ⟨q, rfl, hq5, hb5⟩
    obtain ⟨x1, x2, x3, rfl⟩ := hq5.form'
    have HQ5 := Lib.hid (hq5.mono HO4.out.lt); have HO5 := Lib.hid (HO4.out.below hb5)
    have HLE : Hid ((flats (6 + j)).length ≤ 14) := by show _ ≤ _; rw [flats_length]; omega
    clear hq5 hb5
    go_wp2_with fail
    go_ret
    exact ⟨_, flats (6 + j), rfl, HQ5.out, HLE.out, CurOut.mono HO5.out (by omega)⟩
  · go_wp2_with fail
    refine (HPK.out _ 7 w3 HO3.out (by omega) (by omega)).mono ?_
    rintro e w4 ⟨x, rfl, ⟨hx0, hx1⟩, ho4⟩
    obtain ⟨j, rfl⟩ := Int.eq_ofNat_of_zero_le hx0
    have hj : j ≤ 6 := by rcases hx1 with hx1 | hx1 <;> omega
    have HO4 := Lib.hid (HO3.out.trans ho4)
    clear ho4 hx0 hx1
    go_wp2_with fail
    refine (ahRainbow_any j hj w4).mono ?_
    rintro e w5 ⟨q, rfl, hq5, hb5⟩
    obtain ⟨x1, x2, x3, rfl⟩ := hq5.form'
    have HQ5 := Lib.hid (hq5.mono HO4.out.lt); have HO5 := Lib.hid (HO4.out.below hb5)
    have HLE : Hid ((rainbow j).length ≤ 14) := by show _ ≤ _; rw [rainbow_len]; omega
    clear hq5 hb5
    go_wp2_with fail
    go_ret
    exact ⟨_, rainbow j, rfl, HQ5.out, HLE.out, CurOut.mono HO5.out (by omega)⟩
  · have k0 : (d == 0) = false := beq_eq_false_iff_ne.2 n0
    have k1 : (d == 1) = false := beq_eq_false_iff_ne.2 n1
    have k2 : (d == 2) = false := beq_eq_false_iff_ne.2 n2
    have k3 : (d == 3) = false := beq_eq_false_iff_ne.2 n3
    clear n0 n1 n2 n3
    go_wp2_with fail
    go_ret
    exact ⟨_, ls, rfl, HQ3.out, by omega, CurOut.mono HO3.out (by omega)⟩

end Go.Proofs.Ytogjclmmjdhfeac

namespace Go.Proofs.Ytogjclmmjdhfeac
open Go.RowKit
set_option linter.unusedSimpArgs false
set_option linter.unusedVariables false

def I64 (x : Int) : Prop := -9223372036854775808 ≤ x ∧ x ≤ 9223372036854775807
def DrawnL (w : World) (K : Nat) (e : Ending) (w' : World) : Prop := ∃ (u : Value) (ls : List Int), e = .returned u ∧ Own w.heap.size w' u ls ∧ ls.length ≤ K ∧ Below w.heap.size w w'
def DrawnI (w : World) (P : Int → Prop) (e : Ending) (w' : World) : Prop := ∃ x : Int, e = .returned (.int .i64 x) ∧ P x ∧ Below w.heap.size w w'
def DrawnLI (w : World) (K : Nat) (P : Int → Prop) (e : Ending) (w' : World) : Prop := ∃ (u : Value) (ls : List Int) (x : Int), e = .returned (.tuple #[u, .int .i64 x]) ∧ Own w.heap.size w' u ls ∧ ls.length ≤ K ∧ P x ∧ Below w.heap.size w w'
def DrawnLII (w : World) (K : Nat) (P : Int → Prop) (e : Ending) (w' : World) : Prop := ∃ (u : Value) (ls : List Int) (x y : Int), e = .returned (.tuple #[u, .int .i64 x, .int .i64 y]) ∧ Own w.heap.size w' u ls ∧ ls.length ≤ K ∧ P x ∧ P y ∧ Below w.heap.size w w'
def DrawnLL2 (w : World) (K : Nat) (e : Ending) (w' : World) : Prop := ∃ (u1 u2 : Value) (l1 l2 : List Int), e = .returned (.tuple #[u1, u2]) ∧ Own w.heap.size w' u1 l1 ∧ Own w.heap.size w' u2 l2 ∧ l1.length ≤ K ∧ l2.length ≤ K ∧ Below w.heap.size w w'
def DrawnII (w : World) (P Q : Int → Prop) (e : Ending) (w' : World) : Prop := ∃ x y : Int, e = .returned (.tuple #[.int .i64 x, .int .i64 y]) ∧ P x ∧ Q y ∧ Below w.heap.size w w'

theorem cur_new (w : World) (v : Value) : CurC (w.alloc (.cells #[v, .int .i64 0, .int .u64 0] 66)) w.heap.size v 0 := ⟨0, 0, heap_alloc_new w _, by omega, by omega, by omega⟩
theorem CurOut.toBelow {w w' : World} {o : Obj} {v : Value} {M : Nat} (h : CurOut (w.alloc o) w.heap.size v M w') : Below w.heap.size w w' :=
  ⟨h.2.os, h.2.tape, h.2.output, Nat.le_trans (by simp) h.2.size, fun k hk => (h.2.block k (by simp; omega) (by simp; omega)).trans (by
    show (w.heap.push o)[k]? = _
    rw [Array.getElem?_push, if_neg (by omega)])⟩
set_option maxHeartbeats 1000000 in
theorem drawIsSystem_any (v : Value) (l : List Int) (w : World) (hr : RdY w v l) : Calls Try.prog 59 #[v] w (DrawnL w 14) := by
  have HS := Lib.hid (system_any w.heap.size 0 6 v l _ (cur_new w v) (hr.below (Below.alloc1 _ _)) (by omega) (by omega))
  obtain ⟨y1, y2, rfl, _⟩ := hr
  go_enter Try.func59, Try.ntmps59
  go_wp2_with fail
  refine HS.out.mono ?_
  rintro e w1 ⟨u, ls, rfl, hq, hl, ho⟩
  obtain ⟨x1, x2, x3, rfl⟩ := hq.form'
  have HQ := Lib.hid hq; have HO := Lib.hid ho
  clear hq ho
  go_wp2_with fail
  go_ret
  exact ⟨_, ls, rfl, HQ.out.mono (by simp), hl, CurOut.toBelow HO.out⟩

end Go.Proofs.Ytogjclmmjdhfeac

namespace Go.Proofs.Ytogjclmmjdhfeac
open Go.RowKit
set_option linter.unusedSimpArgs false
set_option linter.unusedVariables false


end Go.Proofs.Ytogjclmmjdhfeac

namespace Go.Proofs.Ytogjclmmjdhfeac
open Go.RowKit
set_option linter.unusedSimpArgs false
set_option linter.unusedVariables false


end Go.Proofs.Ytogjclmmjdhfeac

namespace Go.Proofs.Ytogjclmmjdhfeac
open Go.RowKit
set_option linter.unusedSimpArgs false
set_option linter.unusedVariables false

theorem cat_bd {n : Nat} (h : n ≤ 6) : (0 : Int) ≤ cat n ∧ cat n ≤ 132 := by
  have : n = 0 ∨ n = 1 ∨ n = 2 ∨ n = 3 ∨ n = 4 ∨ n = 5 ∨ n = 6 := by omega
  rcases this with rfl | rfl | rfl | rfl | rfl | rfl | rfl <;> decide
def DrawnT (w : World) (K : Nat) (e : Ending) (w' : World) : Prop := ∃ t : ByteArray, e = .returned (.string t) ∧ t.size ≤ K ∧ Below w.heap.size w w'

end Go.Proofs.Ytogjclmmjdhfeac
