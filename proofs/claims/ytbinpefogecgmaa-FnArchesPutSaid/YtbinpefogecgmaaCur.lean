/- The cursor from which inputs are drawn. -/
import Derived.Test.YtbinpefogecgmaaBase
import Derived.Test.YtbinpefogecgmaaOwn
import Derived.Deep.RegionWith
import Derived.RegionTactic
import Derived.Laws.BitsAllLaws
import Derived.Laws.Bits64
namespace Go.Proofs.Ytbinpefogecgmaa
open Go.RowKit
set_option linter.unusedSimpArgs false
set_option linter.unusedVariables false

/-- a slice of bytes reads as a list -/
def RdY (w : World) (v : Value) (l : List Int) : Prop :=
  ∃ a c, v = .slice a l.length c ∧ l.length ≤ c ∧ c ≤ maxLen ∧ (l = [] ∨ ∃ b off, a = some ⟨b, off, none⟩ ∧ ∀ k, k < l.length → w.cell? ⟨b, off + k, none⟩ = some (.int .u8 (l.getD k 0)) ∧ 0 ≤ l.getD k 0 ∧ l.getD k 0 ≤ 255)
theorem RdY.below {w w' : World} {v : Value} {l : List Int} (h : RdY w v l) (hb : Below w.heap.size w w') : RdY w' v l := by
  obtain ⟨a, c, h1, h2, h3, h4⟩ := h
  refine ⟨a, c, h1, h2, h3, h4.imp id ?_⟩
  rintro ⟨b, off, e, hc⟩
  refine ⟨b, off, e, fun k hk => ?_⟩
  have h5 := (hc k hk).1
  exact ⟨(hb.cell (p := ⟨b, off + k, none⟩) (World.block_lt_of_cell? w _ h5)).trans h5, (hc k hk).2⟩

def Cur3 (w : World) (g : Nat) (v : Value) (a s : Int) : Prop := w.heap[g]? = some (.cells #[v, .int .i64 a, .int .u64 s] 70 (0, 0))
theorem Cur3.lt {w : World} {g : Nat} {v : Value} {a s : Int} (h : Cur3 w g v a s) : g < w.heap.size := (Array.getElem?_eq_some_iff.1 h).1
theorem Cur3.c0 {w : World} {g : Nat} {v : Value} {a s : Int} (h : Cur3 w g v a s) : w.cell? ⟨g, 0, none⟩ = some v := by rw [cell_of_row w g _ _ _ _ h]; rfl
theorem Cur3.c1 {w : World} {g : Nat} {v : Value} {a s : Int} (h : Cur3 w g v a s) : w.cell? ⟨g, 1, none⟩ = some (.int .i64 a) := by rw [cell_of_row w g _ _ _ _ h]; rfl
theorem Cur3.c2 {w : World} {g : Nat} {v : Value} {a s : Int} (h : Cur3 w g v a s) : w.cell? ⟨g, 2, none⟩ = some (.int .u64 s) := by rw [cell_of_row w g _ _ _ _ h]; rfl
theorem Cur3.free {w : World} {g : Nat} {v : Value} {a s : Int} (h : Cur3 w g v a s) (k : Nat) : w.frozen? ⟨g, k, none⟩ = false := frozen_of_row w g k _ _ h
theorem Cur3.set1 {w : World} {g : Nat} {v : Value} {a s : Int} (h : Cur3 w g v a s) (x : Int) : Cur3 (w.setCell ⟨g, 1, none⟩ (.int .i64 x)) g v x s := heap_setCell_same w g 1 _ _ _ h
theorem Cur3.set2 {w : World} {g : Nat} {v : Value} {a s : Int} (h : Cur3 w g v a s) (x : Int) : Cur3 (w.setCell ⟨g, 2, none⟩ (.int .u64 x)) g v a x := heap_setCell_same w g 2 _ _ _ h
theorem Cur3.grown {w w' : World} {g : Nat} {v : Value} {a s : Int} {row : Option Nat} (h : Cur3 w g v a s) (hg : w.grownBy w' row) (hne : some g ≠ row) : Cur3 w' g v a s := (hg.block g h.lt hne).trans h
theorem Cur3.below {w w' : World} {g : Nat} {v : Value} {a s : Int} (h : Cur3 w g v a s) (hb : Below w.heap.size w w') : Cur3 w' g v a s := (hb.block g h.lt).trans h
/-- a cursor that has read at most M bytes -/
def CurC (w : World) (g : Nat) (v : Value) (M : Nat) : Prop := ∃ (a : Nat) (s : Int), Cur3 w g v a s ∧ a ≤ M ∧ 0 ≤ s ∧ s < 18446744073709551616
theorem CurC.lt {w : World} {g M : Nat} {v : Value} (h : CurC w g v M) : g < w.heap.size := by obtain ⟨_, _, h, _⟩ := h; exact h.lt
theorem CurC.mono {w : World} {g M M' : Nat} {v : Value} (h : CurC w g v M) (hm : M ≤ M') : CurC w g v M' := by obtain ⟨a, s, h1, h2, h3⟩ := h; exact ⟨a, s, h1, by omega, h3⟩
theorem CurC.grown {w w' : World} {g M : Nat} {v : Value} {row : Option Nat} (h : CurC w g v M) (hg : w.grownBy w' row) (hne : some g ≠ row) : CurC w' g v M := by obtain ⟨a, s, h1, h2⟩ := h; exact ⟨a, s, h1.grown hg hne, h2⟩
theorem CurC.below {w w' : World} {g M : Nat} {v : Value} (h : CurC w g v M) (hb : Below w.heap.size w w') : CurC w' g v M := by obtain ⟨a, s, h1, h2⟩ := h; exact ⟨a, s, h1.below hb, h2⟩
theorem RdY.apart {w w' : World} {g : Nat} {v : Value} {l : List Int} {a s : Int} (h : RdY w v l) (hc : Cur3 w g v a s) (hg : w.grownBy w' (some g)) : RdY w' v l := by
  obtain ⟨ad, c, h1, h2, h3, h4⟩ := h
  refine ⟨ad, c, h1, h2, h3, h4.imp id ?_⟩
  rintro ⟨b, off, e, hcl⟩
  refine ⟨b, off, e, fun k hk => ?_⟩
  have h5 := (hcl k hk).1
  refine ⟨?_, (hcl k hk).2⟩
  have hb := World.block_lt_of_cell? w _ h5
  by_cases hbg : b = g
  · subst hbg
    rw [cell_of_row w b _ _ _ _ hc] at h5
    have h6 : off + k < 3 := by
      have := (Array.getElem?_eq_some_iff.1 h5).1
      simpa using this
    have h7 : off + k = 0 ∨ off + k = 1 ∨ off + k = 2 := by omega
    rcases h7 with h7 | h7 | h7 <;> rw [h7] at h5 <;> simp at h5
    rw [h5] at h1
    cases h1
  · have h8 := hg.block b hb (by simp; exact hbg)
    have h9 : w'.cell? ⟨b, off + k, none⟩ = w.cell? ⟨b, off + k, none⟩ := by unfold World.cell?; simp only [h8]
    rw [h9]; exact h5
/-- what a function of the cursor leaves behind -/
def CurOut (w : World) (g : Nat) (v : Value) (M : Nat) (w' : World) : Prop := CurC w' g v M ∧ w.grownBy w' (some g)
def DrewI (w : World) (g : Nat) (v : Value) (M : Nat) (P : Int → Prop) (e : Ending) (w' : World) : Prop := ∃ x : Int, e = .returned (.int .i64 x) ∧ P x ∧ CurOut w g v M w'

theorem shr_bound (s : Int) (h0 : 0 ≤ s) (h1 : s < 18446744073709551616) : 0 ≤ s / 1099511627776 ∧ s / 1099511627776 < 18446744073709551616 := by omega
theorem and_bound (x : Int) (h0 : 0 ≤ x) (h1 : x < 18446744073709551616) : ∃ y : Nat, bits .and .u64 x 255 = (y : Int) ∧ y ≤ 255 :=
  ⟨x.toNat &&& 255, u64_and x 255 h0 h1 (by omega) (by omega), Nat.and_le_right⟩
set_option maxHeartbeats 4000000 in
set_option maxRecDepth 100000 in
theorem next_any (g M : Nat) (v : Value) (l : List Int) (w : World) (h : CurC w g v M) (hr : RdY w v l) (hM : M ≤ 1000000) :
    Calls Try.prog 126 #[.pointer (some ⟨g, 0, none⟩)] w (DrewI w g v (M + 1) (fun x => 0 ≤ x ∧ x ≤ 255)) := by
  obtain ⟨a, s, hc, haM, hs0, hs1⟩ := h
  obtain ⟨ad, c, rfl, hlc, hcm, hcell⟩ := hr
  unfold maxLen at hcm
  have HC := Lib.hid hc
  by_cases hlt : a < l.length
  · obtain ⟨b, off, rfl, hcl⟩ : ∃ b off, ad = some ⟨b, off, none⟩ ∧ ∀ k, k < l.length → w.cell? ⟨b, off + k, none⟩ = some (.int .u8 (l.getD k 0)) ∧ 0 ≤ l.getD k 0 ∧ l.getD k 0 ≤ 255 := by
      rcases hcell with rfl | h
      · simp at hlt
      · exact h
    have hx := hcl a hlt
    generalize l.getD a 0 = x at *
    have hcx : w.drew.cell? ⟨b, off + a, none⟩ = some (.int .u8 x) := hx.1
    have hcx2 : w.drew.drew.cell? ⟨b, off + a, none⟩ = some (.int .u8 x) := hx.1
    have k0 := hc.c0; have k1 := hc.c1; have k2 := hc.c2
    have k3 := hc.free 1; have k4 := hc.free 2
    have hw : IntKind.i64.wrap ((a : Int) + 1) = (a : Int) + 1 := IntWalk.i64_in _ (by omega)
    obtain ⟨s', hs', hs2⟩ : ∃ s', IntKind.u64.wrap (IntKind.u64.wrap (IntKind.u64.wrap (s * 6364136223846793005) + x) + 1442695040888963407) = s' ∧ 0 ≤ s' ∧ s' < 18446744073709551616 := ⟨_, rfl, by rw [IntKind.wrap_u64]; omega⟩
    have d0 : w.drew.cell? ⟨g, 0, none⟩ = _ := k0
    have d1 : w.drew.cell? ⟨g, 1, none⟩ = _ := k1
    have d2 : w.drew.drew.cell? ⟨g, 0, none⟩ = _ := k0
    have d3 : w.drew.drew.cell? ⟨g, 1, none⟩ = _ := k1
    have hx0 := hx.2.1; have hx1 := hx.2.2
    clear hcl hcell hx
    go_enter Try.func126, Try.ntmps126
    go_wp2_with fail
    go_region
    go_wp2_with fail
    go_region
    go_wp2_with fail
    have hW : Cur3 (((w.setCell ⟨g, 1, none⟩ (.int .i64 ((a : Int) + 1))).setCell ⟨g, 2, none⟩ (.int .u64 s')).drew.drew) g (.slice (some ⟨b, off, none⟩) l.length c) ((a : Int) + 1) s' := (HC.out.set1 _).set2 _
    have hG : w.grownBy (((w.setCell ⟨g, 1, none⟩ (.int .i64 ((a : Int) + 1))).setCell ⟨g, 2, none⟩ (.int .u64 s')).drew.drew) (some g) := grown_drewN (grown_drewN (grown_trans grown_setCell grown_setCell) 1) 1
    clear k0 k1 k2 k3 k4 d0 d1 d2 d3 hcx hcx2 HC
    generalize ((w.setCell ⟨g, 1, none⟩ (.int .i64 ((a : Int) + 1))).setCell ⟨g, 2, none⟩ (.int .u64 s')).drew.drew = W at *
    have k0 := hW.c0; have k1 := hW.c1
    have d0 : W.drew.cell? ⟨g, 0, none⟩ = _ := k0
    have d1 : W.drew.cell? ⟨g, 1, none⟩ = _ := k1
    have HW := Lib.hid hW; have HG := Lib.hid hG
    have hle : decide ((a : Int) + 1 ≤ (l.length : Int)) = true := decide_eq_true (by omega)
    clear hW hG
    go_region
    go_wp2_with fail
    go_ret
    exact ⟨x, rfl, ⟨hx0, hx1⟩, ⟨a + 1, s', HW.out, by omega, hs2⟩, grown_drewN HG.out 1⟩
  · have k0 := hc.c0; have k1 := hc.c1; have k2 := hc.c2
    have k3 := hc.free 1; have k4 := hc.free 2
    have hw : IntKind.i64.wrap ((a : Int) + 1) = (a : Int) + 1 := IntWalk.i64_in _ (by omega)
    obtain ⟨s', hs', hs2⟩ : ∃ s', IntKind.u64.wrap (IntKind.u64.wrap (s * 6364136223846793005) + 1442695040888963407) = s' ∧ 0 ≤ s' ∧ s' < 18446744073709551616 := ⟨_, rfl, by rw [IntKind.wrap_u64]; omega⟩
    have hs3 : IntKind.u64.wrap (IntKind.u64.wrap (IntKind.u64.wrap (s * 6364136223846793005) + 0) + 1442695040888963407) = s' := by
      rw [← hs']; simp only [IntKind.wrap_u64]; omega
    have hs4 : IntKind.u64.wrap (IntKind.u64.wrap (s * 6364136223846793005)) = IntKind.u64.wrap (s * 6364136223846793005) := by
      simp only [IntKind.wrap_u64]; omega
    have d0 : w.drew.cell? ⟨g, 0, none⟩ = _ := k0
    have d1 : w.drew.cell? ⟨g, 1, none⟩ = _ := k1
    have hge : decide ((a : Int) < (l.length : Int)) = false := decide_eq_false (by omega)
    clear hcell
    go_enter Try.func126, Try.ntmps126
    go_wp2_with fail
    go_region
    go_wp2_with fail
    have hW : Cur3 (((w.setCell ⟨g, 1, none⟩ (.int .i64 ((a : Int) + 1))).setCell ⟨g, 2, none⟩ (.int .u64 s')).drew) g (.slice ad l.length c) ((a : Int) + 1) s' := (HC.out.set1 _).set2 _
    have hG : w.grownBy (((w.setCell ⟨g, 1, none⟩ (.int .i64 ((a : Int) + 1))).setCell ⟨g, 2, none⟩ (.int .u64 s')).drew) (some g) := grown_drewN (grown_trans grown_setCell grown_setCell) 1
    clear k0 k1 k2 k3 k4 d0 d1 HC
    generalize ((w.setCell ⟨g, 1, none⟩ (.int .i64 ((a : Int) + 1))).setCell ⟨g, 2, none⟩ (.int .u64 s')).drew = W at *
    have k0 := hW.c0; have k1 := hW.c1; have k2 := hW.c2
    have d0 : W.drew.cell? ⟨g, 0, none⟩ = _ := k0
    have d1 : W.drew.cell? ⟨g, 1, none⟩ = _ := k1
    have d2 : W.drew.cell? ⟨g, 2, none⟩ = _ := k2
    have HW := Lib.hid hW; have HG := Lib.hid hG
    have hle : decide ((a : Int) + 1 ≤ (l.length : Int)) = false := decide_eq_false (by omega)
    obtain ⟨h5, h6⟩ := shr_bound s' hs2.1 hs2.2
    obtain ⟨y, hy, hy2⟩ := and_bound (s' / 1099511627776) h5 h6
    clear hW hG
    go_region
    go_wp2_with fail
    go_ret
    exact ⟨y, by simp, ⟨by omega, by omega⟩, ⟨a + 1, s', HW.out, by omega, hs2⟩, grown_drewN HG.out 1⟩
theorem CurOut.refl {w : World} {g M k : Nat} {v : Value} (h : CurC w g v M) : CurOut w g v (M + k) w := ⟨h.mono (by omega), World.grownBy.refl _ _⟩
theorem CurOut.trans {w w1 w2 : World} {g M1 M2 : Nat} {v : Value} (h1 : CurOut w g v M1 w1) (h2 : CurOut w1 g v M2 w2) : CurOut w g v M2 w2 := ⟨h2.1, grown_trans h1.2 h2.2⟩
theorem CurOut.rd {w w' : World} {g M K : Nat} {v : Value} {l : List Int} (hr : RdY w v l) (hc : CurC w g v K) (h : CurOut w g v M w') : RdY w' v l := by
  obtain ⟨a, s, h3, _⟩ := hc
  exact hr.apart h3 h.2
/-- a number drawn below n -/
def PickI (n x : Int) : Prop := 0 ≤ x ∧ (x = 0 ∨ x < n)
set_option maxHeartbeats 4000000 in
set_option maxRecDepth 100000 in
theorem pick_any (g M : Nat) (n : Int) (v : Value) (l : List Int) (w : World) (h : CurC w g v M) (hr : RdY w v l) (hM : M ≤ 900000) (hn : n ≤ 4611686018427387904) :
    Calls Try.prog 75 #[.pointer (some ⟨g, 0, none⟩), .int .i64 n] w (DrewI w g v (M + 2) (PickI n)) := by
  have HN1 := Lib.hid (next_any g M v l w h hr (by omega))
  have HN2 := Lib.hid (fun w1 (ho : CurOut w g v (M + 1) w1) => next_any g (M + 1) v l w1 ho.1 (CurOut.rd hr h ho) (by omega))
  have H := Lib.hid h
  clear h hr
  by_cases h1 : n ≤ 1
  · go_enter Try.func75, Try.ntmps75
    go_wp2_with fail
    go_ret
    exact ⟨0, rfl, ⟨by omega, .inl rfl⟩, CurOut.refl H.out⟩
  · by_cases h2 : n ≤ 200
    · have h3 : ¬ 200 < n := by omega
      go_enter Try.func75, Try.ntmps75
      go_wp2_with (go_at_call 126; refine HN1.out.mono ?_; rintro e w1 ⟨x, rfl, ⟨hx0, hx1⟩, ho⟩; have HO := Lib.hid ho; clear ho; have hm1 : 0 ≤ x % n := Int.emod_nonneg _ (by omega); have hm2 : x % n < n := Int.emod_lt_of_pos _ (by omega))
      go_ret
      exact ⟨x % n, rfl, ⟨hm1, .inr hm2⟩, ⟨HO.out.1.mono (by omega), HO.out.2⟩⟩
    · have h3 : 200 < n := by omega
      go_enter Try.func75, Try.ntmps75
      go_wp2_with (first
        | (go_at_call 126; refine HN1.out.mono ?_; rintro e w1 ⟨x, rfl, ⟨hx0, hx1⟩, ho⟩; have HO := Lib.hid ho; clear ho)
        | (go_at_call 126; refine (HN2.out _ HO.out).mono ?_; rintro e w2 ⟨y, rfl, ⟨hy0, hy1⟩, ho⟩; have HO2 := Lib.hid (HO.out.trans ho); clear ho; have hw1 : IntKind.i64.wrap (x * 256) = x * 256 := IntWalk.i64_in _ (by omega); have hw2 : IntKind.i64.wrap (x * 256 + y) = x * 256 + y := IntWalk.i64_in _ (by omega); have hm1 : 0 ≤ (x * 256 + y) % n := Int.emod_nonneg _ (by omega); have hm2 : (x * 256 + y) % n < n := Int.emod_lt_of_pos _ (by omega)))
      go_ret
      exact ⟨(x * 256 + y) % n, rfl, ⟨hm1, .inr hm2⟩, HO2.out⟩
set_option maxHeartbeats 1000000 in
theorem one_any (g M : Nat) (n : Int) (v : Value) (l : List Int) (w : World) (h : CurC w g v M) (hr : RdY w v l) (hM : M ≤ 900000) (hn : n ≤ 4611686018427387904) :
    Calls Try.prog 73 #[.pointer (some ⟨g, 0, none⟩), .int .i64 n] w (fun e w' => ∃ b : Bool, e = .returned (.bool b) ∧ CurOut w g v (M + 2) w') := by
  have HP := Lib.hid (pick_any g M n v l w h hr hM hn)
  clear h hr
  go_enter Try.func73, Try.ntmps73
  go_wp2_with (go_at_call 75; refine HP.out.mono ?_; rintro e w1 ⟨x, rfl, _, ho⟩; have HO := Lib.hid ho; clear ho)
  go_ret
  exact ⟨_, rfl, HO.out⟩
set_option maxHeartbeats 1000000 in
theorem among_any (g M : Nat) (u v : Value) (l ls : List Int) (w : World) (h : CurC w g v M) (hr : RdY w v l) (hu : ∀ w', CurOut w g v (M + 2) w' → Rd w' u ls) (h0 : 0 < ls.length) (hls : ls.length ≤ 1000) (hM : M ≤ 900000) :
    Calls Try.prog 74 #[.pointer (some ⟨g, 0, none⟩), u] w (DrewI w g v (M + 2) (fun x => x ∈ ls)) := by
  have hu0 : ∃ a c, u = .slice a ls.length c ∧ ls.length ≤ c ∧ c ≤ maxLen := by
    have := hu w ⟨h.mono (by omega), World.grownBy.refl _ _⟩
    obtain ⟨a, c, h1, h2, h3, _⟩ := this
    exact ⟨a, c, h1, h2, h3⟩
  obtain ⟨a, c, rfl, hc1, hc2⟩ := hu0
  unfold maxLen at hc2
  have HP := Lib.hid (pick_any g M (ls.length : Int) v l w h hr hM (by omega))
  have HU := Lib.hid hu
  clear h hr hu
  go_enter Try.func74, Try.ntmps74
  go_wp2_with (go_at_call 75; refine HP.out.mono ?_; rintro e w1 ⟨x, rfl, ⟨hx0, hx1⟩, ho⟩; obtain ⟨k, rfl⟩ := Int.eq_ofNat_of_zero_le hx0; have hk : k < ls.length := (by rcases hx1 with hx1 | hx1 <;> omega); obtain ⟨a', c', e', _, _, _, hcl⟩ := HU.out w1 ho; have hcl2 : ∃ b off, a = some ⟨b, off, none⟩ ∧ w1.cell? ⟨b, off + k, none⟩ = some (.int .i64 (ls.getD k 0)) := (by
    simp only [Value.slice.injEq] at e'
    obtain ⟨rfl, _, rfl⟩ := e'
    rcases hcl with rfl | ⟨b, off, h1, h2⟩
    · simp at hk
    · exact ⟨b, off, h1, h2 k hk⟩); obtain ⟨b, off, rfl, hck⟩ := hcl2; have HM : Hid (ls.getD k 0 ∈ ls) := (by show _ ∈ _; simp [List.getD, hk]); generalize ls.getD k 0 = y at *; have HO := Lib.hid ho; clear ho hcl e' hx1 hx0)
  go_ret
  exact ⟨y, rfl, HM.out, HO.out⟩

end Go.Proofs.Ytbinpefogecgmaa
