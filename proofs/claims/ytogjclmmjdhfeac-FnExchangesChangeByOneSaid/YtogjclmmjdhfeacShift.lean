/- Lists with a number added to each; copies. -/
/- Two lists compared. -/
/- A number stored into a cell, as a law for the walk. -/
/- The laws' comparisons of lists. -/
import Derived.Test.YtogjclmmjdhfeacOwn
import Derived.Test.YtogjclmmjdhfeacGood
import Derived.Deep.MidRow
namespace Go.Proofs.Ytogjclmmjdhfeac
open Go.RowKit
set_option linter.unusedSimpArgs false
set_option linter.unusedVariables false

def shiftL (l : List Int) (b : Int) : List Int := l.map (· + b)
theorem shiftL_length (l : List Int) (b : Int) : (shiftL l b).length = l.length := by simp [shiftL]
theorem shift_snoc (l : List Int) (b : Int) (k : Nat) (h : k < l.length) : shiftL (l.take (k + 1)) b = shiftL (l.take k) b ++ [l.getD k 0 + b] := by
  unfold shiftL
  rw [List.take_succ_eq_append_getElem h, List.map_append]
  simp [List.getD, h]

/-- what an empty slice that is not nil owns -/
theorem Own.lit0 (B : Nat) (w : World) (hB : B ≤ w.heap.size) : Own B (w.alloc (.cells #[] 3)) (.slice (some ⟨w.heap.size, 0, none⟩) 0 0) [] :=
  World.ownsRow_lit w #[] 0 hB (by unfold maxLen; omega) rfl

set_option maxHeartbeats 1000000 in
theorem l1Own_any (v : Value) (l : List Int) (w : World) (h : Rd w v l) (hl : l.length ≤ 1000000) : Calls Try.prog 77 #[v] w (Made w l) := by
  have HR := Lib.hid h; have HL := Lib.hid hl; clear h hl
  go_enter Try.func77, Try.ntmps77
  go_wp2_with (at_builtin; refine wp_append _ rfl _ _ rfl w.heap.size _ v [] l rfl rfl (Own.lit0 _ _ (Nat.le_refl _)) (Rd.below HR.out (Below.alloc1 _ _)) (by have := HL.out; simp; omega) (by simp) ?_; intro v' w1 hown1 hgr hbel1)
  go_ret
  exact ⟨_, rfl, hown1, (Below.alloc1 _ _).trans hbel1⟩

end Go.Proofs.Ytogjclmmjdhfeac

namespace Go.Proofs.Ytogjclmmjdhfeac
open Go.RowKit
set_option linter.unusedSimpArgs false
set_option linter.unusedVariables false

theorem list_eq_of {a b : List Int} (hl : a.length = b.length) (h : allFrom (fun i => decide (a.getD i 0 = b.getD i 0)) 0 a.length = true) : a = b := by
  refine List.ext_getElem hl fun i h1 h2 => ?_
  have := (allFrom_iff _ _ _).1 h i (Nat.zero_le _) (by omega)
  simpa [List.getD, h1, h2] using this

def Tells0 (w : World) (b : Bool) (e : Ending) (w' : World) : Prop := e = .returned (.bool b) ∧ ∃ q, w' = w.drewN q
theorem Tells0.below {w : World} {b : Bool} {e : Ending} {w' : World} (h : Tells0 w b e w') : e = .returned (.bool b) ∧ Below w.heap.size w w' := by
  obtain ⟨h1, q, rfl⟩ := h
  exact ⟨h1, below_drewN (Below.refl _ _) q⟩

set_option maxHeartbeats 1000000 in
theorem l1Same_run (v1 v2 : Value) (l1 l2 : List Int) (R : Bool) (w : World) (h1 : Rd w v1 l1) (h2 : Rd w v2 l2) (hR : decide (l1 = l2) = R) :
    Calls Try.prog 97 #[v1, v2] w (Tells0 w R) := by
  obtain ⟨a1, c1, rfl, hlc1, hcm1, _, hrd1⟩ := h1
  obtain ⟨a2, c2, rfl, hlc2, hcm2, _, hrd2⟩ := h2
  unfold maxLen at hcm1 hcm2
  by_cases hlen : l1.length = l2.length
  · have hall : allFrom (fun i => decide (l1.getD i 0 = l2.getD i 0)) 0 l1.length = R := by
      rw [← hR, Bool.eq_iff_iff, decide_eq_true_iff]
      constructor
      · exact list_eq_of hlen
      · rintro rfl
        exact (allFrom_iff _ _ _).2 fun i _ _ => by simp
    obtain ⟨n, hn⟩ : ∃ n, n = l1.length := ⟨_, rfl⟩
    have hn2 : n = l2.length := by omega
    rw [← hn] at hrd1 hlc1 hall ⊢
    rw [← hn2] at hrd2 hlc2 ⊢
    have HN := Lib.hid hn; have HN2 := Lib.hid hn2
    have HR1 := Lib.hid hrd1; have HR2 := Lib.hid hrd2; have HA := Lib.hid hall
    clear hrd1 hrd2 hn hn2 hall hR hlen
    go_enter Try.func97, Try.ntmps97
    go_wp2
    go_loopw [13] (fun i wr => ∃ k q : Nat, k ≤ n ∧ i = .int .i64 k ∧ wr = w.drewN q ∧ Hid (allFrom (fun i => decide (l1.getD i 0 = l2.getD i 0)) k (n - k) = R)) (fun i _ => n - (intOf i).toNat)
    case atStart => exact ⟨0, 0, by omega, rfl, rfl, HA.out⟩
    case round =>
      obtain ⟨k, q, hk, rfl, rfl, HK⟩ := hrel
      clear HA
      by_cases hlt : k < n
      · rcases HR1.out with h0 | ⟨b1, off1, rfl, hcell1⟩
        · exfalso; rw [HN.out, h0] at hlt; simp at hlt
        rcases HR2.out with h0 | ⟨b2, off2, rfl, hcell2⟩
        · exfalso; rw [HN2.out, h0] at hlt; simp at hlt
        have hc1 := hcell1 k hlt
        have hc2 := hcell2 k hlt
        have hK := HK.out
        rw [show n - k = (n - (k + 1)) + 1 by omega] at hK
        clear hcell1 hcell2 HK
        by_cases he : l1.getD k 0 = l2.getD k 0
        · have HK := Lib.hid (allFrom_yes hK (decide_eq_true he)); clear hK
          rw [← he] at hc2
          generalize l1.getD k 0 = x at hc1 hc2
          clear he
          go_wp2
          go_quiet (fail)
          go_wp2
          go_roundw
          case rel => exact ⟨k + 1, _, by omega, by go_num, rfl, HK.out⟩
          case measure => simp [intOf]; omega
        · have HK := Lib.hid (allFrom_no hK (decide_eq_false he)); clear hK
          generalize l1.getD k 0 = x at hc1 he
          generalize l2.getD k 0 = y at hc2 he
          have hxy : (x != y) = true := by simpa using he
          clear he
          go_wp2
          go_quiet (fail)
          go_wp2
          go_ret
          exact ⟨by rw [HK.out]; rfl, _, World.drewN_drewN ..⟩
      · obtain rfl : k = n := by omega
        go_wp2
        go_ret
        have hK := HK.out
        rw [Nat.sub_self] at hK
        exact ⟨by rw [← hK]; rfl, _, rfl⟩
  · have hf : R = false := by rw [← hR, decide_eq_false_iff_not]; intro h; exact hlen (by rw [h])
    subst hf
    generalize l1.length = n1 at *
    generalize l2.length = n2 at *
    have hne : ((n1 : Int) != (n2 : Int)) = true := by simp; omega
    clear hrd1 hrd2 hlen hR
    go_enter Try.func97, Try.ntmps97
    go_wp2
    go_ret
    exact ⟨rfl, 0, rfl⟩

theorem l1Same_any (v1 v2 : Value) (l1 l2 : List Int) (w : World) (h1 : Rd w v1 l1) (h2 : Rd w v2 l2) :
    Calls Try.prog 97 #[v1, v2] w (Tells w (decide (l1 = l2))) :=
  (l1Same_run v1 v2 l1 l2 _ w h1 h2 rfl).mono fun _ _ h => h.below

end Go.Proofs.Ytogjclmmjdhfeac

namespace Go.Proofs.Ytogjclmmjdhfeac
open Go.RowKit
set_option linter.unusedSimpArgs false
set_option linter.unusedVariables false

theorem int_info : (Try.prog.info? 3).map (·.size) = some 1 := by kernel_rfl
theorem wp_storeI {ops : Array Oper} {rest : List Oper} {o : Oper} {a : Act} {w : World} {Q : Exit → Act → World → Prop} (hgd : o.guard = none) (x y : Operand) (ho : o.op = .store 3 x y)
    (g j : Nat) (z : Int) (old : Value) (hx : a.eval x = .pointer (some ⟨g, j, none⟩)) (hy : a.eval y = .int .i64 z) (hc : w.cell? ⟨g, j, none⟩ = some old) (hf : w.frozen? ⟨g, j, none⟩ = false)
    (h : wpList Try.prog ops Q rest (a.put o.dst undef) (w.setCell ⟨g, j, none⟩ (.int .i64 z))) : wpList Try.prog ops Q (o :: rest) a w := by
  refine wpList_plain hgd fun _ hK => ?_
  have hK' := hK _ _ h
  obtain ⟨i0, hi, hz0, hz1, hz2⟩ := info_parts Try.info3
  unfold Oper.wp execOp
  simp only [ho, hx, hy, Instr.storeAt, Instr.sureAddr, Sem.run_bind, Sem.run_pure, Result.andThen_ok]
  go_simp
  exact hK'

/-- a number stored into the call's own slice -/
theorem wp_storeOwn {ops : Array Oper} {rest : List Oper} {o : Oper} {a : Act} {w : World} {Q : Exit → Act → World → Prop} (hgd : o.guard = none) (x y : Operand) (ho : o.op = .store 3 x y)
    (B g j n cc : Nat) (l : List Int) (z : Int) (hx : a.eval x = .pointer (some ⟨g, j, none⟩)) (hy : a.eval y = .int .i64 z) (hown : Own B w (.slice (some ⟨g, 0, none⟩) n cc) l) (hj : j < l.length)
    (h : ∀ w', Own B w' (.slice (some ⟨g, 0, none⟩) n cc) (l.set j z) → w.grownBy w' (some g) → wpList Try.prog ops Q rest (a.put o.dst undef) w') : wpList Try.prog ops Q (o :: rest) a w :=
  wp_storeI hgd x y ho g j z _ hx hy (hown.cellAt j hj) (hown.frozenAt j) (h _ (hown.stored j z) ⟨rfl, rfl, rfl, by simp, fun k _ hk => heap_setCell_other w ⟨g, j, none⟩ k _ (fun e => hk (by simp [e]))⟩)

end Go.Proofs.Ytogjclmmjdhfeac

namespace Go.Proofs.Ytogjclmmjdhfeac
open Go.RowKit
set_option linter.unusedSimpArgs false
set_option linter.unusedVariables false

set_option maxHeartbeats 1000000 in
theorem sSame_run (v1 v2 : Value) (l1 l2 : List Int) (R : Bool) (w : World) (h1 : Rd w v1 l1) (h2 : Rd w v2 l2) (hR : decide (l1 = l2) = R) :
    Calls Try.prog 20 #[v1, v2] w (Tells0 w R) := by
  obtain ⟨a1, c1, rfl, hlc1, hcm1, _, hrd1⟩ := h1
  obtain ⟨a2, c2, rfl, hlc2, hcm2, _, hrd2⟩ := h2
  unfold maxLen at hcm1 hcm2
  by_cases hlen : l1.length = l2.length
  · have hall : allFrom (fun i => decide (l1.getD i 0 = l2.getD i 0)) 0 l1.length = R := by
      rw [← hR, Bool.eq_iff_iff, decide_eq_true_iff]
      constructor
      · exact list_eq_of hlen
      · rintro rfl
        exact (allFrom_iff _ _ _).2 fun i _ _ => by simp
    obtain ⟨n, hn⟩ : ∃ n, n = l1.length := ⟨_, rfl⟩
    have hn2 : n = l2.length := by omega
    rw [← hn] at hrd1 hlc1 hall ⊢
    rw [← hn2] at hrd2 hlc2 ⊢
    have HN := Lib.hid hn; have HN2 := Lib.hid hn2
    have HR1 := Lib.hid hrd1; have HR2 := Lib.hid hrd2; have HA := Lib.hid hall
    clear hrd1 hrd2 hn hn2 hall hR hlen
    go_enter Try.func20, Try.ntmps20
    go_wp2
    go_loopw [13] (fun i wr => ∃ k q : Nat, k ≤ n ∧ i = .int .i64 k ∧ wr = w.drewN q ∧ Hid (allFrom (fun i => decide (l1.getD i 0 = l2.getD i 0)) k (n - k) = R)) (fun i _ => n - (intOf i).toNat)
    case atStart => exact ⟨0, 0, by omega, rfl, rfl, HA.out⟩
    case round =>
      obtain ⟨k, q, hk, rfl, rfl, HK⟩ := hrel
      clear HA
      by_cases hlt : k < n
      · rcases HR1.out with h0 | ⟨b1, off1, rfl, hcell1⟩
        · exfalso; rw [HN.out, h0] at hlt; simp at hlt
        rcases HR2.out with h0 | ⟨b2, off2, rfl, hcell2⟩
        · exfalso; rw [HN2.out, h0] at hlt; simp at hlt
        have hc1 := hcell1 k hlt
        have hc2 := hcell2 k hlt
        have hK := HK.out
        rw [show n - k = (n - (k + 1)) + 1 by omega] at hK
        clear hcell1 hcell2 HK
        by_cases he : l1.getD k 0 = l2.getD k 0
        · have HK := Lib.hid (allFrom_yes hK (decide_eq_true he)); clear hK
          rw [← he] at hc2
          generalize l1.getD k 0 = x at hc1 hc2
          clear he
          go_wp2
          go_quiet (fail)
          go_wp2
          go_roundw
          case rel => exact ⟨k + 1, _, by omega, by go_num, rfl, HK.out⟩
          case measure => simp [intOf]; omega
        · have HK := Lib.hid (allFrom_no hK (decide_eq_false he)); clear hK
          generalize l1.getD k 0 = x at hc1 he
          generalize l2.getD k 0 = y at hc2 he
          have hxy : (x != y) = true := by simpa using he
          clear he
          go_wp2
          go_quiet (fail)
          go_wp2
          go_ret
          exact ⟨by rw [HK.out]; rfl, _, World.drewN_drewN ..⟩
      · obtain rfl : k = n := by omega
        go_wp2
        go_ret
        have hK := HK.out
        rw [Nat.sub_self] at hK
        exact ⟨by rw [← hK]; rfl, _, rfl⟩
  · have hf : R = false := by rw [← hR, decide_eq_false_iff_not]; intro h; exact hlen (by rw [h])
    subst hf
    generalize l1.length = n1 at *
    generalize l2.length = n2 at *
    have hne : ((n1 : Int) != (n2 : Int)) = true := by simp; omega
    clear hrd1 hrd2 hlen hR
    go_enter Try.func20, Try.ntmps20
    go_wp2
    go_ret
    exact ⟨rfl, 0, rfl⟩
theorem sSame_yes (v1 v2 : Value) (l1 l2 : List Int) (w : World) (h1 : Rd w v1 l1) (h2 : Rd w v2 l2) (h : l1 = l2) :
    Calls Try.prog 20 #[v1, v2] w (Tells w true) :=
  (sSame_run v1 v2 l1 l2 true w h1 h2 (decide_eq_true h)).mono fun _ _ h => h.below

end Go.Proofs.Ytogjclmmjdhfeac
