/- MeanderText: the program's function and the model's. -/
import Derived.Test.YtbinpefogecgmabReadPair
import Derived.Test.YtbinpefogecgmabText
namespace Go.Proofs.Ytbinpefogecgmab
open Go.RowKit
set_option linter.unusedSimpArgs false
set_option linter.unusedVariables false

def pairT (t b : List Int) : ByteArray := textT t t.length ++ ⟨#[124]⟩ ++ textT b b.length
def ok_MeanderText (t b : List Int) : Bool := pairOk t b
def res_MeanderText (t b : List Int) : ByteArray := if pairOk t b then pairT t b else ByteArray.empty

set_option maxHeartbeats 1000000 in
theorem meText_any (t b : List Int) (w : World) (u1 u2 : Value) (h1 : Rd w u1 t) (h2 : Rd w u2 b) (l1 : t.length ≤ 12) (l2 : b.length ≤ 12) :
    Calls Try.prog 73 #[.agg #[u1, u2]] w fun e w' => e = .returned (.string (pairT t b)) ∧ Below w.heap.size w w' := by
  have hA := Box2.new 26 w u1 u2
  have B1 : Below w.heap.size w (w.alloc (.cells #[u1, u2] 26)) := Below.alloc1 w _
  have k0 := hA.c0; have k1 := hA.c1
  have c1 : ∀ n, Calls Try.prog 121 #[u1] ((w.alloc (.cells #[u1, u2] 26)).drewN n) fun e w' => e = .returned (.string (textT t t.length)) ∧ w' = (w.alloc (.cells #[u1, u2] 26)).drewN n :=
    fun n => (ahText_any u1 t _ (Rd.drewN (h1.below B1) n) l1).mono fun _ _ h => ⟨h.1, h.2.symm⟩
  have c2 : ∀ n, Calls Try.prog 121 #[u2] ((w.alloc (.cells #[u1, u2] 26)).drewN n) fun e w' => e = .returned (.string (textT b b.length)) ∧ w' = (w.alloc (.cells #[u1, u2] 26)).drewN n :=
    fun n => (ahText_any u2 b _ (Rd.drewN (h2.below B1) n) l2).mono fun _ _ h => ⟨h.1, h.2.symm⟩
  have s1 := textT_size t t.length
  have s2 := textT_size b b.length
  unfold pairT
  generalize textT t t.length = T at c1 s1 ⊢
  generalize textT b b.length = B at c2 s2 ⊢
  have z1 : T.size ≤ 12 := by omega
  have z2 : B.size ≤ 12 := by omega
  have C1 := Lib.hid c1; have C2 := Lib.hid c2; have HB := Lib.hid B1
  clear c1 c2 hA B1 h1 h2 s1 s2 l1 l2
  go_enter Try.func73, Try.ntmps73
  go_wp2_with fail
  go_quiet ((first | (go_at_call 121; with_reducible exact Calls.quiet_of_same (C1.out _)) | (go_at_call 121; with_reducible exact Calls.quiet_of_same (C2.out _))))
  go_wp2
  go_ret
  exact ⟨rfl, Below.drewN HB.out _⟩

theorem spec_MeanderText (t b : List Int) (w : World) (u1 u2 : Value) (h1 : Rd w u1 t) (h2 : Rd w u2 b) (m1 : t.length ≤ 1048576) (m2 : b.length ≤ 1048576) :
    Calls Try.prog 25 #[.agg #[u1, u2]] w (GivesT w (res_MeanderText t b) (ok_MeanderText t b)) := by
  unfold res_MeanderText ok_MeanderText
  have hA := Box2.new 26 w u1 u2
  have B1 : Below w.heap.size w (w.alloc (.cells #[u1, u2] 26)) := Below.alloc1 w _
  have k0 := hA.c0; have k1 := hA.c1
  have hrd := mePair_any t b _ u1 u2 (h1.below B1) (h2.below B1) m1 m2
  have HB := Lib.hid B1; have HA := Lib.hid hA; have H1 := Lib.hid (h1.below B1); have H2 := Lib.hid (h2.below B1)
  clear hA B1 h1 h2
  cases e1 : pairOk t b with
  | false =>
    rw [e1] at hrd
    have HR := Lib.hid hrd; clear hrd e1
    go_enter Try.func25, Try.ntmps25
    go_wp2_with fail
    refine HR.out.mono ?_
    rintro e w1 ⟨rfl, hb1⟩
    go_wp2
    go_ret2
    exact ⟨rfl, Below.step HB.out hb1⟩
  | true =>
    rw [e1] at hrd
    obtain ⟨g1, g2, _⟩ := pairOk_facts e1
    have HT := Lib.hid (fun w h1 h2 => meText_any t b w u1 u2 h1 h2 (good_len' g1) (good_len' g2))
    have HR := Lib.hid hrd; clear hrd e1 g1 g2
    simp only [if_true]
    go_enter Try.func25, Try.ntmps25
    go_wp2_with fail
    refine HR.out.mono ?_
    rintro e w1 ⟨rfl, hb1⟩
    have m0 := (HA.out.below hb1).c0; have m1 := (HA.out.below hb1).c1
    have H11 := Lib.hid (H1.out.below hb1); have H21 := Lib.hid (H2.out.below hb1); have HB1 := Lib.hid (Below.step HB.out hb1)
    clear hb1
    go_wp2_with fail
    refine (HT.out _ H11.out H21.out).mono ?_
    rintro e w2 ⟨rfl, hb2⟩
    go_wp2
    go_ret2
    exact ⟨rfl, Below.step HB1.out hb2⟩

set_option maxHeartbeats 1000000 in
theorem impl_MeanderText (t b : List Int) (w : World) (u1 u2 : Value) (h1 : Rd w u1 t) (h2 : Rd w u2 b) (m1 : t.length ≤ 1048576) (m2 : b.length ≤ 1048576) :
    Calls Try.prog 23 #[.agg #[u1, u2]] w (GivesT w (res_MeanderText t b) (ok_MeanderText t b)) := by
  unfold res_MeanderText ok_MeanderText
  have hA := Box2.new 26 w u1 u2
  have B1 : Below w.heap.size w (w.alloc (.cells #[u1, u2] 26)) := Below.alloc1 w _
  have k0 := hA.c0; have k1 := hA.c1
  have hrd := impl_IsPair t b _ u1 u2 (h1.below B1) (h2.below B1) m1 m2
  unfold ok_IsPair at hrd
  have HB := Lib.hid B1; have HA := Lib.hid hA; have H1 := Lib.hid (h1.below B1); have H2 := Lib.hid (h2.below B1)
  clear hA B1 h1 h2
  cases e1 : pairOk t b with
  | false =>
    rw [e1] at hrd
    have HR := Lib.hid hrd; clear hrd e1
    go_enter Try.func23, Try.ntmps23
    go_wp2_with fail
    refine HR.out.mono ?_
    rintro e w1 ⟨rfl, hb1⟩
    go_wp2
    go_ret2
    exact ⟨rfl, Below.step HB.out hb1⟩
  | true =>
    rw [e1] at hrd
    obtain ⟨g1, g2, _⟩ := pairOk_facts e1
    have hs1 := fun w h => impl_SystemText t w u1 h m1
    have hs2 := fun w h => impl_SystemText b w u2 h m2
    unfold res_SystemText ok_SystemText at hs1 hs2
    simp only [g1, if_true] at hs1
    simp only [g2, if_true] at hs2
    have l1 := good_len' g1
    have l2 := good_len' g2
    have s1 := textT_size t t.length
    have s2 := textT_size b b.length
    simp only [if_true]
    unfold pairT
    generalize textT t t.length = T at hs1 s1 ⊢
    generalize textT b b.length = B at hs2 s2 ⊢
    have z1 : T.size ≤ 12 := by omega
    have z2 : B.size ≤ 12 := by omega
    have HS1 := Lib.hid hs1; have HS2 := Lib.hid hs2
    have HR := Lib.hid hrd; clear hrd e1 g1 g2 hs1 hs2 s1 s2 l1 l2
    go_enter Try.func23, Try.ntmps23
    go_wp2_with fail
    refine HR.out.mono ?_
    rintro e w1 ⟨rfl, hb1⟩
    have m0 := (HA.out.below hb1).c0; have m1 := (HA.out.below hb1).c1
    have HA1 := Lib.hid (HA.out.below hb1); have H11 := Lib.hid (H1.out.below hb1); have H21 := Lib.hid (H2.out.below hb1); have HB1 := Lib.hid (Below.step HB.out hb1)
    clear hb1
    go_wp2_with fail
    refine (HS1.out _ H11.out).mono ?_
    rintro e w2 ⟨rfl, hb2⟩
    have r1 := (HA1.out.below hb2).c1
    have H22 := Lib.hid (H21.out.below hb2); have HB2 := Lib.hid (Below.step HB1.out hb2)
    clear hb2
    go_wp2_with fail
    refine (HS2.out _ H22.out).mono ?_
    rintro e w3 ⟨rfl, hb3⟩
    go_wp2
    go_ret2
    exact ⟨rfl, Below.step HB2.out hb3⟩

end Go.Proofs.Ytbinpefogecgmab
