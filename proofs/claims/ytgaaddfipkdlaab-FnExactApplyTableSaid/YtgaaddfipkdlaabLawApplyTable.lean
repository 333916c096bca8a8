/-
  FnExactApplyTable answers true at every input that can be read, and writes into nothing that was there before the call: the program's function answers as the model's does, writes into no argument, and its answer owns its memory.
  Conditions: none but the row's own.
-/
import Derived.Test.YtgaaddfipkdlaabRows
import Derived.ProofKit
import Derived.OpenShut
import Derived.ShutString
import Derived.ChangeOld
import Derived.Below
import Derived.Test.YtgaaddfipkdlaabSlice
import Derived.Test.YtgaaddfipkdlaabRdLL
import Derived.Test.YtgaaddfipkdlaabApplyM
namespace Go.Proofs.Ytgaaddfipkdlaab
open Go.RowKit
set_option linter.unusedSimpArgs false
set_option linter.unusedVariables false

set_option maxHeartbeats 4000000 in
theorem core_ApplyTable (a0 : Option Addr) (n0 c0 : Nat) (rv0 : Nat → Value) (l0 : List (List Int)) (a1 : Option Addr) (n1 c1 : Nat) (l1 : List Int) (r : List Int) (ok : Bool) (w : World) (h0 : RdLL w (.slice a0 n0 c0) rv0 l0) (h1 : Rd w (.slice a1 n1 c1) l1) (m1 : n1 ≤ 1048576) (hs : ∀ (w : World) (u0 u1 : Value),OwnsLL w u0 l0 → Rd w u1 l1 → Calls Try.prog 22 #[u0, u1] w (Gives w r ok)) (hi : ∀ (w : World) (u0 u1 : Value),OwnsLL w u0 l0 → Rd w u1 l1 → Calls Try.prog 25 #[u0, u1] w (Gives w r ok)) (hr : r.length ≤ 1000000) :
    Calls Try.prog 6 #[.slice a0 n0 c0, .slice a1 n1 c1] w (Good w) := by
  have HS := Lib.hid hs; clear hs
  have HI := Lib.hid hi; clear hi
  have q1 : l1.length = n1 := by obtain ⟨_, _, hv, _⟩ := h1; simp at hv; exact hv.2.1.symm
  have Q1 := Lib.hid q1; have M1 : Hid (l1.length ≤ 1048576) := by rw [q1]; exact m1
  clear q1
  have HR := Lib.hid hr; clear hr
  go_enter Try.func6, Try.ntmps6
  go_wp2_with fail
  refine (szIntSS_any _ rv0 l0 _ h0 1048576 (by omega) (by omega)).mono ?_
  rintro e w' ⟨z0, rfl, rfl, hz0⟩
  rcases hz0 with hz0 | ⟨hz0, ht0⟩
  · go_wp2
    go_ret
    exact ⟨rfl, Below.refl _ _⟩
  have T0 : Hid (l0.length + tot l0 ≤ 1048576) := by show _ ≤ _; omega
  clear ht0
  go_wp2_with fail
  refine (toIntSS_ok _ rv0 l0 _ h0 T0.out).mono ?_
  rintro e w1 ⟨u0, u0r, rfl, ou0, hb⟩
  have C : Below w.heap.size w w1 := hb
  have Z1 := Lib.hid (Below.size hb); clear hb
  go_wp2_with fail
  refine (toIntS_ok _ l1 _ (Rd.below h1 C) M1.out).mono ?_
  rintro e w2 ⟨u1, rfl, ou1, hb⟩
  replace C := Below.step C hb
  replace ou0 := OwnLL.below ou0 hb
  have Z2 := Lib.hid (Below.size hb); clear hb
  have Iu1 := Lib.hid (Own.inn ou1)
  go_wp2_with fail
  refine (HS.out _ u0 u1 ⟨_, _, _, ou0⟩ (Own.rd ou1)).mono ?_
  rintro e w3 ⟨vs, rfl, ovs, hb⟩
  replace C := Below.step C hb
  replace ou0 := OwnLL.below ou0 hb
  replace ou1 := Own.below ou1 hb
  have Z3 := Lib.hid (Below.size hb); clear hb
  have Ivs := Lib.hid (Own.inn ovs)
  go_wp2_with fail
  refine (toIntSS_ok _ rv0 l0 _ (RdLL.below h0 C) T0.out).mono ?_
  rintro e w4 ⟨x0s, x0sr, rfl, ox0s, hb⟩
  replace C := Below.step C hb
  replace ou0 := OwnLL.below ou0 hb
  replace ou1 := Own.below ou1 hb
  replace ovs := Own.below ovs hb
  have Z4 := Lib.hid (Below.size hb); clear hb
  go_wp2_with fail
  refine (toIntS_ok _ l1 _ (Rd.below h1 C) M1.out).mono ?_
  rintro e w5 ⟨x1s, rfl, ox1s, hb⟩
  replace C := Below.step C hb
  replace ou0 := OwnLL.below ou0 hb
  replace ou1 := Own.below ou1 hb
  replace ovs := Own.below ovs hb
  replace ox0s := OwnLL.below ox0s hb
  have Z5 := Lib.hid (Below.size hb); clear hb
  have Ix1s := Lib.hid (Own.inn ox1s)
  go_wp2_with fail
  refine (HI.out _ x0s x1s ⟨_, _, _, ox0s⟩ (Own.rd ox1s)).mono ?_
  rintro e w6 ⟨vg, rfl, ovg, hb⟩
  replace C := Below.step C hb
  replace ou0 := OwnLL.below ou0 hb
  replace ou1 := Own.below ou1 hb
  replace ovs := Own.below ovs hb
  replace ox0s := OwnLL.below ox0s hb
  replace ox1s := Own.below ox1s hb
  have Z6 := Lib.hid (Below.size hb); clear hb
  have Ivg := Lib.hid (Own.inn ovg)
  go_wp2_with fail
  refine (eqIntS_ok _ _ r _ (Own.rd ovg) (Own.rd ovs)).mono ?_
  rintro e w7 ⟨rfl, hb⟩
  replace C := Below.step C hb
  replace ou0 := OwnLL.below ou0 hb
  replace ou1 := Own.below ou1 hb
  replace ovs := Own.below ovs hb
  replace ox0s := OwnLL.below ox0s hb
  replace ox1s := Own.below ox1s hb
  replace ovg := Own.below ovg hb
  have Z7 := Lib.hid (Below.size hb); clear hb
  go_wp2_with fail
  refine (toIntSS_ok _ rv0 l0 _ (RdLL.below h0 C) T0.out).mono ?_
  rintro e w8 ⟨y0, y0r, rfl, oy0, hb⟩
  replace C := Below.step C hb
  replace ou0 := OwnLL.below ou0 hb
  replace ou1 := Own.below ou1 hb
  replace ovs := Own.below ovs hb
  replace ox0s := OwnLL.below ox0s hb
  replace ox1s := Own.below ox1s hb
  replace ovg := Own.below ovg hb
  have Z8 := Lib.hid (Below.size hb); clear hb
  go_wp2_with fail
  refine (eqIntSS_ok _ _ _ _ _ _ _ _ l0 _ ox0s oy0).mono ?_
  rintro e w9 ⟨rfl, hb⟩
  replace C := Below.step C hb
  replace ou0 := OwnLL.below ou0 hb
  replace ou1 := Own.below ou1 hb
  replace ovs := Own.below ovs hb
  replace ox0s := OwnLL.below ox0s hb
  replace ox1s := Own.below ox1s hb
  replace ovg := Own.below ovg hb
  replace oy0 := OwnLL.below oy0 hb
  have Z9 := Lib.hid (Below.size hb); clear hb
  go_wp2_with fail
  refine (toIntS_ok _ l1 _ (Rd.below h1 C) M1.out).mono ?_
  rintro e w10 ⟨y1, rfl, oy1, hb⟩
  replace C := Below.step C hb
  replace ou0 := OwnLL.below ou0 hb
  replace ou1 := Own.below ou1 hb
  replace ovs := Own.below ovs hb
  replace ox0s := OwnLL.below ox0s hb
  replace ox1s := Own.below ox1s hb
  replace ovg := Own.below ovg hb
  replace oy0 := OwnLL.below oy0 hb
  have Z10 := Lib.hid (Below.size hb); clear hb
  have Iy1 := Lib.hid (Own.inn oy1)
  go_wp2_with fail
  refine (eqIntS_ok _ _ l1 _ (Own.rd ox1s) (Own.rd oy1)).mono ?_
  rintro e w11 ⟨rfl, hb⟩
  replace C := Below.step C hb
  replace ou0 := OwnLL.below ou0 hb
  replace ou1 := Own.below ou1 hb
  replace ovs := Own.below ovs hb
  replace ox0s := OwnLL.below ox0s hb
  replace ox1s := Own.below ox1s hb
  replace ovg := Own.below ovg hb
  replace oy0 := OwnLL.below oy0 hb
  replace oy1 := Own.below oy1 hb
  have Z11 := Lib.hid (Below.size hb); clear hb
  go_wp2_with fail
  refine (markIntSS_any w3.heap.size w4.heap.size x0s _ l0 1 w11 ox0s (by omega) (by have := T0.out; omega) (fun i hi => by have := tot_each (ls := l0) i hi; have := T0.out; omega)).mono ?_
  rintro e w12 ⟨rfl, ho, hg⟩
  replace C := Within.below C hg (by have := Z1.out; have := Z2.out; have := Z3.out; have := Z4.out; have := Z5.out; have := Z6.out; have := Z7.out; have := Z8.out; have := Z9.out; have := Z10.out; have := Z11.out; omega) (by have := Z1.out; have := Z2.out; have := Z3.out; have := Z4.out; have := Z5.out; have := Z6.out; have := Z7.out; have := Z8.out; have := Z9.out; have := Z10.out; have := Z11.out; omega)
  replace ou0 := OwnLL.within ou0 hg (by have := Z1.out; have := Z2.out; have := Z3.out; have := Z4.out; have := Z5.out; have := Z6.out; have := Z7.out; have := Z8.out; have := Z9.out; have := Z10.out; have := Z11.out; omega)
  replace ou1 := Own.within ou1 hg Iu1.out (by have := Z1.out; have := Z2.out; have := Z3.out; have := Z4.out; have := Z5.out; have := Z6.out; have := Z7.out; have := Z8.out; have := Z9.out; have := Z10.out; have := Z11.out; omega)
  replace ovs := Own.within ovs hg Ivs.out (by have := Z1.out; have := Z2.out; have := Z3.out; have := Z4.out; have := Z5.out; have := Z6.out; have := Z7.out; have := Z8.out; have := Z9.out; have := Z10.out; have := Z11.out; omega)
  replace ox1s := Own.within ox1s hg Ix1s.out (by have := Z1.out; have := Z2.out; have := Z3.out; have := Z4.out; have := Z5.out; have := Z6.out; have := Z7.out; have := Z8.out; have := Z9.out; have := Z10.out; have := Z11.out; omega)
  replace ovg := Own.within ovg hg Ivg.out (by have := Z1.out; have := Z2.out; have := Z3.out; have := Z4.out; have := Z5.out; have := Z6.out; have := Z7.out; have := Z8.out; have := Z9.out; have := Z10.out; have := Z11.out; omega)
  replace oy0 := OwnLL.within oy0 hg (by have := Z1.out; have := Z2.out; have := Z3.out; have := Z4.out; have := Z5.out; have := Z6.out; have := Z7.out; have := Z8.out; have := Z9.out; have := Z10.out; have := Z11.out; omega)
  replace oy1 := Own.within oy1 hg Iy1.out (by have := Z1.out; have := Z2.out; have := Z3.out; have := Z4.out; have := Z5.out; have := Z6.out; have := Z7.out; have := Z8.out; have := Z9.out; have := Z10.out; have := Z11.out; omega)
  have Z12 := Lib.hid hg.size; clear hg
  replace ox0s := ho; clear ho
  go_wp2_with fail
  refine (markIntS_any w4.heap.size x1s l1 (1 + (tot l0 : Int)) w12 ox1s (by have := M1.out; have := T0.out; omega) (by have := M1.out; have := T0.out; omega) (by have := M1.out; omega)).mono ?_
  rintro e w13 ⟨rfl, ho, hg⟩
  replace C := Below.mark C hg Ix1s.out (by have := Z1.out; have := Z2.out; have := Z3.out; have := Z4.out; have := Z5.out; have := Z6.out; have := Z7.out; have := Z8.out; have := Z9.out; have := Z10.out; have := Z11.out; have := Z12.out; omega)
  replace ou0 := OwnLL.grown ou0 hg (fun k hk => by have := Ix1s.out k hk; have := Z1.out; have := Z2.out; have := Z3.out; have := Z4.out; have := Z5.out; have := Z6.out; have := Z7.out; have := Z8.out; have := Z9.out; have := Z10.out; have := Z11.out; have := Z12.out; omega)
  replace ou1 := Own.grown ou1 hg (In.apart Iu1.out Ix1s.out (by have := Z1.out; have := Z2.out; have := Z3.out; have := Z4.out; have := Z5.out; have := Z6.out; have := Z7.out; have := Z8.out; have := Z9.out; have := Z10.out; have := Z11.out; have := Z12.out; omega))
  replace ovs := Own.grown ovs hg (In.apart Ivs.out Ix1s.out (by have := Z1.out; have := Z2.out; have := Z3.out; have := Z4.out; have := Z5.out; have := Z6.out; have := Z7.out; have := Z8.out; have := Z9.out; have := Z10.out; have := Z11.out; have := Z12.out; omega))
  replace ox0s := OwnLL.grown ox0s hg (fun k hk => by have := Ix1s.out k hk; have := Z1.out; have := Z2.out; have := Z3.out; have := Z4.out; have := Z5.out; have := Z6.out; have := Z7.out; have := Z8.out; have := Z9.out; have := Z10.out; have := Z11.out; have := Z12.out; omega)
  replace ovg := Own.grown ovg hg (In.apart Ivg.out Ix1s.out (by have := Z1.out; have := Z2.out; have := Z3.out; have := Z4.out; have := Z5.out; have := Z6.out; have := Z7.out; have := Z8.out; have := Z9.out; have := Z10.out; have := Z11.out; have := Z12.out; omega))
  replace oy0 := OwnLL.grown oy0 hg (fun k hk => by have := Ix1s.out k hk; have := Z1.out; have := Z2.out; have := Z3.out; have := Z4.out; have := Z5.out; have := Z6.out; have := Z7.out; have := Z8.out; have := Z9.out; have := Z10.out; have := Z11.out; have := Z12.out; omega)
  replace oy1 := Own.grown oy1 hg (In.apart Iy1.out Ix1s.out (by have := Z1.out; have := Z2.out; have := Z3.out; have := Z4.out; have := Z5.out; have := Z6.out; have := Z7.out; have := Z8.out; have := Z9.out; have := Z10.out; have := Z11.out; have := Z12.out; omega))
  have Z13 := Lib.hid hg.size; clear hg
  replace ox1s := ho; clear ho
  go_wp2_with fail
  refine (eqIntS_ok _ _ r _ (Own.rd ovg) (Own.rd ovs)).mono ?_
  rintro e w14 ⟨rfl, hb⟩
  replace C := Below.step C hb
  replace ou0 := OwnLL.below ou0 hb
  replace ou1 := Own.below ou1 hb
  replace ovs := Own.below ovs hb
  replace ox0s := OwnLL.below ox0s hb
  replace ox1s := Own.below ox1s hb
  replace ovg := Own.below ovg hb
  replace oy0 := OwnLL.below oy0 hb
  replace oy1 := Own.below oy1 hb
  have Z14 := Lib.hid (Below.size hb); clear hb
  go_wp2_with fail
  refine (markIntS_any w5.heap.size vg r 1 w14 ovg (by omega) (by omega) (by have := HR.out; omega)).mono ?_
  rintro e w15 ⟨rfl, ho, hg⟩
  replace C := Below.mark C hg Ivg.out (by have := Z1.out; have := Z2.out; have := Z3.out; have := Z4.out; have := Z5.out; have := Z6.out; have := Z7.out; have := Z8.out; have := Z9.out; have := Z10.out; have := Z11.out; have := Z12.out; have := Z13.out; have := Z14.out; omega)
  replace ou0 := OwnLL.grown ou0 hg (fun k hk => by have := Ivg.out k hk; have := Z1.out; have := Z2.out; have := Z3.out; have := Z4.out; have := Z5.out; have := Z6.out; have := Z7.out; have := Z8.out; have := Z9.out; have := Z10.out; have := Z11.out; have := Z12.out; have := Z13.out; have := Z14.out; omega)
  replace ou1 := Own.grown ou1 hg (In.apart Iu1.out Ivg.out (by have := Z1.out; have := Z2.out; have := Z3.out; have := Z4.out; have := Z5.out; have := Z6.out; have := Z7.out; have := Z8.out; have := Z9.out; have := Z10.out; have := Z11.out; have := Z12.out; have := Z13.out; have := Z14.out; omega))
  replace ovs := Own.grown ovs hg (In.apart Ivs.out Ivg.out (by have := Z1.out; have := Z2.out; have := Z3.out; have := Z4.out; have := Z5.out; have := Z6.out; have := Z7.out; have := Z8.out; have := Z9.out; have := Z10.out; have := Z11.out; have := Z12.out; have := Z13.out; have := Z14.out; omega))
  replace ox0s := OwnLL.grown ox0s hg (fun k hk => by have := Ivg.out k hk; have := Z1.out; have := Z2.out; have := Z3.out; have := Z4.out; have := Z5.out; have := Z6.out; have := Z7.out; have := Z8.out; have := Z9.out; have := Z10.out; have := Z11.out; have := Z12.out; have := Z13.out; have := Z14.out; omega)
  replace ox1s := Own.grown ox1s hg (In.apart Ix1s.out Ivg.out (by have := Z1.out; have := Z2.out; have := Z3.out; have := Z4.out; have := Z5.out; have := Z6.out; have := Z7.out; have := Z8.out; have := Z9.out; have := Z10.out; have := Z11.out; have := Z12.out; have := Z13.out; have := Z14.out; omega))
  replace oy0 := OwnLL.grown oy0 hg (fun k hk => by have := Ivg.out k hk; have := Z1.out; have := Z2.out; have := Z3.out; have := Z4.out; have := Z5.out; have := Z6.out; have := Z7.out; have := Z8.out; have := Z9.out; have := Z10.out; have := Z11.out; have := Z12.out; have := Z13.out; have := Z14.out; omega)
  replace oy1 := Own.grown oy1 hg (In.apart Iy1.out Ivg.out (by have := Z1.out; have := Z2.out; have := Z3.out; have := Z4.out; have := Z5.out; have := Z6.out; have := Z7.out; have := Z8.out; have := Z9.out; have := Z10.out; have := Z11.out; have := Z12.out; have := Z13.out; have := Z14.out; omega))
  have Z15 := Lib.hid hg.size; clear hg
  replace ovg := ho; clear ho
  go_wp2_with fail
  refine (heldIntS_ok _ 1 r.length _ (Own.rd ovg) (by omega) (by omega) (by have := HR.out; omega)).mono ?_
  rintro e w16 ⟨rfl, hb⟩
  replace C := Below.step C hb
  replace ou0 := OwnLL.below ou0 hb
  replace ou1 := Own.below ou1 hb
  replace ovs := Own.below ovs hb
  replace ox0s := OwnLL.below ox0s hb
  replace ox1s := Own.below ox1s hb
  replace ovg := Own.below ovg hb
  replace oy0 := OwnLL.below oy0 hb
  replace oy1 := Own.below oy1 hb
  have Z16 := Lib.hid (Below.size hb); clear hb
  go_wp2_with fail
  refine (toIntSS_ok _ rv0 l0 _ (RdLL.below h0 C) T0.out).mono ?_
  rintro e w17 ⟨z0, z0r, rfl, oz0, hb⟩
  replace C := Below.step C hb
  replace ou0 := OwnLL.below ou0 hb
  replace ou1 := Own.below ou1 hb
  replace ovs := Own.below ovs hb
  replace ox0s := OwnLL.below ox0s hb
  replace ox1s := Own.below ox1s hb
  replace ovg := Own.below ovg hb
  replace oy0 := OwnLL.below oy0 hb
  replace oy1 := Own.below oy1 hb
  have Z17 := Lib.hid (Below.size hb); clear hb
  go_wp2_with fail
  refine (toIntS_ok _ l1 _ (Rd.below h1 C) M1.out).mono ?_
  rintro e w18 ⟨z1, rfl, oz1, hb⟩
  replace C := Below.step C hb
  replace ou0 := OwnLL.below ou0 hb
  replace ou1 := Own.below ou1 hb
  replace ovs := Own.below ovs hb
  replace ox0s := OwnLL.below ox0s hb
  replace ox1s := Own.below ox1s hb
  replace ovg := Own.below ovg hb
  replace oy0 := OwnLL.below oy0 hb
  replace oy1 := Own.below oy1 hb
  replace oz0 := OwnLL.below oz0 hb
  have Z18 := Lib.hid (Below.size hb); clear hb
  have Iz1 := Lib.hid (Own.inn oz1)
  go_wp2_with fail
  refine (HI.out _ z0 z1 ⟨_, _, _, oz0⟩ (Own.rd oz1)).mono ?_
  rintro e w19 ⟨vh, rfl, ovh, hb⟩
  replace C := Below.step C hb
  replace ou0 := OwnLL.below ou0 hb
  replace ou1 := Own.below ou1 hb
  replace ovs := Own.below ovs hb
  replace ox0s := OwnLL.below ox0s hb
  replace ox1s := Own.below ox1s hb
  replace oy0 := OwnLL.below oy0 hb
  replace oy1 := Own.below oy1 hb
  replace oz0 := OwnLL.below oz0 hb
  replace oz1 := Own.below oz1 hb
  replace ovg := Own.below ovg hb
  have Z19 := Lib.hid (Below.size hb); clear hb
  have Ivh := Lib.hid (Own.inn ovh)
  go_wp2_with fail
  refine (eqIntS_ok _ _ r _ (Own.rd ovh) (Own.rd ovs)).mono ?_
  rintro e w20 ⟨rfl, hb⟩
  replace C := Below.step C hb
  replace ou0 := OwnLL.below ou0 hb
  replace ou1 := Own.below ou1 hb
  replace ovs := Own.below ovs hb
  replace ox0s := OwnLL.below ox0s hb
  replace ox1s := Own.below ox1s hb
  replace oy0 := OwnLL.below oy0 hb
  replace oy1 := Own.below oy1 hb
  replace oz0 := OwnLL.below oz0 hb
  replace oz1 := Own.below oz1 hb
  replace ovg := Own.below ovg hb
  replace ovh := Own.below ovh hb
  have Z20 := Lib.hid (Below.size hb); clear hb
  go_wp2_with fail
  refine (heldIntS_ok _ 1 r.length _ (Own.rd ovg) (by omega) (by omega) (by have := HR.out; omega)).mono ?_
  rintro e w21 ⟨rfl, hb⟩
  replace C := Below.step C hb
  replace ou0 := OwnLL.below ou0 hb
  replace ou1 := Own.below ou1 hb
  replace ovs := Own.below ovs hb
  replace ox0s := OwnLL.below ox0s hb
  replace ox1s := Own.below ox1s hb
  replace oy0 := OwnLL.below oy0 hb
  replace oy1 := Own.below oy1 hb
  replace oz0 := OwnLL.below oz0 hb
  replace oz1 := Own.below oz1 hb
  replace ovg := Own.below ovg hb
  replace ovh := Own.below ovh hb
  have Z21 := Lib.hid (Below.size hb); clear hb
  go_wp2
  go_ret
  exact ⟨rfl, C⟩

set_option maxHeartbeats 1000000 in
theorem walk_ApplyTable (a0 : Option Addr) (len0 cap0 : Nat) (rv0 : Nat → Value) (z0 : List (List Int)) (a1 : Option Addr) (len1 cap1 : Nat) (z1 : List Int) (w : World) (w0 : RdLL w (.slice a0 len0 cap0) rv0 z0) (w1 : RowIn w a1 len1 cap1 z1) :
    Calls Try.prog 6 #[.slice a0 len0 cap0, .slice a1 len1 cap1] w (Good w) := by
  by_cases b1 : len1 ≤ 1048576
  · exact core_ApplyTable a0 len0 cap0 rv0 z0 a1 len1 cap1 (z1.take len1) (res_ApplyTable z0 (z1.take len1)) (ok_ApplyTable z0 (z1.take len1)) w w0 (RowIn.rd w1) b1  (fun w u0 u1 k0 k1 => specR_ApplyTable z0 (z1.take len1) w u0 u1 k0 k1 (by rw [RowIn.len w1]; exact b1) ) (fun w u0 u1 k0 k1 => implR_ApplyTable z0 (z1.take len1) w u0 u1 k0 k1 (by rw [RowIn.len w1]; exact b1) ) (len_ApplyTable z0 (z1.take len1))
  · have g1 : cap1 ≤ 9223372036854775807 ∧ len1 ≤ cap1 := by rcases w1 with ⟨_, q1, q2, _⟩ | ⟨_, _, q1, q2, _⟩ <;> first | (unfold maxLen at q2; omega) | omega
    clear w0 w1
    go_enter Try.func6, Try.ntmps6
    go_wp2
    go_ret
    exact ⟨rfl, Below.refl _ _⟩
end Go.Proofs.Ytgaaddfipkdlaab

namespace Go.Proofs.Ytgaaddfipkdlaab.fnExactApplyTable
open Go.ChangeShapes Go.WideShapes Go.ChangeAt Go.RowKit
open Go.ChangeMaps (open_string shut_string)
set_option linter.unusedVariables false
set_option linter.unusedSimpArgs false

theorem own : ownKnob Try.prog.godebug = none := by kernel_rfl
theorem laidOut : laidOutB Try.prog = true := by kernel_rfl

set_option maxRecDepth 100000 in
theorem lifted (os : Os) (started : os.Started) (H : Type) (enc : TypeId × Value → H) :
    ReturnsInHanded {} Try.checked os 6 .any (Rows.fnExactApplyTableSpec.pre6 enc Try.prog Try.f6 Rows.fnExactApplyTableRow.domain false) (Rows.fnExactApplyTableSpec.post enc Try.prog Try.f6 false true false false) := by
  refine returnsInHanded_of_change (C := Try.checked) own started (by kernel_rfl) Try.func6
    (ChangeSpec.witness6 (enc := enc) (C := Try.checked) false ⟨#[], #[.slice none 0 0, .slice none 0 0], []⟩ 8 (by kernel_rfl) (by kernel_rfl) (by kernel_rfl) (by kernel_rfl)) ?_
  intro W base args ds gs before hval0 hW hcnd _
  have hval : ∀ (j : Nat) t v, Try.f6.params[j]? = some t → args[j]? = some v → Value.okWide Try.prog W .any base t v := hval0
  have hW' := hW
  obtain ⟨p, q, hA0, hV, rfl, hfz, hnd⟩ := hW
  have hA : DataW.TrodAll enc Try.prog W 0 (fun _ => true) true Try.f6.params.toList args.toList ds p := hA0
  rw [Try.params6] at hA hval
  obtain ⟨v0, vs0, d0, ds0, p0, q0, hargs, rfl, rfl, h0, r0⟩ := trodAll_cons hA
  obtain ⟨v1, vs1, d1, ds1, p1, q1, rfl, rfl, rfl, h1, r1⟩ := trodAll_cons r0
  obtain ⟨rfl, rfl, rfl⟩ := trodAll_nil r1
  obtain rfl : args = #[v0, v1] := by cases args; simp_all
  obtain ⟨rfl, rfl⟩ := trodVars_none hV
  obtain ⟨a0, len0, cap0, rfl⟩ := okWide_slice Try.underlying22 (hval 0 22 v0 rfl rfl)
  have k0 := h0
  have lt0 : ∀ x ∈ p0, x.block < W.heap.size := by obtain ⟨m, hm⟩ := k0; exact DataW.trod_lt m _ _ _ hm
  obtain ⟨rv0, z0, w0⟩ : ∃ rv zs, RdLL W (.slice a0 len0 cap0) rv zs := by
    obtain ⟨fuel, hf⟩ := h0
    rcases Go.Deep.open_int_rows Try.underlying22 Try.underlying32 Try.underlying3 (by kernel_rfl) (by kernel_rfl) hf with ⟨hcs, _⟩ | ⟨x, l, c, A, L, C, Z, hcs, _, hl, hm, _, hrows⟩
    · simp [Value.cells] at hcs
      obtain ⟨rfl, rfl, rfl⟩ := hcs
      exact ⟨_, _, RdLL.nil W⟩
    · simp [Value.cells] at hcs
      obtain ⟨rfl, rfl, rfl⟩ := hcs
      exact ⟨_, _, RdLL.of hl hm hrows⟩
  obtain ⟨a1, len1, cap1, rfl⟩ := okWide_slice Try.underlying32 (hval 1 32 v1 rfl rfl)
  have k1 := h1
  have lt1 : ∀ x ∈ p1, x.block < W.heap.size := by obtain ⟨m, hm⟩ := k1; exact DataW.trod_lt m _ _ _ hm
  obtain ⟨z1, w1⟩ : ∃ zs, RowIn W a1 len1 cap1 zs := by
    obtain ⟨fuel, hf⟩ := h1
    rcases open_ints Try.underlying32 Try.underlying3 (by kernel_rfl) hf with ⟨hcs, _⟩ | ⟨x, l, c, zs, hcs, _, hl, hm, hz, _, hcell, hwz⟩
    · simp [Value.cells] at hcs
      obtain ⟨rfl, rfl, rfl⟩ := hcs
      exact ⟨[], .inl ⟨rfl, rfl, rfl, rfl⟩⟩
    · simp [Value.cells] at hcs
      obtain ⟨rfl, rfl, rfl⟩ := hcs
      exact ⟨zs, .inr ⟨_, rfl, hl, hm, by simpa using hz, hcell, hwz⟩⟩
  clear hA0 hval0
  refine (walk_ApplyTable a0 len0 cap0 rv0 z0 a1 len1 cap1 z1 W w0 w1).mono fun e W' ⟨he, bel⟩ => ?_
  subst he
  exact ⟨_, rfl, _, _, _, [], _, [], hW', trodAll_mk1 (shut_bool Try.underlying4 _), (trodAll_cons_mk (Below.trod laidOut (by kernel_rfl) (of_decide_eq_true (by kernel_rfl)) k0 bel lt0) (trodAll_cons_mk (Below.trod laidOut (by kernel_rfl) (of_decide_eq_true (by kernel_rfl)) k1 bel lt1) trodAll_mk0)), rfl, bel.frame _, fun h => by cases h⟩

theorem over : Rows.fnExactApplyTableRow.holds Try.pinned (OpenSpec.ofChange Rows.fnExactApplyTableSpec) :=
  OpenClaim.holds_of_wide 6 Try.f6 rfl rfl rfl rfl rfl rfl rfl ⟨rfl, rfl, rfl, rfl, rfl⟩ rfl rfl rfl rfl rfl (by as_aux_lemma => kernel_rfl) Try.func6 (by as_aux_lemma => kernel_rfl)
    (of_decide_eq_true (by as_aux_lemma => kernel_rfl)) (by unfold Func.isWrapper; first | (rw [if_pos (by decide +kernel)]; kernel_rfl) | (rw [if_neg (by decide +kernel)]; exact ⟨rfl, rfl⟩))
    (fun os started H enc _ => lifted os started H enc)

theorem proved : Rows.FnExactApplyTableSaid := over
#print axioms proved
end Go.Proofs.Ytgaaddfipkdlaab.fnExactApplyTable
