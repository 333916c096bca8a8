/- What is asked of strands; those chosen; their lists. -/
import Derived.Test.YtgaaddfipkdlaaaStrandS
namespace Go.Proofs.Ytgaaddfipkdlaaa
open Go.RowKit
set_option linter.unusedSimpArgs false
set_option linter.unusedVariables false

def AnsB (w : World) (b : Bool) (e : Ending) (w' : World) : Prop := e = .returned (.bool b) ∧ Below w.heap.size w w'
theorem isPath_any (x : Option Addr) (y z : Nat) (b : Bool) (w : World) : Calls Try.prog 37 #[.agg #[.slice x y z, .bool b]] w (AnsB w b) := by
  have k1 := (Box2.new 55 w (.slice x y z) (.bool b)).c1
  go_enter Try.func37, Try.ntmps37
  go_wp2
  go_ret
  exact ⟨rfl, Below.alloc1 _ _⟩
theorem isCycle_any (x : Option Addr) (y z : Nat) (b : Bool) (w : World) : Calls Try.prog 38 #[.agg #[.slice x y z, .bool b]] w (AnsB w (!b)) := by
  have k1 := (Box2.new 55 w (.slice x y z) (.bool b)).c1
  go_enter Try.func38, Try.ntmps38
  go_wp2
  go_ret
  exact ⟨rfl, Below.alloc1 _ _⟩
theorem litSd (B : Nat) (w : World) (hB : B ≤ w.heap.size) : Own B (w.alloc (.cells #[] 3)) (.slice (some ⟨w.heap.size, 0, none⟩) 0 0) [] :=
  World.ownsRow_lit w #[] 0 hB (by unfold maxLen; omega) rfl
set_option maxRecDepth 100000 in
set_option maxHeartbeats 1000000 in
theorem cloneSd_any (b o n c : Nat) (l : List Int) (w : World) (h : Rd w (.slice (some ⟨b, o, none⟩) n c) l) (hl : l.length ≤ 1000000) :
    Calls Try.prog 103 #[.slice (some ⟨b, o, none⟩) n c] w (Made w l) := by
  have HO := Lib.hid (litSd w.heap.size w (Nat.le_refl _))
  have HR := Lib.hid (h.below (Below.alloc1 w (.cells #[] 3)))
  have HL := Lib.hid hl
  clear h hl
  have q22 : ∀ (w : World) (a : Option Addr) (n c n' c' : Nat), (binOp .eql 22 (.slice a n c) (.slice none n' c')).run Try.prog w = .ok (.bool a.isNone) w := fun w a n c n' c' => Lib.run_eql_slice_nil w _ _ a n c n' c' Try.underlying22
  go_enter Try.func103, Try.ntmps103
  go_wp2_with (at_builtin; refine wp_append _ rfl _ _ rfl w.heap.size _ _ [] l rfl rfl HO.out HR.out (by have := HL.out; simp; omega) (by simp) ?_; intro v' w2 hown2 hgr hbel2; obtain ⟨x1, y1, z1, rfl⟩ := hown2.form'; have HO2 := Lib.hid hown2; have HB2 := Lib.hid ((Below.alloc1 w (.cells #[] 3)).trans hbel2); clear hown2 hgr hbel2)
  go_ret
  exact ⟨_, rfl, HO2.out, HB2.out⟩
theorem listSd_any (b n c : Nat) (p : Bool) (l : List Int) (w : World) (h : Rd w (.slice (some ⟨b, 0, none⟩) n c) l) (hl : l.length ≤ 1000000) :
    Calls Try.prog 102 #[.agg #[.slice (some ⟨b, 0, none⟩) n c, .bool p]] w (Made w l) := by
  have k0 := (Box2.new 55 w (.slice (some ⟨b, 0, none⟩) n c) (.bool p)).c0
  have HC := Lib.hid (cloneSd_any b 0 n c l _ (h.below (Below.alloc1 w (.cells #[.slice (some ⟨b, 0, none⟩) n c, .bool p] 55))) hl)
  clear h
  go_enter Try.func102, Try.ntmps102
  go_wp2_with (go_at_call 103; ((with_reducible refine HC.out.mono ?_); rintro e w2 ⟨v2, rfl, ho2, hb2⟩; obtain ⟨x2, y2, z2, rfl⟩ := ho2.form'; have HO2 := Lib.hid ho2; have HB2 := Lib.hid (Below.step (Below.alloc1 w (.cells #[.slice (some ⟨b, 0, none⟩) n c, .bool p] 55)) hb2); clear ho2 hb2))
  go_ret
  exact ⟨_, rfl, HO2.out.mono (by simp), HB2.out⟩
end Go.Proofs.Ytgaaddfipkdlaaa
