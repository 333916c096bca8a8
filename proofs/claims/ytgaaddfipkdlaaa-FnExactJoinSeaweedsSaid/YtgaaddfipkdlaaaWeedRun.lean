/- The program reads a seaweed; a seaweed out of its parts; the model's test. -/
import Derived.Test.YtgaaddfipkdlaaaWeedRead
import Derived.Test.YtgaaddfipkdlaaaCopy
import Derived.RegionTactic
import Derived.BigRegion
import Derived.Deep.RegionHeld3
import Derived.Deep.RegionWith
namespace Go.Proofs.Ytgaaddfipkdlaaa
open Go.RowKit
set_option linter.unusedSimpArgs false
set_option linter.unusedVariables false

theorem weed_info : (Try.prog.info? 58).map (·.size) = some 2 := by kernel_rfl
theorem weed_len {t : List Int} (h : partsB t = true) : t.length ≤ 20 := (parts_facts h).2.2.1

theorem run_loadWeed (w : World) (g : Nat) (v1 v2 : Value) (hg : Box2 58 w g v1 v2) : (loadVar 58 ⟨g, 0, none⟩).run Try.prog w = .ok (.agg #[v1, v2]) w :=
  run_loadVar_row w g _ _ #[v1, v2] _ _ hg Try.underlying58 rfl (by rw [weed_info]; rfl)
theorem results_weed (tmps : Array Value) (w : World) (g : Nat) (v1 v2 : Value) (ok : Bool) (hg : Box2 58 w g v1 v2) (h2 : tmps.getD 2 undef = .pointer (some ⟨g, 0, none⟩)) (h3 : tmps.getD 3 undef = .bool ok) :
    (results Try.f39 tmps).run Try.prog w = .ok (.tuple #[.agg #[v1, v2], .bool ok]) w := by
  have h2' : tmps[2]?.getD undef = .pointer (some ⟨g, 0, none⟩) := by simpa using h2
  have h3' : tmps[3]?.getD undef = .bool ok := by simpa using h3
  have hr : Try.f39.results = #[.cell 2 58, .tmp 3] := by kernel_rfl
  simp [results, hr, h2', h3', asAddr, run_loadWeed w g v1 v2 hg]
theorem Box2.at1 (T : TypeId) (w : World) (o : Obj) (v1 v2 : Value) : Box2 T ((w.alloc o).alloc (.cells #[v1, v2] T)) (w.heap.size + 1) v1 v2 := by
  have h := Box2.new T (w.alloc o) v1 v2
  rw [World.size_alloc] at h; exact h
theorem below2 (w : World) (o1 o2 : Obj) : Below w.heap.size w ((w.alloc o1).alloc o2) := Below.step (Below.alloc1 w _) (Below.alloc1 _ _)

def WeedYes (w : World) (u1 u2 : Value) (e : Ending) (w' : World) : Prop := e = .returned (.tuple #[.agg #[u1, u2], .bool true]) ∧ Below w.heap.size w w'
def WeedNo (w : World) (e : Ending) (w' : World) : Prop := e = .returned (.tuple #[.agg #[.slice none 0 0, .slice none 0 0], .bool false]) ∧ Below w.heap.size w w'

set_option maxHeartbeats 4000000 in
theorem readWeed_yes (t b : List Int) (w : World) (u1 u2 : Value) (h1 : Rd w u1 t) (h2 : Rd w u2 b) (hR : weedB t b = true) :
    Calls Try.prog 39 #[.agg #[u1, u2]] w (WeedYes w u1 u2) := by
  obtain ⟨e1, e2, e3⟩ := weed_facts hR
  have B1 : Below w.heap.size w ((w.alloc (.cells #[u1, u2] 29)).alloc (.cells #[.slice none 0 0, .slice none 0 0] 58)) := Below.step (Below.alloc1 w _) (Below.alloc1 _ _)
  have hA : Box2 29 ((w.alloc (.cells #[u1, u2] 29)).alloc (.cells #[.slice none 0 0, .slice none 0 0] 58)) w.heap.size u1 u2 := Box2.below (Box2.new _ w u1 u2) (Below.alloc1 _ _)
  have hP : Box2 58 ((w.alloc (.cells #[u1, u2] 29)).alloc (.cells #[.slice none 0 0, .slice none 0 0] 58)) (w.heap.size + 1) (.slice none 0 0) (.slice none 0 0) := by
    have h := Box2.new 58 (w.alloc (.cells #[u1, u2] 29)) (.slice none 0 0) (.slice none 0 0)
    rw [World.size_alloc] at h; exact h
  have c1 := readParts_yes u1 t _ (h1.below B1) e1
  have c2 := readParts_yes u2 b _ (h2.below B1) e2
  have c3 := sum_any u1 t _ (h1.below B1) (weed_len e1) (parts_rng e1)
  have c4 := sum_any u2 b _ (h2.below B1) (weed_len e2) (parts_rng e2)
  rw [← e3] at c4
  have C1 := Lib.hid c1; have C2 := Lib.hid c2; have C3 := Lib.hid c3; have C4 := Lib.hid c4; have HP := Lib.hid hP; have HB := Lib.hid B1
  have k0 := hA.c0; have k1 := hA.c1
  have m0 := hP.c0; have m1 := hP.c1; have m2 := hP.free 0; have m3 := hP.free 1
  obtain ⟨a1, n1, rfl, _⟩ := h1
  obtain ⟨a2, n2, rfl, _⟩ := h2
  generalize t.sum = s at *
  clear hR e1 e2 e3 c1 c2 c3 c4 hA hP B1
  go_enter Try.func39, Try.ntmps39
  go_wp2_with (first
    | (go_at_call 55; ((with_reducible refine C1.out.mono ?_); rintro e w1 ⟨rfl, rfl⟩))
    | (go_at_call 55; ((with_reducible refine C2.out.mono ?_); rintro e w2 ⟨rfl, rfl⟩))
    | (go_at_call 56; ((with_reducible refine C3.out.mono ?_); rintro e w3 ⟨rfl, rfl⟩))
    | (go_at_call 56; ((with_reducible refine C4.out.mono ?_); rintro e w4 ⟨rfl, rfl⟩)))
  exact bodyPost_ret (results_weed _ _ (w.heap.size + 1) _ _ true (Box2.at1 _ w _ _ _) rfl rfl) rfl ⟨rfl, below2 w _ _⟩
set_option maxHeartbeats 4000000 in
theorem readWeed_no (t b : List Int) (w : World) (u1 u2 : Value) (h1 : Rd w u1 t) (h2 : Rd w u2 b) (hR : weedB t b = false) :
    Calls Try.prog 39 #[.agg #[u1, u2]] w (WeedNo w) := by
  have B1 : Below w.heap.size w ((w.alloc (.cells #[u1, u2] 29)).alloc (.cells #[.slice none 0 0, .slice none 0 0] 58)) := Below.step (Below.alloc1 w _) (Below.alloc1 _ _)
  have hA : Box2 29 ((w.alloc (.cells #[u1, u2] 29)).alloc (.cells #[.slice none 0 0, .slice none 0 0] 58)) w.heap.size u1 u2 := Box2.below (Box2.new _ w u1 u2) (Below.alloc1 _ _)
  have hP : Box2 58 ((w.alloc (.cells #[u1, u2] 29)).alloc (.cells #[.slice none 0 0, .slice none 0 0] 58)) (w.heap.size + 1) (.slice none 0 0) (.slice none 0 0) := by
    have h := Box2.new 58 (w.alloc (.cells #[u1, u2] 29)) (.slice none 0 0) (.slice none 0 0)
    rw [World.size_alloc] at h; exact h
  have g1 := h1.below B1; have g2 := h2.below B1
  have HP := Lib.hid hP; have HB := Lib.hid B1
  have k0 := hA.c0; have k1 := hA.c1
  have m0 := hP.c0; have m1 := hP.c1; have m2 := hP.free 0; have m3 := hP.free 1
  obtain ⟨a1, n1, rfl, _⟩ := h1
  obtain ⟨a2, n2, rfl, _⟩ := h2
  clear hA hP B1
  cases e1 : partsB t with
  | false =>
    have C1 := Lib.hid (readParts_no _ t _ g1 e1)
    cases e2 : partsB b with
    | false =>
      have C2 := Lib.hid (readParts_no _ b _ g2 e2)
      clear hR e1 e2 g1 g2
      go_enter Try.func39, Try.ntmps39
      go_wp2_with (first
        | (go_at_call 55; ((with_reducible refine C1.out.mono ?_); rintro e w1 ⟨rfl, rfl⟩))
        | (go_at_call 55; ((with_reducible refine C2.out.mono ?_); rintro e w2 ⟨rfl, rfl⟩)))
      exact bodyPost_ret (results_weed _ _ (w.heap.size + 1) _ _ false (Box2.at1 _ w _ _ _) rfl rfl) rfl ⟨rfl, below2 w _ _⟩
    | true =>
      have C2 := Lib.hid (readParts_yes _ b _ g2 e2)
      clear hR e1 e2 g1 g2
      go_enter Try.func39, Try.ntmps39
      go_wp2_with (first
        | (go_at_call 55; ((with_reducible refine C1.out.mono ?_); rintro e w1 ⟨rfl, rfl⟩))
        | (go_at_call 55; ((with_reducible refine C2.out.mono ?_); rintro e w2 ⟨rfl, rfl⟩)))
      exact bodyPost_ret (results_weed _ _ (w.heap.size + 1) _ _ false (Box2.at1 _ w _ _ _) rfl rfl) rfl ⟨rfl, below2 w _ _⟩
  | true =>
    have C1 := Lib.hid (readParts_yes _ t _ g1 e1)
    cases e2 : partsB b with
    | false =>
      have C2 := Lib.hid (readParts_no _ b _ g2 e2)
      clear hR e1 e2 g1 g2
      go_enter Try.func39, Try.ntmps39
      go_wp2_with (first
        | (go_at_call 55; ((with_reducible refine C1.out.mono ?_); rintro e w1 ⟨rfl, rfl⟩))
        | (go_at_call 55; ((with_reducible refine C2.out.mono ?_); rintro e w2 ⟨rfl, rfl⟩)))
      exact bodyPost_ret (results_weed _ _ (w.heap.size + 1) _ _ false (Box2.at1 _ w _ _ _) rfl rfl) rfl ⟨rfl, below2 w _ _⟩
    | true =>
      have C2 := Lib.hid (readParts_yes _ b _ g2 e2)
      have C3 := Lib.hid (sum_any _ t _ g1 (weed_len e1) (parts_rng e1))
      have C4 := Lib.hid (sum_any _ b _ g2 (weed_len e2) (parts_rng e2))
      have hn : t.sum ≠ b.sum := by intro h; rw [weedB, e1, e2, decide_eq_true h] at hR; cases hR
      have hq : (t.sum != b.sum) = true := by simpa using hn
      clear hR e1 e2 g1 g2 hn
      generalize t.sum = s at *
      generalize b.sum = s' at *
      go_enter Try.func39, Try.ntmps39
      go_wp2_with (first
        | (go_at_call 55; ((with_reducible refine C1.out.mono ?_); rintro e w1 ⟨rfl, rfl⟩))
        | (go_at_call 55; ((with_reducible refine C2.out.mono ?_); rintro e w2 ⟨rfl, rfl⟩))
        | (go_at_call 56; ((with_reducible refine C3.out.mono ?_); rintro e w3 ⟨rfl, rfl⟩))
        | (go_at_call 56; ((with_reducible refine C4.out.mono ?_); rintro e w4 ⟨rfl, rfl⟩)))
      exact bodyPost_ret (results_weed _ _ (w.heap.size + 1) _ _ false (Box2.at1 _ w _ _ _) rfl rfl) rfl ⟨rfl, below2 w _ _⟩

set_option maxHeartbeats 2000000 in
theorem swGood_any (t b : List Int) (w : World) (u1 u2 : Value) (h1 : Rd w u1 t) (h2 : Rd w u2 b) (m1 : t.length ≤ 1048576) (m2 : b.length ≤ 1048576) :
    Calls Try.prog 33 #[.agg #[u1, u2]] w (Tells w (weedB t b)) := by
  have hA := Box2.new 29 w u1 u2
  have B1 : Below w.heap.size w (w.alloc (.cells #[u1, u2] 29)) := Below.alloc1 w _
  have c1 : ∀ n, Calls Try.prog 50 #[u1] ((w.alloc (.cells #[u1, u2] 29)).drewN n) fun e w' => e = .returned (.bool (partsB t)) ∧ w' = (w.alloc (.cells #[u1, u2] 29)).drewN n :=
    fun n => (swParts_any u1 t _ (Rd.drewN (h1.below B1) n) m1).mono fun _ _ h => ⟨h.1, h.2.symm⟩
  have c2 : ∀ n, Calls Try.prog 50 #[u2] ((w.alloc (.cells #[u1, u2] 29)).drewN n) fun e w' => e = .returned (.bool (partsB b)) ∧ w' = (w.alloc (.cells #[u1, u2] 29)).drewN n :=
    fun n => (swParts_any u2 b _ (Rd.drewN (h2.below B1) n) m2).mono fun _ _ h => ⟨h.1, h.2.symm⟩
  have c3 : partsB t = true → ∀ n, Calls Try.prog 46 #[u1] ((w.alloc (.cells #[u1, u2] 29)).drewN n) fun e w' => e = .returned (.int .i64 t.sum) ∧ w' = (w.alloc (.cells #[u1, u2] 29)).drewN n :=
    fun hp n => (swSum_any u1 t _ (Rd.drewN (h1.below B1) n) (parts_facts hp).2.2.1 (parts_rng hp)).mono fun _ _ h => ⟨h.1, h.2.symm⟩
  have c4 : partsB b = true → ∀ n, Calls Try.prog 46 #[u2] ((w.alloc (.cells #[u1, u2] 29)).drewN n) fun e w' => e = .returned (.int .i64 b.sum) ∧ w' = (w.alloc (.cells #[u1, u2] 29)).drewN n :=
    fun hp n => (swSum_any u2 b _ (Rd.drewN (h2.below B1) n) (parts_facts hp).2.2.1 (parts_rng hp)).mono fun _ _ h => ⟨h.1, h.2.symm⟩
  have k0 := hA.c0; have k1 := hA.c1
  have HB := Lib.hid B1
  unfold weedB
  clear hA B1 h1 h2
  cases e1 : partsB t with
  | false =>
    rw [e1] at c1
    have C1 := Lib.hid c1
    clear c1 c2 c3 c4 e1
    go_enter Try.func33, Try.ntmps33
    go_wp2_with fail
    go_quiet ((go_at_call 50; with_reducible exact Calls.quiet_of_same (C1.out _)))
    go_wp2
    go_ret
    exact ⟨rfl, Below.drewN HB.out _⟩
  | true =>
    cases e2 : partsB b with
    | false =>
      rw [e1] at c1; rw [e2] at c2
      have C1 := Lib.hid c1; have C2 := Lib.hid c2
      clear c1 c2 c3 c4 e1 e2
      go_enter Try.func33, Try.ntmps33
      go_wp2_with fail
      go_quiet ((first | (go_at_call 50; with_reducible exact Calls.quiet_of_same (C1.out _)) | (go_at_call 50; with_reducible exact Calls.quiet_of_same (C2.out _))))
      go_wp2
      go_ret
      exact ⟨rfl, Below.drewN HB.out _⟩
    | true =>
      have c3 := c3 e1; have c4 := c4 e2
      rw [e1] at c1; rw [e2] at c2
      have C1 := Lib.hid c1; have C2 := Lib.hid c2
      clear c1 c2 e1 e2
      generalize t.sum = s at *
      generalize b.sum = s' at *
      by_cases hs : s = s'
      · have hq : (s == s') = true := by simpa using hs
        rw [decide_eq_true hs]
        have C3 := Lib.hid c3; have C4 := Lib.hid c4
        clear c3 c4 hs
        go_enter Try.func33, Try.ntmps33
        go_wp2_with fail
        go_quiet ((first | (go_at_call 50; with_reducible exact Calls.quiet_of_same (C1.out _)) | (go_at_call 50; with_reducible exact Calls.quiet_of_same (C2.out _)) | (go_at_call 46; with_reducible exact Calls.quiet_of_same (C3.out _)) | (go_at_call 46; with_reducible exact Calls.quiet_of_same (C4.out _))))
        go_wp2
        go_ret
        exact ⟨rfl, Below.drewN HB.out _⟩
      · have hq : (s == s') = false := by simpa using hs
        rw [decide_eq_false hs]
        have C3 := Lib.hid c3; have C4 := Lib.hid c4
        clear c3 c4 hs
        go_enter Try.func33, Try.ntmps33
        go_wp2_with fail
        go_quiet ((first | (go_at_call 50; with_reducible exact Calls.quiet_of_same (C1.out _)) | (go_at_call 50; with_reducible exact Calls.quiet_of_same (C2.out _)) | (go_at_call 46; with_reducible exact Calls.quiet_of_same (C3.out _)) | (go_at_call 46; with_reducible exact Calls.quiet_of_same (C4.out _))))
        go_wp2
        go_ret
        exact ⟨rfl, Below.drewN HB.out _⟩

end Go.Proofs.Ytgaaddfipkdlaaa
