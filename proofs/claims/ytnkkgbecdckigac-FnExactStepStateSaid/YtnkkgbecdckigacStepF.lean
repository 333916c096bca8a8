/- Steps of a frontier: begin, lead, end. -/
import Derived.Test.YtnkkgbecdckigacStepE
namespace Go.Proofs.Ytnkkgbecdckigac
open Go.RowKit Go.Maps
set_option linter.unusedSimpArgs false
set_option linter.unusedVariables false

/-- what a step leaves: the frontier if it is told to be one -/
def StepOut (w : World) (b : Nat) (r : Option (List Int × List Int × Int)) (e : Ending) (w' : World) : Prop :=
  w.grownBy w' (some b) ∧ match r with
    | some (u, d, c) => e = .returned (.bool true) ∧ FrIn w' b u d c
    | none => e = .returned (.bool false)
theorem grown_refl (w : World) (b : Option Nat) : w.grownBy w b := ⟨rfl, rfl, rfl, Nat.le_refl _, fun _ _ _ => rfl⟩
def capO (r : Option (List Int × List Int × Int)) : Option (List Int × List Int × Int) :=
  match r with
  | some (u, d, c) => if u.length ≤ 6 ∧ d.length ≤ 6 ∧ c ≤ 6 then some (u, d, c) else none
  | none => none


set_option maxHeartbeats 2000000 in
theorem lead_yes (b o o' : Nat) (ho : o = 0 ∧ o' = 7 ∨ o = 7 ∧ o' = 0) (l m : List Int) (c x : Int) (w : World) (h : SdIn w b o (l ++ [x]) m c) (hl : l.length < 6) (hm : m.length < 6) :
    Calls Try.prog 76 #[.pointer (some ⟨b, o, none⟩), .pointer (some ⟨b, o', none⟩)] w (PushOut w b o' (m ++ [x]) l c) := by
  have h1 := pop_any b o (by omega) l m c x w h hl (by omega)
  have hsw : ∀ (W : World) (l m : List Int), SdIn W b o l m c ↔ SdIn W b o' m l c := by
    intro W l m
    rcases ho with ⟨rfl, rfl⟩ | ⟨rfl, rfl⟩
    · exact Iff.rfl
    · exact Iff.rfl
  have h2 := fun W (hW : SdIn W b o l m c) => push_any b o' (by omega) m l c x W ((hsw W l m).1 hW) hm (by omega)
  have H1 := Lib.hid h1; have H2 := Lib.hid h2
  clear h1 h2 h hsw
  go_enter Try.func76, Try.ntmps76
  go_wp2_with (first
    | (go_at_call 93; ((with_reducible refine H1.out.mono ?_); rintro e w1 ⟨rfl, hs1, hg1⟩; have HS1 := Lib.hid hs1; have HG1 := Lib.hid hg1; clear hs1 hg1))
    | (go_at_call 92; ((with_reducible refine (H2.out _ HS1.out).mono ?_); rintro e w2 ⟨rfl, hs2, hg2⟩)))
  go_ret
  exact ⟨rfl, hs2, grown_trans HG1.out hg2⟩
def LeadNo (w : World) (b : Nat) (e : Ending) (w' : World) : Prop := e = .returned (.bool false) ∧ w.grownBy w' (some b)
set_option maxHeartbeats 2000000 in
theorem lead_full (b o o' : Nat) (ho : o = 0 ∧ o' = 7 ∨ o = 7 ∧ o' = 0) (l m : List Int) (c x : Int) (w : World) (h : SdIn w b o (l ++ [x]) m c) (hl : l.length < 6) (hm : m.length = 6) :
    Calls Try.prog 76 #[.pointer (some ⟨b, o, none⟩), .pointer (some ⟨b, o', none⟩)] w (LeadNo w b) := by
  have h1 := pop_any b o (by omega) l m c x w h hl (by omega)
  have hsw : ∀ (W : World) (l m : List Int), SdIn W b o l m c ↔ SdIn W b o' m l c := by
    intro W l m
    rcases ho with ⟨rfl, rfl⟩ | ⟨rfl, rfl⟩
    · exact Iff.rfl
    · exact Iff.rfl
  have h2 := fun W (hW : SdIn W b o l m c) => push_full b o' (by omega) m l c x W ((hsw W l m).1 hW) hm (by omega)
  have H1 := Lib.hid h1; have H2 := Lib.hid h2
  clear h1 h2 h hsw
  go_enter Try.func76, Try.ntmps76
  go_wp2_with (first
    | (go_at_call 93; ((with_reducible refine H1.out.mono ?_); rintro e w1 ⟨rfl, hs1, hg1⟩; have HS1 := Lib.hid hs1; have HG1 := Lib.hid hg1; clear hs1 hg1))
    | (go_at_call 92; ((with_reducible refine (H2.out _ HS1.out).mono ?_); rintro e w2 ⟨rfl, rfl⟩)))
  go_ret
  exact ⟨rfl, HG1.out⟩
set_option maxHeartbeats 2000000 in
theorem lead_none (b o o' : Nat) (ho : o = 0 ∧ o' = 7 ∨ o = 7 ∧ o' = 0) (m : List Int) (c : Int) (w : World) (h : SdIn w b o [] m c) (hm : m.length ≤ 6) :
    Calls Try.prog 76 #[.pointer (some ⟨b, o, none⟩), .pointer (some ⟨b, o', none⟩)] w (LeadNo w b) := by
  have h1 := pop_none b o (by omega) m c w h hm
  have H1 := Lib.hid h1
  clear h1 h
  go_enter Try.func76, Try.ntmps76
  go_wp2_with (first
    | (go_at_call 93; ((with_reducible refine H1.out.mono ?_); rintro e w1 ⟨rfl, rfl⟩)))
  go_ret
  exact ⟨rfl, grown_refl _ _⟩

theorem fr_sizes {w : World} {b : Nat} {u d : List Int} {c : Int} (hu : u.length ≤ 6) (hd : d.length ≤ 6) (h : FrIn w b u d c) : w.cell? ⟨b, 6, none⟩ = some (.int .i64 (u.length : Int)) ∧ w.cell? ⟨b, 13, none⟩ = some (.int .i64 (d.length : Int)) ∧ w.cell? ⟨b, 14, none⟩ = some (.int .i64 c) := by
  have h1 : SdIn w b 0 u d c := h
  refine ⟨?_, ?_, ?_⟩
  · rw [h1.at hu hd 6 (by omega)]; rfl
  · rw [h1.at hu hd 13 (by omega)]; rfl
  · rw [h1.at hu hd 14 (by omega)]; rfl
set_option maxHeartbeats 2000000 in
theorem begin_any (b : Nat) (u d : List Int) (c : Int) (w : World) (h : FrIn w b u d c) (hu : u.length ≤ 6) (hd : d.length ≤ 6) :
    Calls Try.prog 75 #[.pointer (some ⟨b, 0, none⟩)] w (StepOut w b (if u.length < 6 ∧ d.length < 6 then some (u ++ [partI u d], d ++ [partI u d], c) else none)) := by
  obtain ⟨k6, k13, _⟩ := fr_sizes hu hd h
  have hp : ((u.length : Int) + (d.length : Int)) / 2 = partI u d := by unfold partI; omega
  have hq : True := trivial
  by_cases h1 : u.length < 6
  · by_cases h2 : d.length < 6
    · skip
      have c1 := fun W (hW : FrIn W b u d c) => push_any b 0 (.inl rfl) u d c (partI u d) W hW h1 hd
      have c2 := fun W (hW : SdIn W b 0 (u ++ [partI u d]) d c) => push_any b 7 (.inr rfl) d (u ++ [partI u d]) c (partI u d) W hW h2 (by simp; omega)
      rw [if_pos ⟨h1, h2⟩]
      have C1 := Lib.hid c1; have C2 := Lib.hid c2
      have HD := Lib.hid (fun q => show FrIn (w.drewN q) b u d c from h)
      have HQ := Lib.hid hp
      generalize partI u d = p at *
      generalize u.length = n1 at *
      generalize d.length = n2 at *
      have b0 : 0 ≤ ((n1 : Int) + (n2 : Int)) / 2 := by omega
      have b1 : ((n1 : Int) + (n2 : Int)) / 2 ≤ 100 := by omega
      clear c1 c2 h hp hq
      go_enter Try.func75, Try.ntmps75
      go_wp2
      go_quiet (fail)
      rw [HQ.out]
      have HD0 := Lib.hid (HD.out nq)
      have HG0 := Lib.hid (grown_drewN (grown_refl w (some b)) nq)
      generalize w.drewN nq = w0 at HD0 HG0 ⊢
      go_wp2_with (first
        | (go_at_call 92; ((with_reducible refine (C1.out _ HD0.out).mono ?_); rintro e w1 ⟨rfl, hs1, hg1⟩; have HS1 := Lib.hid hs1; have HG1 := Lib.hid (grown_trans HG0.out hg1); clear hs1 hg1))
        | (go_at_call 92; ((with_reducible refine (C2.out _ HS1.out).mono ?_); rintro e w2 ⟨rfl, hs2, hg2⟩)))
      go_ret
      exact ⟨grown_trans HG1.out hg2, rfl, hs2⟩
    · skip
      have c1 := fun W (hW : FrIn W b u d c) => push_any b 0 (.inl rfl) u d c (partI u d) W hW h1 hd
      have c2 := fun W (hW : SdIn W b 0 (u ++ [partI u d]) d c) => push_full b 7 (.inr rfl) d (u ++ [partI u d]) c (partI u d) W hW (by omega) (by simp; omega)
      rw [if_neg (by omega)]
      have C1 := Lib.hid c1; have C2 := Lib.hid c2
      have HD := Lib.hid (fun q => show FrIn (w.drewN q) b u d c from h)
      have HQ := Lib.hid hp
      generalize partI u d = p at *
      generalize u.length = n1 at *
      generalize d.length = n2 at *
      have b0 : 0 ≤ ((n1 : Int) + (n2 : Int)) / 2 := by omega
      have b1 : ((n1 : Int) + (n2 : Int)) / 2 ≤ 100 := by omega
      clear c1 c2 h hp hq
      go_enter Try.func75, Try.ntmps75
      go_wp2
      go_quiet (fail)
      rw [HQ.out]
      have HD0 := Lib.hid (HD.out nq)
      have HG0 := Lib.hid (grown_drewN (grown_refl w (some b)) nq)
      generalize w.drewN nq = w0 at HD0 HG0 ⊢
      go_wp2_with (first
        | (go_at_call 92; ((with_reducible refine (C1.out _ HD0.out).mono ?_); rintro e w1 ⟨rfl, hs1, hg1⟩; have HS1 := Lib.hid hs1; have HG1 := Lib.hid (grown_trans HG0.out hg1); clear hs1 hg1))
        | (go_at_call 92; ((with_reducible refine (C2.out _ HS1.out).mono ?_); rintro e w2 ⟨rfl, rfl⟩)))
      go_ret
      exact ⟨HG1.out, rfl⟩
  · skip
    have c1 := fun W (hW : FrIn W b u d c) => push_full b 0 (.inl rfl) u d c (partI u d) W hW (by omega) hd
    rw [if_neg (by omega)]
    have C1 := Lib.hid c1
    have HD := Lib.hid (fun q => show FrIn (w.drewN q) b u d c from h)
    have HQ := Lib.hid hp
    generalize partI u d = p at *
    generalize u.length = n1 at *
    generalize d.length = n2 at *
    have b0 : 0 ≤ ((n1 : Int) + (n2 : Int)) / 2 := by omega
    have b1 : ((n1 : Int) + (n2 : Int)) / 2 ≤ 100 := by omega
    clear c1 h hp hq
    go_enter Try.func75, Try.ntmps75
    go_wp2
    go_quiet (fail)
    rw [HQ.out]
    have HD0 := Lib.hid (HD.out nq)
    have HG0 := Lib.hid (grown_drewN (grown_refl w (some b)) nq)
    generalize w.drewN nq = w0 at HD0 HG0 ⊢
    go_wp2_with (go_at_call 92; ((with_reducible refine (C1.out _ HD0.out).mono ?_); rintro e w1 ⟨rfl, rfl⟩))
    go_ret
    exact ⟨HG0.out, rfl⟩

def mgd (u0 d0 : List Int) (x y c : Int) : List Int × List Int × Int := (u0.map (mgI x y), d0.map (mgI x y), if x = y then c + 1 else c)
set_option maxHeartbeats 4000000 in
theorem end_join (b : Nat) (u d : List Int) (c x y : Int) (w : World) (h : FrIn w b (u ++ [x]) (d ++ [y]) c) (hu : u.length < 6) (hd : d.length < 6) (hxy : x ≠ y) :
    Calls Try.prog 77 #[.pointer (some ⟨b, 0, none⟩)] w (StepOut w b (some (u.map (mgI x y), d.map (mgI x y), c))) := by
  have c1 := pop_any b 0 (.inl rfl) u (d ++ [y]) c x w h hu (by simp; omega)
  have c2 := fun W (hW : SdIn W b 0 u (d ++ [y]) c) => pop_any b 7 (.inr rfl) d u c y W hW hd (by omega)
  have c3 := fun W (hW : SdIn W b 7 d u c) => rename_any b 0 (.inl rfl) u d c y x W hW (by omega) (by omega)
  have c4 := fun W (hW : SdIn W b 0 (u.map (mgI x y)) d c) => rename_any b 7 (.inr rfl) d (u.map (mgI x y)) c y x W hW (by omega) (by simp; omega)
  have C1 := Lib.hid c1; have C2 := Lib.hid c2; have C3 := Lib.hid c3; have C4 := Lib.hid c4
  have hb : (x == y) = false := by rw [beq_eq_false_iff_ne]; exact hxy
  clear c1 c2 c3 c4 h hu hd hxy
  go_enter Try.func77, Try.ntmps77
  go_wp2_with (first
    | (go_at_call 93; ((with_reducible refine C1.out.mono ?_); rintro e w1 ⟨rfl, hs1, hg1⟩; have HS1 := Lib.hid hs1; have HG1 := Lib.hid hg1; clear hs1 hg1))
    | (go_at_call 93; ((with_reducible refine (C2.out _ HS1.out).mono ?_); rintro e w2 ⟨rfl, hs2, hg2⟩; have HS2 := Lib.hid hs2; have HG2 := Lib.hid (grown_trans HG1.out hg2); clear hs2 hg2))
    | (go_at_call 94; ((with_reducible refine (C3.out _ HS2.out).mono ?_); rintro e w3 ⟨rfl, hs3, hg3⟩; have HS3 := Lib.hid hs3; have HG3 := Lib.hid (grown_trans HG2.out hg3); clear hs3 hg3))
    | (go_at_call 94; ((with_reducible refine (C4.out _ HS3.out).mono ?_); rintro e w4 ⟨rfl, hs4, hg4⟩; have HS4 := Lib.hid hs4; have HG4 := Lib.hid (grown_trans HG3.out hg4); clear hs4 hg4)))
  go_ret
  exact ⟨HG4.out, rfl, HS4.out⟩
set_option maxHeartbeats 4000000 in
theorem end_close (b : Nat) (u d : List Int) (c x : Int) (w : World) (h : FrIn w b (u ++ [x]) (d ++ [x]) c) (hu : u.length < 6) (hd : d.length < 6) (hc : 0 ≤ c ∧ c ≤ 6) :
    Calls Try.prog 77 #[.pointer (some ⟨b, 0, none⟩)] w (StepOut w b (if c + 1 ≤ 6 then some (u, d, c + 1) else none)) := by
  have c1 := pop_any b 0 (.inl rfl) u (d ++ [x]) c x w h hu (by simp; omega)
  have c2 := fun W (hW : SdIn W b 0 u (d ++ [x]) c) => pop_any b 7 (.inr rfl) d u c x W hW hd (by omega)
  have c3 := fun W (hW : FrIn W b u d c) => (fr_sizes (by omega) (by omega) hW).2.2
  have c4 := fun W (hW : FrIn W b u d c) => fr_close (c + 1) (by omega) (by omega) hW
  have C1 := Lib.hid c1; have C2 := Lib.hid c2; have C3 := Lib.hid c3; have C4 := Lib.hid c4
  obtain ⟨hc0, hc6⟩ := hc
  clear c1 c2 c3 c4 h hu hd
  by_cases h6 : c + 1 ≤ 6
  · rw [if_pos h6]
    go_enter Try.func77, Try.ntmps77
    go_wp2_with (first
      | (go_at_call 93; ((with_reducible refine C1.out.mono ?_); rintro e w1 ⟨rfl, hs1, hg1⟩; have HS1 := Lib.hid hs1; have HG1 := Lib.hid hg1; clear hs1 hg1))
      | (go_at_call 93; ((with_reducible refine (C2.out _ HS1.out).mono ?_); rintro e w2 ⟨rfl, hs2, hg2⟩; have HS2 : Hid (FrIn w2 b u d c) := hs2; have HG2 := Lib.hid (grown_trans HG1.out hg2); have k14 := C3.out _ HS2.out; have f14 := frozen_of_row w2 b 14 _ _ HS2.out; clear hs2 hg2)))
    go_ret
    exact ⟨grown_trans HG2.out grown_setCell, rfl, C4.out _ HS2.out⟩
  · rw [if_neg h6]
    go_enter Try.func77, Try.ntmps77
    go_wp2_with (first
      | (go_at_call 93; ((with_reducible refine C1.out.mono ?_); rintro e w1 ⟨rfl, hs1, hg1⟩; have HS1 := Lib.hid hs1; have HG1 := Lib.hid hg1; clear hs1 hg1))
      | (go_at_call 93; ((with_reducible refine (C2.out _ HS1.out).mono ?_); rintro e w2 ⟨rfl, hs2, hg2⟩; have HS2 : Hid (FrIn w2 b u d c) := hs2; have HG2 := Lib.hid (grown_trans HG1.out hg2); have k14 := C3.out _ HS2.out; have f14 := frozen_of_row w2 b 14 _ _ HS2.out; clear hs2 hg2)))
    go_ret
    exact ⟨grown_trans HG2.out grown_setCell, by simp; omega⟩
set_option maxHeartbeats 4000000 in
theorem end_noU (b : Nat) (d : List Int) (c : Int) (w : World) (h : FrIn w b [] d c) (hd : d.length ≤ 6) :
    Calls Try.prog 77 #[.pointer (some ⟨b, 0, none⟩)] w (StepOut w b none) := by
  have c1 := pop_none b 0 (.inl rfl) d c w h hd
  have C1 := Lib.hid c1
  rcases snoc_cases d with rfl | ⟨d0, y, rfl⟩
  · have c2 := pop_none b 7 (.inr rfl) [] c w h (by simp)
    have C2 := Lib.hid c2
    clear c1 c2 h hd
    go_enter Try.func77, Try.ntmps77
    go_wp2_with (first
      | (go_at_call 93; ((with_reducible refine C1.out.mono ?_); rintro e w1 ⟨rfl, rfl⟩))
      | (go_at_call 93; ((with_reducible refine C2.out.mono ?_); rintro e w2 ⟨rfl, rfl⟩)))
    go_ret
    exact ⟨grown_refl _ _, rfl⟩
  · have c2 := pop_any b 7 (.inr rfl) d0 [] c y w h (by simp at hd; omega) (by simp)
    have C2 := Lib.hid c2
    clear c1 c2 h hd
    go_enter Try.func77, Try.ntmps77
    go_wp2_with (first
      | (go_at_call 93; ((with_reducible refine C1.out.mono ?_); rintro e w1 ⟨rfl, rfl⟩))
      | (go_at_call 93; ((with_reducible refine C2.out.mono ?_); rintro e w2 ⟨rfl, hs2, hg2⟩)))
    go_ret
    exact ⟨hg2, rfl⟩
set_option maxHeartbeats 4000000 in
theorem end_noD (b : Nat) (u : List Int) (c x : Int) (w : World) (h : FrIn w b (u ++ [x]) [] c) (hu : u.length < 6) :
    Calls Try.prog 77 #[.pointer (some ⟨b, 0, none⟩)] w (StepOut w b none) := by
  have c1 := pop_any b 0 (.inl rfl) u [] c x w h hu (by simp)
  have c2 := fun W (hW : SdIn W b 0 u [] c) => pop_none b 7 (.inr rfl) u c W hW (by omega)
  have C1 := Lib.hid c1; have C2 := Lib.hid c2
  clear c1 c2 h hu
  go_enter Try.func77, Try.ntmps77
  go_wp2_with (first
    | (go_at_call 93; ((with_reducible refine C1.out.mono ?_); rintro e w1 ⟨rfl, hs1, hg1⟩; have HS1 := Lib.hid hs1; have HG1 := Lib.hid hg1; clear hs1 hg1))
    | (go_at_call 93; ((with_reducible refine (C2.out _ HS1.out).mono ?_); rintro e w2 ⟨rfl, rfl⟩)))
  go_ret
  exact ⟨HG1.out, rfl⟩

end Go.Proofs.Ytnkkgbecdckigac
