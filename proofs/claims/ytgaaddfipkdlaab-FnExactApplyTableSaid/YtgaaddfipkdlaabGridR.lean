/- The program's readRows. -/
import Derived.Test.YtgaaddfipkdlaabGrid
import Derived.Test.YtgaaddfipkdlaabShift
namespace Go.Proofs.Ytgaaddfipkdlaab
open Go.RowKit
set_option linter.unusedSimpArgs false
set_option linter.unusedVariables false

def RowsOut (w : World) (v : Value) (b : Bool) (e : Ending) (w' : World) : Prop := (∃ u, e = .returned (.tuple #[u, .bool b]) ∧ (b = true → u = v)) ∧ Below w.heap.size w w'
set_option maxHeartbeats 1000000 in
theorem readRows_any (lo hi : Nat) (v : Value) (vs : List Value) (ls : List (List Int)) (w : World) (h : OwnLL lo hi w v vs ls) :
    Calls Try.prog 51 #[v] w (RowsOut w v (rowsB ls)) := by
  obtain ⟨a, c, rfl, h2, h3⟩ := h.form
  unfold maxLen at h3
  have B1 := Below.alloc1 w (.cells #[.int .i64 16] 3)
  have B2 := Below.alloc1 w (.cells #[.int .i64 100] 3)
  have c1 := cell_lit1 w (.int .i64 16) 3
  have c2 := cell_lit1 w (.int .i64 100) 3
  have HB1 := Lib.hid B1; have HB2 := Lib.hid B2; have HC1 := Lib.hid c1; have HC2 := Lib.hid c2
  have HO := Lib.hid h
  have HSQ := Lib.hid (fun W (hb : Below w.heap.size w W) => isSquare_any lo hi (.slice a ls.length c) vs ls W (h.below hb))
  have HEV := Lib.hid (fun W (hb : Below w.heap.size w W) m b hc h0 h1 => every_any lo hi (.slice a ls.length c) vs ls W (h.below hb) m b hc h0 h1)
  obtain ⟨R, hR⟩ : ∃ R, rowsB ls = R := ⟨_, rfl⟩
  rw [hR]
  unfold rowsB at hR
  obtain ⟨s, hs⟩ : ∃ s, sqB ls = s := ⟨_, rfl⟩
  rw [hs] at hR HSQ
  clear h B1 B2 c1 c2 hs
  by_cases h5 : ls.length ≤ 5
  · rw [limR_few h5] at hR
    obtain ⟨q, hq⟩ : ∃ q, wiB 100 ls = q := ⟨_, rfl⟩
    have HEV1 := Lib.hid (fun W (hb : Below w.heap.size w W) b hc => HEV.out W hb 100 b hc (by omega) (by omega))
    rw [hq] at hR HEV1
    clear hq HEV
    by_cases hin : 1 ≤ ls.length
    · have hin2 : 1 ≤ ls.length ∧ ls.length ≤ 14 := ⟨hin, by omega⟩
      rw [decide_eq_true hin2, Bool.true_and] at hR
      have HR := Lib.hid hR
      clear hR hin2
      cases s
      all_goals
        go_enter Try.func51, Try.ntmps51
        go_wp2_with (first
          | (go_at_call 76; ((with_reducible refine (HSQ.out _ HB2.out).mono ?_); rintro e w1 ⟨rfl, rfl⟩))
          | (go_at_call 77; ((with_reducible refine (HEV1.out _ HB2.out _ HC2.out).mono ?_); rintro e w1 ⟨rfl, rfl⟩)))
        go_ret2
        first
          | exact ⟨⟨_, by rw [← HR.out]; rfl, fun _ => rfl⟩, HB2.out⟩
          | exact ⟨⟨_, by rw [← HR.out]; rfl, fun e => by rw [← HR.out] at e; simp at e⟩, HB2.out⟩
    · rw [decide_eq_false (fun h => hin h.1), Bool.false_and] at hR
      subst hR
      go_enter Try.func51, Try.ntmps51
      go_wp2_with fail
      go_ret2
      exact ⟨⟨_, rfl, fun e => by simp at e⟩, HB2.out⟩
  · rw [limR_many h5] at hR
    obtain ⟨q, hq⟩ : ∃ q, wiB 16 ls = q := ⟨_, rfl⟩
    have HEV1 := Lib.hid (fun W (hb : Below w.heap.size w W) b hc => HEV.out W hb 16 b hc (by omega) (by omega))
    rw [hq] at hR HEV1
    clear hq HEV
    by_cases hin : ls.length ≤ 14
    · have hin2 : 1 ≤ ls.length ∧ ls.length ≤ 14 := ⟨by omega, hin⟩
      rw [decide_eq_true hin2, Bool.true_and] at hR
      have HR := Lib.hid hR
      clear hR hin2
      cases s
      all_goals
        go_enter Try.func51, Try.ntmps51
        go_wp2_with (first
          | (go_at_call 76; ((with_reducible refine (HSQ.out _ HB1.out).mono ?_); rintro e w1 ⟨rfl, rfl⟩))
          | (go_at_call 77; ((with_reducible refine (HEV1.out _ HB1.out _ HC1.out).mono ?_); rintro e w1 ⟨rfl, rfl⟩)))
        go_ret2
        first
          | exact ⟨⟨_, by rw [← HR.out]; rfl, fun _ => rfl⟩, HB1.out⟩
          | exact ⟨⟨_, by rw [← HR.out]; rfl, fun e => by rw [← HR.out] at e; simp at e⟩, HB1.out⟩
    · rw [decide_eq_false (fun h => hin h.2), Bool.false_and] at hR
      subst hR
      go_enter Try.func51, Try.ntmps51
      go_wp2_with fail
      go_ret2
      exact ⟨⟨_, rfl, fun e => by simp at e⟩, HB1.out⟩
end Go.Proofs.Ytgaaddfipkdlaab
