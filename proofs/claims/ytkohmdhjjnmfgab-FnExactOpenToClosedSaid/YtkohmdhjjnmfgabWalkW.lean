/- The walk round a curve with wordOf's visitor. -/
import Derived.Test.YtkohmdhjjnmfgabWalk
namespace Go.Proofs.Ytkohmdhjjnmfgab
open Go.RowKit
set_option linter.unusedSimpArgs false
set_option linter.unusedVariables false

set_option maxHeartbeats 2000000 in
theorem walk_word (t b : List Int) (T B : Nat → Nat) (n i : Nat) (pt : PairedN T n) (pb : PairedN B n) (hn : n ≤ 12) (hi : i < n) (rt : ∀ k, k < n → t.getD k 0 = ((T k : Nat) : Int)) (rb : ∀ k, k < n → b.getD k 0 = ((B k : Nat) : Int)) (w : World) (p1 p2 : Value)
    (I : List Nat → World → Prop) (h0 : I [] (w.alloc (.cells (pairC t b) 72))) (hP : ∀ d w', I d w' → PairIn w' w.heap.size t b)
    (hV : ∀ d x w', I d w' → x < n → (∃ r, d ++ x :: r = wayN T B n i) → Calls Try.prog 63 #[.int .i64 (x : Int), p1, p2] w' fun e w'' => e = .returned (.tuple #[]) ∧ I (d ++ [x]) w'') :
    Calls Try.prog 62 #[.agg (pairC t b), .int .i64 (i : Int), .func (.func 63) #[] #[p1, p2]] w fun e w' => e = .returned (.tuple #[]) ∧ I (wayN T B n i) w' := by
  have HT := Lib.hid (fun w' (h : PairIn w' w.heap.size t b) x (hx : x < n) => (rt x hx) ▸ h.topAt x (by omega))
  have HB := Lib.hid (fun w' (h : PairIn w' w.heap.size t b) x (hx : x < n) => (rb x hx) ▸ h.botAt x (by omega))
  have HPT := Lib.hid pt; have HPB := Lib.hid pb; have H0 := Lib.hid h0; have HP := Lib.hid hP; have HV := Lib.hid hV
  have HST := Lib.hid (hits_start pt pb hi)
  clear pt pb h0 hP hV rt rb
  go_enter Try.func62, Try.ntmps62
  go_wp2
  go_loopg [6] n (fun g s6 wr => ∃ (x : Nat) (done : List Nat), s6 = .int .i64 (x : Int) ∧ x < n ∧ Hid (Hits T B i g x) ∧ Hid (done ++ wayF T B i g x = wayN T B n i) ∧ Hid (I done wr))
  case atStart => exact ⟨i, [], rfl, hi, HST, Lib.hid rfl, H0⟩
  case round =>
    obtain ⟨x, done, rfl, hx, HH, HD, HI⟩ := hrel
    clear HST H0
    generalize wr = wa at *
    obtain ⟨g', hg', hN⟩ := wayF_next HH.out HD.out
    have p1 := (HPT.out x hx).1
    have p2 := (HPB.out (T x) p1).1
    have HG := Lib.hid hg'; have HN := Lib.hid hN
    have c1 := fun w' h => HT.out w' h x hx
    have c2 := fun w' h => HB.out w' h (T x) p1
    have hpre : ∃ r, done ++ [x, T x] ++ r = wayN T B n i := by
      rcases hN with ⟨_, h⟩ | ⟨_, _, h⟩
      · exact ⟨[], by rw [List.append_nil]; exact h⟩
      · exact ⟨_, h⟩
    have hpre1 : ∃ r, done ++ x :: r = wayN T B n i := by
      obtain ⟨r, h⟩ := hpre
      exact ⟨T x :: r, by rw [← h]; simp⟩
    have hpre2 : ∃ r, (done ++ [x]) ++ T x :: r = wayN T B n i := by
      obtain ⟨r, h⟩ := hpre
      exact ⟨r, by rw [← h]; simp⟩
    have HP1 := Lib.hid hpre1; have HP2 := Lib.hid hpre2
    have C1 := Lib.hid c1; have C2 := Lib.hid c2
    clear hg' hN HH HD c1 c2 hpre hpre1 hpre2
    generalize T x = y at *
    generalize B y = z at *
    go_wp2_with fail
    refine (HV.out done x wa HI.out hx HP1.out).mono ?_
    rintro e w1 ⟨rfl, hI1⟩
    have e1 := C1.out w1 (HP.out _ _ hI1)
    have HI1 := Lib.hid hI1; clear hI1
    go_wp2_with fail
    clear e1
    refine (HV.out _ y w1 HI1.out p1 HP2.out).mono ?_
    rintro e w2 ⟨rfl, hI2⟩
    have e2 := C2.out w2 (HP.out _ _ hI2)
    have HI2 : Hid (I (done ++ [x, y]) w2) := by show I _ _; simpa using hI2
    clear hI2
    by_cases hz : z = i
    · subst hz
      have hE := wayAt_end HN.out
      have HE := Lib.hid hE
      have hq : ((z : Int) == (z : Int)) = true := by simp
      clear hE
      go_wp2
      refine bodyPost_ret (results_none rfl _ _ _) rfl ?_
      exact ⟨rfl, by rw [← HE.out]; exact HI2.out⟩
    · have hq : ((z : Int) == (i : Int)) = false := by simp; omega
      have HA : Hid (Hits T B i g' z ∧ (done ++ [x, y]) ++ wayF T B i g' z = wayN T B n i) := by
        rcases HN.out with ⟨h, _⟩ | ⟨_, h1, h2⟩
        · exact absurd h hz
        · exact ⟨h1, h2⟩
      clear hz
      go_wp2_with fail
      go_roundg g'
      case measure => have := HG.out; omega
      case rel => exact ⟨z, done ++ [x, y], rfl, p2, HA.out.1, HA.out.2, HI2⟩

end Go.Proofs.Ytkohmdhjjnmfgab
