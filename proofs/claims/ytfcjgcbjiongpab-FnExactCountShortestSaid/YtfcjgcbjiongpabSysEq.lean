/- Two systems compared: '=='. -/
import Derived.Test.YtfcjgcbjiongpabJoin
import Derived.Laws.StructEq
namespace Go.Proofs.Ytfcjgcbjiongpab
open Go.RowKit
set_option linter.unusedSimpArgs false
set_option linter.unusedVariables false

theorem all_range_eqI : ∀ (xs ys : List Int), xs.length = ys.length → ((List.range xs.length).all fun i => xs.getD i 0 == ys.getD i 0) = (xs == ys)
  | [], [], _ => rfl
  | x :: xs, y :: ys, h => by
    have ih := all_range_eqI xs ys (by simpa using h)
    rw [List.length_cons, List.range_succ_eq_map, List.all_cons, List.all_map]
    simp only [List.getD_cons_zero, Function.comp_def, List.getD_cons_succ, ih]
    simp [List.cons_beq_cons]
  | [], _ :: _, h => by simp at h
  | _ :: _, [], h => by simp at h
theorem run_equalIn_ints {P : Program} (w : World) (d : Nat) (t e : TypeId) (n : Nat) (ht : P.underlying t = some (.array n e)) (he : P.underlying e = some (.int .i64)) (hsz : ∀ w, (sizeOf e).run P w = .ok 1 w)
    (xs ys : List Int) (hx : xs.length = n) (hy : ys.length = n) :
    (Op.equalIn (d + 2) t (.agg (ints xs).toArray) (.agg (ints ys).toArray)).run P w = .ok (xs == ys) w := by
  rw [← all_range_eqI xs ys (hx.trans hy.symm), hx, List.range_eq_range', Op.equalIn]
  simp only [Sem.run_bind, run_underlying ht, Result.andThen_ok, hsz, Std.Legacy.Range.forIn_eq_forIn_range', Std.Legacy.Range.size, Nat.sub_zero, Nat.add_sub_cancel, Nat.div_one]
  have hl : ∀ i ∈ List.range' 0 n 1, i < n := fun i hi => by simpa using (List.mem_range'_1.1 hi).2
  generalize List.range' 0 n 1 = l at hl ⊢
  induction l with
  | nil => simp
  | cons i l ih =>
    have hi : i < n := hl i (by simp)
    have px : (part e (ints xs).toArray (i * 1)).run P w = .ok (.int .i64 (xs.getD i 0)) w := by
      simp [ints, part, isAgg, run_underlying he, List.getD, List.getElem?_eq_getElem (show i < xs.length by omega)]
    have py : (part e (ints ys).toArray (i * 1)).run P w = .ok (.int .i64 (ys.getD i 0)) w := by
      simp [ints, part, isAgg, run_underlying he, List.getD, List.getElem?_eq_getElem (show i < ys.length by omega)]
    have pe : (Op.equalIn (d + 1) e (.int .i64 (xs.getD i 0)) (.int .i64 (ys.getD i 0))).run P w = .ok (xs.getD i 0 == ys.getD i 0) w := run_equalIn_int w d e .i64 .i64 _ _ he
    simp only [List.forIn_cons, Sem.run_bind, px, py, pe, Result.andThen_ok, List.all_cons]
    cases hb : (xs.getD i 0 == ys.getD i 0)
    · simp
    · simp only [Bool.not_true, Bool.false_eq_true, if_false, Sem.run_pure, Result.andThen_ok, Bool.true_and]
      exact ih fun j hj => hl j (by simp [hj])

def twelve (l : List Int) : List Int := [l.getD 0 0, l.getD 1 0, l.getD 2 0, l.getD 3 0, l.getD 4 0, l.getD 5 0, l.getD 6 0, l.getD 7 0, l.getD 8 0, l.getD 9 0, l.getD 10 0, l.getD 11 0]
theorem twelve_get (l : List Int) (i : Nat) (hi : i < 12) : (twelve l).getD i 0 = l.getD i 0 := by
  have e : i = 0 ∨ i = 1 ∨ i = 2 ∨ i = 3 ∨ i = 4 ∨ i = 5 ∨ i = 6 ∨ i = 7 ∨ i = 8 ∨ i = 9 ∨ i = 10 ∨ i = 11 := by omega
  rcases e with rfl | rfl | rfl | rfl | rfl | rfl | rfl | rfl | rfl | rfl | rfl | rfl <;> rfl
theorem twelve_inj {a b : List Int} (ha : a.length ≤ 12) (hl : a.length = b.length) (h : twelve a = twelve b) : a = b := by
  refine List.ext_getElem hl fun i h1 h2 => ?_
  have e1 := twelve_get a i (by omega)
  have e2 := twelve_get b i (by omega)
  rw [h] at e1
  have : a.getD i 0 = b.getD i 0 := by rw [← e1, ← e2]
  simpa [List.getD, h1, h2] using this

theorem run_eqSys (w : World) (d : Nat) (t p : List Int) :
    (Op.equalIn (d + 3) 53 (.agg #[sysV t 0, sysV t 1, sysV t 2, sysV t 3, sysV t 4, sysV t 5, sysV t 6, sysV t 7, sysV t 8, sysV t 9, sysV t 10, sysV t 11, sysV t 12]) (.agg #[sysV p 0, sysV p 1, sysV p 2, sysV p 3, sysV p 4, sysV p 5, sysV p 6, sysV p 7, sysV p 8, sysV p 9, sysV p 10, sysV p 11, sysV p 12])).run Try.prog w = .ok (twelve t == twelve p && ((t.length : Int) == (p.length : Int))) w := by
  have hS : Try.prog.underlying 53 = some (.struct (Try.prog.fieldsOf 53)) := by kernel_rfl
  have hp : Try.prog.stoodInHeld 53 = false := by kernel_rfl
  have hsz : ∀ w, (sizeOf 3).run Try.prog w = .ok 1 w := fun w => by go_simp
  have hm := run_equalIn_ints (P := Try.prog) w d 51 3 12 Try.underlying51 Try.underlying3 hsz (twelve t) (twelve p) rfl rfl
  have hn := run_equalIn_int (P := Try.prog) w (d + 1) 3 .i64 .i64 (t.length : Int) (p.length : Int) Try.underlying3
  rw [show d + 3 = d + 2 + 1 from rfl, run_equalIn_agg w (d + 2) 53 _ _ hS hp]
  simp only [Program.fieldsOf, Try.underlying53]
  go_simp
  have a1 : (#[sysV t 0, sysV t 1, sysV t 2, sysV t 3, sysV t 4, sysV t 5, sysV t 6, sysV t 7, sysV t 8, sysV t 9, sysV t 10, sysV t 11] : Array Value) = (ints (twelve t)).toArray := rfl
  have a2 : (#[sysV p 0, sysV p 1, sysV p 2, sysV p 3, sysV p 4, sysV p 5, sysV p 6, sysV p 7, sysV p 8, sysV p 9, sysV p 10, sysV p 11] : Array Value) = (ints (twelve p)).toArray := rfl
  have a3 : sysV t 12 = .int .i64 (t.length : Int) := rfl
  have a4 : sysV p 12 = .int .i64 (p.length : Int) := rfl
  rw [a1, a2, a3, a4, hm]
  simp only [Result.andThen_ok]
  rw [hn]
  cases (twelve t == twelve p) <;> cases ((t.length : Int) == (p.length : Int)) <;> rfl


end Go.Proofs.Ytfcjgcbjiongpab
