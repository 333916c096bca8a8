/- Frontiers compared; their cells one by one. -/
import Derived.Test.YtllhdmpnjcemkacFront
import Derived.Laws.StructEq
namespace Go.Proofs.Ytllhdmpnjcemkac
open Go.RowKit Go.Maps
set_option linter.unusedSimpArgs false
set_option linter.unusedVariables false

theorem endL_lit {l : List Int} (h : l.length ≤ 6) : endL l = [endV l 0, endV l 1, endV l 2, endV l 3, endV l 4, endV l 5, endV l 6] := by
  have := endC_lit h
  unfold endC at this
  exact List.toArray_inj this
theorem frC_lit {u d : List Int} (c : Int) (hu : u.length ≤ 6) (hd : d.length ≤ 6) : frC u d c = #[endV u 0, endV u 1, endV u 2, endV u 3, endV u 4, endV u 5, endV u 6, endV d 0, endV d 1, endV d 2, endV d 3, endV d 4, endV d 5, endV d 6, .int .i64 c] := by
  unfold frC frL
  rw [endL_lit hu, endL_lit hd]
  rfl
theorem fr_cells {w : World} {g : Nat} {u d : List Int} {c : Int} (hu : u.length ≤ 6) (hd : d.length ≤ 6) (h : FrIn w g u d c) : w.cell? ⟨g, 0, none⟩ = some (endV u 0) ∧ w.cell? ⟨g, 1, none⟩ = some (endV u 1) ∧ w.cell? ⟨g, 2, none⟩ = some (endV u 2) ∧ w.cell? ⟨g, 3, none⟩ = some (endV u 3) ∧ w.cell? ⟨g, 4, none⟩ = some (endV u 4) ∧ w.cell? ⟨g, 5, none⟩ = some (endV u 5) ∧ w.cell? ⟨g, 6, none⟩ = some (endV u 6) ∧ w.cell? ⟨g, 7, none⟩ = some (endV d 0) ∧ w.cell? ⟨g, 8, none⟩ = some (endV d 1) ∧ w.cell? ⟨g, 9, none⟩ = some (endV d 2) ∧ w.cell? ⟨g, 10, none⟩ = some (endV d 3) ∧ w.cell? ⟨g, 11, none⟩ = some (endV d 4) ∧ w.cell? ⟨g, 12, none⟩ = some (endV d 5) ∧ w.cell? ⟨g, 13, none⟩ = some (endV d 6) ∧ w.cell? ⟨g, 14, none⟩ = some (.int .i64 c) := by
  unfold FrIn at h
  rw [frC_lit c hu hd] at h
  refine ⟨?_, ?_, ?_, ?_, ?_, ?_, ?_, ?_, ?_, ?_, ?_, ?_, ?_, ?_, ?_⟩ <;> (rw [cell_of_row w g _ _ _ _ h]; rfl)

theorem all_range_eqF : ∀ (xs ys : List Int), xs.length = ys.length → ((List.range xs.length).all fun i => xs.getD i 0 == ys.getD i 0) = (xs == ys)
  | [], [], _ => rfl
  | x :: xs, y :: ys, h => by
    have ih := all_range_eqF xs ys (by simpa using h)
    rw [List.length_cons, List.range_succ_eq_map, List.all_cons, List.all_map]
    simp only [List.getD_cons_zero, Function.comp_def, List.getD_cons_succ, ih]
    simp [List.cons_beq_cons]
  | [], _ :: _, h => by simp at h
  | _ :: _, [], h => by simp at h
theorem run_equalIn_intsF {P : Program} (w : World) (d : Nat) (t e : TypeId) (n : Nat) (ht : P.underlying t = some (.array n e)) (he : P.underlying e = some (.int .i64)) (hsz : ∀ w, (sizeOf e).run P w = .ok 1 w)
    (xs ys : List Int) (hx : xs.length = n) (hy : ys.length = n) :
    (Op.equalIn (d + 2) t (.agg (ints xs).toArray) (.agg (ints ys).toArray)).run P w = .ok (xs == ys) w := by
  rw [← all_range_eqF xs ys (hx.trans hy.symm), hx, List.range_eq_range', Op.equalIn]
  simp only [Sem.run_bind, run_underlying ht, Result.andThen_ok, hsz, Std.Legacy.Range.forIn_eq_forIn_range', Std.Legacy.Range.size, Nat.sub_zero, Nat.add_sub_cancel, Nat.div_one]
  have hl : ∀ i ∈ List.range' 0 n 1, i < n := fun i hi => by simpa using (List.mem_range'_1.1 hi).2
  generalize List.range' 0 n 1 = l at hl ⊢
  induction l with
  | nil => simp
  | cons i l ih =>
    have hi : i < n := hl i (by simp)
    have px : (part e (ints xs).toArray (i * 1)).run P w = .ok (.int .i64 (xs.getD i 0)) w := by
      simp [ints, part, isAgg, run_underlying he, List.getD, List.getElem?_eq_getElem (show i < xs.length by omega)]
    have py : (part e (ints ys).toArray (i * 1)).run P w = .ok (.int .i64 (ys.getD i 0)) w := by
      simp [ints, part, isAgg, run_underlying he, List.getD, List.getElem?_eq_getElem (show i < ys.length by omega)]
    have pe : (Op.equalIn (d + 1) e (.int .i64 (xs.getD i 0)) (.int .i64 (ys.getD i 0))).run P w = .ok (xs.getD i 0 == ys.getD i 0) w := run_equalIn_int w d e .i64 .i64 _ _ he
    simp only [List.forIn_cons, Sem.run_bind, px, py, pe, Result.andThen_ok, List.all_cons]
    cases hb : (xs.getD i 0 == ys.getD i 0)
    · simp
    · simp only [Bool.not_true, Bool.false_eq_true, if_false, Sem.run_pure, Result.andThen_ok, Bool.true_and]
      exact ih fun j hj => hl j (by simp [hj])

def sixL (l : List Int) : List Int := [l.getD 0 0, l.getD 1 0, l.getD 2 0, l.getD 3 0, l.getD 4 0, l.getD 5 0]
theorem sixL_get (l : List Int) (i : Nat) (hi : i < 6) : (sixL l).getD i 0 = l.getD i 0 := by
  have e : i = 0 ∨ i = 1 ∨ i = 2 ∨ i = 3 ∨ i = 4 ∨ i = 5 := by omega
  rcases e with rfl | rfl | rfl | rfl | rfl | rfl <;> rfl
theorem sixL_inj {a b : List Int} (ha : a.length ≤ 6) (hl : a.length = b.length) (h : sixL a = sixL b) : a = b := by
  refine List.ext_getElem hl fun i h1 h2 => ?_
  have e1 := sixL_get a i (by omega)
  have e2 := sixL_get b i (by omega)
  rw [h] at e1
  have : a.getD i 0 = b.getD i 0 := by rw [← e1, ← e2]
  simpa [List.getD, h1, h2] using this
def sameF (u d : List Int) (c : Int) (p q : List Int) (e : Int) : Bool := ((sixL u == sixL p && ((u.length : Int) == (p.length : Int))) && (sixL d == sixL q && ((d.length : Int) == (q.length : Int)))) && (c == e)
theorem sameF_iff {u d p q : List Int} {c e : Int} (h1 : u.length ≤ 6) (h2 : d.length ≤ 6) : sameF u d c p q e = decide (u = p ∧ d = q ∧ c = e) := by
  rw [Bool.eq_iff_iff]
  simp only [sameF, Bool.and_eq_true, beq_iff_eq, decide_eq_true_eq]
  constructor
  · rintro ⟨⟨⟨a1, a2⟩, b1, b2⟩, c1⟩
    exact ⟨sixL_inj h1 (by omega) a1, sixL_inj h2 (by omega) b1, c1⟩
  · rintro ⟨rfl, rfl, rfl⟩
    exact ⟨⟨⟨rfl, rfl⟩, rfl, rfl⟩, rfl⟩
set_option maxRecDepth 100000 in
set_option maxHeartbeats 2000000 in
theorem run_equalFr (w : World) (u d p q : List Int) (c e : Int) : (Op.equalIn 10000 77 (.agg #[endV u 0, endV u 1, endV u 2, endV u 3, endV u 4, endV u 5, endV u 6, endV d 0, endV d 1, endV d 2, endV d 3, endV d 4, endV d 5, endV d 6, .int .i64 c]) (.agg #[endV p 0, endV p 1, endV p 2, endV p 3, endV p 4, endV p 5, endV p 6, endV q 0, endV q 1, endV q 2, endV q 3, endV q 4, endV q 5, endV q 6, .int .i64 e])).run Try.prog w = .ok (sameF u d c p q e) w := by
  have hS : Try.prog.underlying 77 = some (.struct (Try.prog.fieldsOf 77)) := by kernel_rfl
  have hp : Try.prog.stoodInHeld 77 = false := by kernel_rfl
  have hsz : ∀ w, (sizeOf 3).run Try.prog w = .ok 1 w := fun w => by go_simp
  have hA : ∀ (t p : List Int) (w : World), (Op.equalIn 9998 73 (.agg #[endV t 0, endV t 1, endV t 2, endV t 3, endV t 4, endV t 5]) (.agg #[endV p 0, endV p 1, endV p 2, endV p 3, endV p 4, endV p 5])).run Try.prog w = .ok (sixL t == sixL p) w :=
    fun t p w => run_equalIn_intsF (P := Try.prog) w 9996 73 3 6 Try.underlying73 Try.underlying3 hsz (sixL t) (sixL p) rfl rfl
  have hB : ∀ (t p : List Int) (w : World), (Op.equalIn 9998 3 (endV t 6) (endV p 6)).run Try.prog w = .ok ((t.length : Int) == (p.length : Int)) w :=
    fun t p w => run_equalIn_int (P := Try.prog) w 9997 3 .i64 .i64 (t.length : Int) (p.length : Int) Try.underlying3
  have hC : ∀ (x y : Int) (w : World), (Op.equalIn 9999 3 (.int .i64 x) (.int .i64 y)).run Try.prog w = .ok (x == y) w :=
    fun x y w => run_equalIn_int (P := Try.prog) w 9998 3 .i64 .i64 x y Try.underlying3
  unfold sameF
  rw [show (10000 : Nat) = 9999 + 1 from rfl, run_equalIn_agg w 9999 77 _ _ hS hp]
  simp only [Program.fieldsOf, Try.underlying77]
  clear hsz
  have HA := Lib.hid hA; have HB := Lib.hid hB; have HC := Lib.hid hC
  clear hA hB hC
  go_simp
  simp only [HA.out, HB.out, HC.out, Result.andThen_ok]
  by_cases hce : c = e <;> cases (sixL u == sixL p) <;> cases ((u.length : Int) == (p.length : Int)) <;> cases (sixL d == sixL q) <;> cases ((d.length : Int) == (q.length : Int)) <;> simp [hce, Result.andThen]

end Go.Proofs.Ytllhdmpnjcemkac
