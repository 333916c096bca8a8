/- Slices of int: what they read as, and what a call owns. -/
/- Contracts of the laws' own helpers on slices of int. -/
/- Slices of int: their headers, where an append leaves them, writes between two bounds. -/
import Derived.Test.YtogjclmmjdhfeacProg
import Derived.Test.YtogjclmmjdhfeacMath
import Derived.WalkKit
import Derived.WalkSpells
import Derived.WalkLawsBesides
import Derived.WalkSmall
import Derived.Lib.Hide
import Derived.Deep.Draws
import Derived.Laws.AppendOwnNone
import Derived.Deep.QuietTactic
import Derived.BigQuiet
namespace Go.Proofs.Ytogjclmmjdhfeac
open Go.RowKit
set_option linter.unusedSimpArgs false
set_option linter.unusedVariables false

/-- a slice value reads as a list of numbers -/
def Rd (w : World) (v : Value) (l : List Int) : Prop :=
  ∃ a c, v = .slice a l.length c ∧ l.length ≤ c ∧ c ≤ maxLen ∧ (a = none → c = 0) ∧
    (l = [] ∨ ∃ b off, a = some ⟨b, off, none⟩ ∧ ∀ k, k < l.length → w.cell? ⟨b, off + k, none⟩ = some (.int .i64 (l.getD k 0)))

def ints (l : List Int) : List Value := l.map (Value.int .i64)

theorem ints_one (l : List Int) : ∀ u ∈ ints l, u.oneCell' = true := ints_oneCell _ _
theorem ints_length (l : List Int) : (ints l).length = l.length := by simp [ints]

/-- a slice of numbers that the call made itself -/
def Own (B : Nat) (w : World) (v : Value) (l : List Int) : Prop := w.ownsRow B 3 1 v l.length (ints l)

theorem Own.rd {B : Nat} {w : World} {v : Value} {l : List Int} (h : Own B w v l) : Rd w v l := by
  rcases h.2 with ⟨hv, hn⟩ | ⟨g, cap, cur, hv, hb, hg, hnc, hcm, hcs, ht⟩
  · have hl : l = [] := List.eq_nil_of_length_eq_zero hn
    subst hl
    exact ⟨none, 0, hv, Nat.le_refl _, by unfold maxLen; omega, fun _ => rfl, .inl rfl⟩
  · refine ⟨some ⟨g, 0, none⟩, cap, hv, hnc, hcm, by simp, .inr ⟨g, 0, rfl, fun k hk => ?_⟩⟩
    rw [Nat.zero_add]
    subst hv
    have := World.ownsRow.cellAt h k (by omega)
    rw [this]
    simp [ints, List.getElem?_eq_getElem hk, List.getD]

theorem Rd.keep {w w' : World} {v : Value} {l : List Int} (h : Rd w v l) (hk : ∀ b o x, w.cell? ⟨b, o, none⟩ = some x → w'.cell? ⟨b, o, none⟩ = some x) : Rd w' v l := by
  obtain ⟨a, c, hv, h1, h2, hn, h3⟩ := h
  refine ⟨a, c, hv, h1, h2, hn, ?_⟩
  rcases h3 with h3 | ⟨b, off, ha, hc⟩
  · exact .inl h3
  · exact .inr ⟨b, off, ha, fun k hk' => hk _ _ _ (hc k hk')⟩

theorem Rd.below {w w' : World} {v : Value} {l : List Int} (h : Rd w v l) (hb : Below w.heap.size w w') : Rd w' v l :=
  h.keep fun b o x hx => (hb.cell (p := ⟨b, o, none⟩) (World.block_lt_of_cell? w _ hx)).trans hx

theorem Rd.drewN {w : World} {v : Value} {l : List Int} (h : Rd w v l) (q : Nat) : Rd (w.drewN q) v l := h

theorem Own.below {B : Nat} {w w' : World} {v : Value} {l : List Int} (h : Own B w v l) (hb : Below w.heap.size w w') : Own B w' v l := by
  refine ⟨h.1, ?_⟩
  rcases h.2 with hn | ⟨g, cap, cur, hv, hB, hg, rest⟩
  · exact .inl hn
  · exact .inr ⟨g, cap, cur, hv, hB, (hb.block g (Array.getElem?_eq_some_iff.1 hg).1).trans hg, rest⟩

theorem Own.mono {B B' : Nat} {w : World} {v : Value} {l : List Int} (h : Own B w v l) (hb : B' ≤ B) : Own B' w v l := by
  refine ⟨h.1, ?_⟩
  rcases h.2 with hn | ⟨g, cap, cur, hv, hB, rest⟩
  · exact .inl hn
  · exact .inr ⟨g, cap, cur, hv, by omega, rest⟩

theorem Own.lt {B : Nat} {w : World} {v : Value} {l : List Int} (h : Own B w v l) : ∀ k, v.ownBlock = some k → B ≤ k ∧ k < w.heap.size := World.ownsRow.lt h

/-- an owned slice under a write to another block -/
theorem Own.grown {B : Nat} {w w' : World} {v : Value} {l : List Int} {row : Option Nat} (h : Own B w v l) (hg : w.grownBy w' row) (hne : ∀ k, v.ownBlock = some k → row ≠ some k) : Own B w' v l :=
  World.ownsRow.kept h hg (by
    cases e : v.ownBlock with
    | none => exact .inl rfl
    | some k => exact .inr fun e' => hne k e e'.symm)

theorem Own.nil (B : Nat) (w : World) : Own B w (.slice none 0 0) [] := World.ownsRow_nil w B _ _

/-- an owned slice has one of two shapes -/
theorem Own.shape {B : Nat} {w : World} {v : Value} {l : List Int} (h : Own B w v l) : (v = .slice none 0 0 ∧ l = []) ∨ ∃ g c, v = .slice (some ⟨g, 0, none⟩) l.length c ∧ B ≤ g ∧ g < w.heap.size ∧ l.length ≤ c ∧ c ≤ maxLen := by
  rcases h.2 with ⟨hv, hn⟩ | ⟨g, cap, cur, hv, hB, hg, hnc, hcm, _⟩
  · exact .inl ⟨hv, List.eq_nil_of_length_eq_zero hn⟩
  · exact .inr ⟨g, cap, hv, hB, (Array.getElem?_eq_some_iff.1 hg).1, hnc, hcm⟩

theorem Own.len {B : Nat} {w : World} {v : Value} {l : List Int} (h : Own B w v l) : l.length ≤ maxLen := by
  obtain ⟨a, c, hv, h1, h2, _, h3⟩ := h.rd; omega

theorem Own.cellAt {B g c n : Nat} {w : World} {l : List Int} (h : Own B w (.slice (some ⟨g, 0, none⟩) n c) l) (j : Nat) (hj : j < l.length) : w.cell? ⟨g, j, none⟩ = some (.int .i64 (l.getD j 0)) := by
  have e : n = l.length := by
    obtain ⟨a, c', hv, _⟩ := h.rd
    simp at hv; exact hv.2.1
  subst e
  have := World.ownsRow.cellAt h j (by omega)
  rw [this]
  simp [ints, List.getElem?_eq_getElem hj, List.getD]

theorem Own.frozenAt {B g c n : Nat} {w : World} {l : List Int} (h : Own B w (.slice (some ⟨g, 0, none⟩) n c) l) (j : Nat) : w.frozen? ⟨g, j, none⟩ = false := by
  have e : n = l.length := by
    obtain ⟨a, c', hv, _⟩ := h.rd
    simp at hv; exact hv.2.1
  subst e
  exact World.ownsRow.frozenAt h j

theorem Own.stored {B g c n : Nat} {w : World} {l : List Int} (h : Own B w (.slice (some ⟨g, 0, none⟩) n c) l) (j : Nat) (x : Int) :
    Own B (w.setCell ⟨g, j, none⟩ (.int .i64 x)) (.slice (some ⟨g, 0, none⟩) n c) (l.set j x) := by
  have e : n = l.length := by
    obtain ⟨a, c', hv, _⟩ := h.rd
    simp at hv; exact hv.2.1
  subst e
  have := (World.ownsRow.stored h j (.int .i64 x)).1
  unfold Own ints
  rw [List.length_set, List.map_set]
  exact this

theorem Rd.at {w : World} {v : Value} {l : List Int} (h : Rd w v l) (hl : 0 < l.length) :
    ∃ b off c, v = .slice (some ⟨b, off, none⟩) l.length c ∧ l.length ≤ c ∧ c ≤ maxLen ∧ ∀ k, k < l.length → w.cell? ⟨b, off + k, none⟩ = some (.int .i64 (l.getD k 0)) := by
  obtain ⟨a, c, hv, h1, h2, _, h3⟩ := h
  rcases h3 with rfl | ⟨b, off, rfl, hc⟩
  · simp at hl
  · exact ⟨b, off, c, hv, h1, h2, hc⟩

theorem below_grown {w w' : World} {row : Option Nat} {B : Nat} (hg : w.grownBy w' row) (hB : B ≤ w.heap.size) (hr : ∀ k, row = some k → B ≤ k) : Below B w w' := (Below.refl B w).grown hg hB hr

theorem Try.info3 : (Try.prog.info? 3).map (fun i => (i.zero, i.size, i.bytes)) = some (some (.int .i64 0), 1, 8) := by kernel_rfl

/-- zeros -/
theorem made_zeros (n : Nat) : (madeCells (Value.int .i64 0).cells (n * 1)).toList = ints (List.replicate n 0) := by
  rw [Nat.mul_one]
  have := toList_madeCells_one (Value.int .i64 0) n
  simp [ints, List.map_replicate]
  exact this

/-- 'make([]int, n)' -/
theorem wp_make {ops : Array Oper} {rest : List Oper} {o : Oper} {a : Act} {Q : Exit → Act → World → Prop} (w : World)
    (hg : o.guard = none) (l c : Operand) (hop : o.op = Op.makeSlice 24 l c) (n : Nat) (L C : Int) (hl : a.eval l = .int .i64 L) (hc : a.eval c = .int .i64 C) (hL : L = n) (hC : C = n) (hn : n ≤ 1000000000)
    (hK : ∀ w', Own w.heap.size w' (.slice (some ⟨w.heap.size, 0, none⟩) n n) (List.replicate n 0) → Below w.heap.size w w' → w.heap.size < w'.heap.size → wpList Try.prog ops Q rest (a.put o.dst (.slice (some ⟨w.heap.size, 0, none⟩) n n)) w') :
    wpList Try.prog ops Q (o :: rest) a w := by
  obtain ⟨i0, hi, hz0, hz1, hz2⟩ := info_parts Try.info3
  refine wpList_make_full w hg l c 24 hop w.heap.size 3 i0 (.int .i64 0) 1 Try.underlying24 hi hz0 hz1 .i64 .i64 L C n hl hc hL hC (by rw [hz2]; omega) (by unfold maxLen; omega) (Nat.le_refl _) ?_
  intro w1 hown hgrow
  have hown1 : Own w.heap.size w1 (.slice (some ⟨w.heap.size, 0, none⟩) n n) (List.replicate n 0) := by
    rw [made_zeros n] at hown
    unfold Own
    rw [List.length_replicate]
    exact hown
  refine hK w1 hown1 (below_grown hgrow (Nat.le_refl _) (by simp)) ?_
  rcases hown1.shape with ⟨h, _⟩ | ⟨g, c', h, h2, h3, _⟩
  · cases h
  · simp at h
    omega

theorem fill_set (l : List Int) (n k : Nat) (hn : n = l.length) (hk : k < n) : (l.take k ++ List.replicate (n - k) 0).set k (l.getD k 0) = l.take (k + 1) ++ List.replicate (n - (k + 1)) 0 := by
  subst hn
  have e : List.replicate (l.length - k) (0 : Int) = 0 :: List.replicate (l.length - (k + 1)) 0 := by
    rw [show l.length - k = (l.length - (k + 1)) + 1 by omega, List.replicate_succ]
  have hlen : (l.take k).length = k := by rw [List.length_take]; omega
  rw [e, List.set_append_right _ _ (by omega), hlen, Nat.sub_self, List.set_cons_zero, List.take_succ_eq_append_getElem hk]
  rw [List.append_assoc]
  simp only [List.getD, List.getElem?_eq_getElem hk, Option.getD_some]
  rfl

/-- a slice of numbers that came in, as the laws' shells say it -/
def RowIn (w : World) (a : Option Addr) (len cap : Nat) (zs : List Int) : Prop :=
  (a = none ∧ len = 0 ∧ cap = 0 ∧ zs = []) ∨
  ∃ x, a = some x ∧ len ≤ cap ∧ cap ≤ maxLen ∧ zs.length = cap ∧ (∀ i, i < zs.length → w.cell? (x.add i) = some (.int .i64 (zs.getD i 0))) ∧ ∀ n ∈ zs, (Lit.int .i64 n).wf = true

def Wf (l : List Int) : Prop := ∀ n ∈ l, -9223372036854775808 ≤ n ∧ n ≤ 9223372036854775807

theorem wf_i64 {n : Int} (h : (Lit.int .i64 n).wf = true) : -9223372036854775808 ≤ n ∧ n ≤ 9223372036854775807 := by
  simp [Lit.wf, IntKind.min, IntKind.max, IntKind.signed, IntKind.bits] at h
  omega

theorem RowIn.len {w : World} {a : Option Addr} {len cap : Nat} {zs : List Int} (h : RowIn w a len cap zs) : (zs.take len).length = len := by
  rcases h with ⟨_, rfl, _, rfl⟩ | ⟨x, _, h1, _, h2, _⟩
  · rfl
  · rw [List.length_take]; omega

theorem RowIn.rd {w : World} {a : Option Addr} {len cap : Nat} {zs : List Int} (h : RowIn w a len cap zs) : Rd w (.slice a len cap) (zs.take len) := by
  have hl := h.len
  rcases h with ⟨rfl, rfl, rfl, rfl⟩ | ⟨x, rfl, h1, h2, h3, hc, hw⟩
  · exact ⟨none, 0, rfl, Nat.le_refl _, by unfold maxLen; omega, fun _ => rfl, .inl rfl⟩
  · refine ⟨some x, cap, by rw [hl], by omega, h2, by simp, ?_⟩
    by_cases h0 : len = 0
    · subst h0; exact .inl (by simp)
    · refine .inr ?_
      have hx := hc 0 (by omega)
      have hs : x.spot = none := by
        simp only [Addr.add, if_true] at hx
        unfold World.cell? at hx
        cases hsp : x.spot with
        | none => rfl
        | some q =>
          rw [hsp] at hx
          split at hx <;> simp at hx
      obtain ⟨b, off, sp⟩ := x
      simp at hs
      subst hs
      refine ⟨b, off, rfl, fun k hk => ?_⟩
      have := hc k (by omega)
      rw [Addr.add_lit] at this
      rw [this]
      simp only [List.getD, List.getElem?_take]
      rw [if_pos (by omega)]

theorem RowIn.wf {w : World} {a : Option Addr} {len cap : Nat} {zs : List Int} (h : RowIn w a len cap zs) : Wf (zs.take len) := by
  rcases h with ⟨rfl, rfl, rfl, rfl⟩ | ⟨x, rfl, h1, h2, h3, hc, hw⟩
  · intro n hn; simp at hn
  · intro n hn
    exact wf_i64 (hw n (List.mem_of_mem_take hn))

theorem Below.alloc1 (w : World) (o : Obj) : Below w.heap.size w (w.alloc o) := (Below.refl _ _).alloc (Nat.le_refl _) o
theorem Below.drewN {B : Nat} {a w : World} (h : Below B a w) (q : Nat) : Below B a (w.drewN q) := h.trans ⟨rfl, rfl, rfl, Nat.le_refl _, fun _ _ => rfl⟩

/-- a slice of one number, just laid -/
theorem Own.lit1 (B : Nat) (w : World) (x : Int) (hB : B ≤ w.heap.size) : Own B (w.alloc (.cells #[.int .i64 x] 3)) (.slice (some ⟨w.heap.size, 0, none⟩) 1 1) [x] :=
  World.ownsRow_lit w #[.int .i64 x] 1 hB (by unfold maxLen; omega) rfl

theorem Own.lit2 (B : Nat) (w : World) (x y : Int) (hB : B ≤ w.heap.size) : Own B (w.alloc (.cells #[.int .i64 x, .int .i64 y] 3)) (.slice (some ⟨w.heap.size, 0, none⟩) 2 2) [x, y] :=
  World.ownsRow_lit w #[.int .i64 x, .int .i64 y] 2 hB (by unfold maxLen; omega) rfl

/-- 'append(v, u...)': v the call's own, u whatever reads as a list -/
theorem wp_append {ops : Array Oper} {rest : List Oper} {o : Oper} {a : Act} {Q : Exit → Act → World → Prop} (w : World)
    (hg : o.guard = none) (s x : Operand) (hop : o.op = Op.call { callee := Callee.builtin Builtin.append, args := #[s, x], argTypes := #[24, 24] })
    (B : Nat) (v u : Value) (xs ys : List Int) (hs : a.eval s = v) (hx : a.eval x = u) (hown : Own B w v xs) (hrd : Rd w u ys) (hlen : xs.length + ys.length ≤ 1000000000) (hB : B ≤ w.heap.size)
    (hK : ∀ v' w', Own B w' v' (xs ++ ys) → w.grownBy w' v.ownBlock → Below B w w' → wpList Try.prog ops Q rest (a.put o.dst v') w') :
    wpList Try.prog ops Q (o :: rest) a w := by
  obtain ⟨i0, hi, hz0, hz1, hz2⟩ := info_parts Try.info3
  obtain ⟨ad, c, rfl, hlc, hcm, hn, hc⟩ := hrd
  have fin : ∀ v' w', w'.ownsRow B 3 1 v' (xs.length + ys.length) (ints xs ++ ints ys) → w.grownBy w' v.ownBlock → wpList Try.prog ops Q rest (a.put o.dst v') w' := by
    intro v' w' h1 h2
    have h3 : Own B w' v' (xs ++ ys) := by
      unfold Own ints
      rw [List.length_append, List.map_append]
      exact h1
    exact hK v' w' h3 h2 (below_grown h2 hB fun k hk => (hown.lt k hk).1)
  cases ad with
  | none =>
    obtain rfl := hn rfl
    have hy : ys = [] := List.eq_nil_of_length_eq_zero (by omega)
    subst hy
    refine wpList_append_own_none hg s x 24 hop B 3 i0 1 Try.underlying24 hi v xs.length (ints xs) hs hown hx ?_
    exact fin v w (by simpa [ints, Own] using hown) (World.grownBy.refl _ _)
  | some x0 =>
    refine wpList_append_own w hg s x 24 hop B 3 i0 (.int .i64 0) 1 8 Try.underlying24 hi hz0 hz1 hz2 rfl (by decide) v xs.length (ints xs) hs hown x0 ys.length c (ints ys) hx (by simp [ints]) ?_ (ints_oneCell _ _) (by unfold maxLen; omega) (by omega) hB (fun v' w' h1 h2 _ => fin v' w' h1 h2)
    intro j y hj
    rcases hc with rfl | ⟨b, off, h1, h2⟩
    · simp [ints] at hj
    · simp at h1
      subst h1
      have hjl : j < ys.length := by
        have := (List.getElem?_eq_some_iff.1 hj).1
        simpa [ints] using this
      rw [Addr.add_lit, h2 j hjl]
      simp [ints, List.getElem?_eq_getElem hjl] at hj
      simp [List.getD, List.getElem?_eq_getElem hjl, hj]

/-- a slice without its first element, as 'v[1:]' leaves it -/
theorem Rd.tail {w : World} {b off c n : Nat} {l : List Int} (hl : l.length = n + 1) (hlc : l.length ≤ c) (hcm : c ≤ maxLen) (hc : ∀ k, k < l.length → w.cell? ⟨b, off + k, none⟩ = some (.int .i64 (l.getD k 0))) :
    Rd w (.slice (if c = 1 then some ⟨b, off, none⟩ else some ⟨b, off + 1, none⟩) n (c - 1)) l.tail := by
  have e : n = l.tail.length := by simp; omega
  refine ⟨_, c - 1, by rw [← e], by omega, by omega, by split <;> simp, ?_⟩
  by_cases h1 : n = 0
  · exact .inl (List.eq_nil_of_length_eq_zero (by omega))
  · refine .inr ⟨b, off + 1, by rw [if_neg (by omega)], fun k hk => ?_⟩
    have h2 := hc (k + 1) (by omega)
    rw [Nat.add_assoc, Nat.add_comm 1 k, h2]
    cases l with
    | nil => simp at hl
    | cons y l => simp [List.getD]

end Go.Proofs.Ytogjclmmjdhfeac

namespace Go.Proofs.Ytogjclmmjdhfeac
open Go.RowKit
set_option linter.unusedSimpArgs false
set_option linter.unusedVariables false

/-- the numbers k, k + 1, .. -/
def marks (k : Int) (n : Nat) : List Int := (List.range n).map fun (i : Nat) => k + (i : Int)

theorem marks_length (k : Int) (n : Nat) : (marks k n).length = n := by simp [marks]
theorem marks_get (k : Int) (n i : Nat) (h : i < n) : (marks k n).getD i 0 = k + i := by simp [marks, List.getD, h]

def Equal (w : World) (e : Ending) (w' : World) : Prop := e = .returned (.bool true) ∧ ∃ q, w' = w.drewN q

def Marked (B : Nat) (w : World) (v : Value) (k : Int) (n : Nat) (e : Ending) (w' : World) : Prop :=
  e = .returned (.int .i64 (k + n)) ∧ Own B w' v (marks k n) ∧ w.grownBy w' v.ownBlock

def Held (w : World) (k : Int) (n : Nat) (e : Ending) (w' : World) : Prop := e = .returned (.int .i64 (k + n)) ∧ w = w'

/-! ### the same in one form, for the laws -/
def Gives (w : World) (l : List Int) (ok : Bool) (e : Ending) (w' : World) : Prop := ∃ v, e = .returned (.tuple #[v, .bool ok]) ∧ Own w.heap.size w' v l ∧ Below w.heap.size w w'
def GivesN (w : World) (n : Int) (ok : Bool) (e : Ending) (w' : World) : Prop := e = .returned (.tuple #[.int .i64 n, .bool ok]) ∧ Below w.heap.size w w'
def GivesT (w : World) (s : ByteArray) (ok : Bool) (e : Ending) (w' : World) : Prop := e = .returned (.tuple #[.string s, .bool ok]) ∧ Below w.heap.size w w'
def GivesB (w : World) (ok : Bool) (e : Ending) (w' : World) : Prop := e = .returned (.bool ok) ∧ Below w.heap.size w w'
def GivesD (w : World) (x ok : Bool) (e : Ending) (w' : World) : Prop := e = .returned (.tuple #[.bool x, .bool ok]) ∧ Below w.heap.size w w'
def Good (w : World) (e : Ending) (w' : World) : Prop := e = .returned (.bool true) ∧ Below w.heap.size w w'
def Made (w : World) (l : List Int) (e : Ending) (w' : World) : Prop := ∃ v', e = .returned v' ∧ Own w.heap.size w' v' l ∧ Below w.heap.size w w'

def HeldOk (w : World) (k : Int) (n : Nat) (e : Ending) (w' : World) : Prop := e = .returned (.int .i64 (k + n)) ∧ Below w.heap.size w w'
/-- where the block of an owned slice lies -/
def In (v : Value) (lo hi : Nat) : Prop := ∀ k, v.ownBlock = some k → lo ≤ k ∧ k < hi
theorem Own.inn {B : Nat} {w : World} {v : Value} {l : List Int} (h : Own B w v l) : In v B w.heap.size := h.lt
theorem In.apart {u v : Value} {a b c d : Nat} (hu : In u a b) (hv : In v c d) (h : b ≤ c ∨ d ≤ a) : ∀ k, u.ownBlock = some k → v.ownBlock ≠ some k := by
  intro k h1 h2
  have := hu k h1
  have := hv k h2
  omega
theorem Below.step {w w1 w2 : World} (h : Below w.heap.size w w1) (hb : Below w1.heap.size w1 w2) : Below w.heap.size w w2 := h.trans (hb.mono h.size)
theorem Below.mark {w w1 w2 : World} {v : Value} {B hi : Nat} (h : Below w.heap.size w w1) (hg : w1.grownBy w2 v.ownBlock) (hv : In v B hi) (hB : w.heap.size ≤ B) : Below w.heap.size w w2 :=
  h.grown hg h.size fun k hk => Nat.le_trans hB (hv k hk).1

end Go.Proofs.Ytogjclmmjdhfeac

namespace Go.Proofs.Ytogjclmmjdhfeac
open Go.RowKit
set_option linter.unusedSimpArgs false
set_option linter.unusedVariables false

/-- where the row lies that an append leaves: where it lay, or in a new block -/
theorem append_where {P : Program} (w : World) (base : Nat) (t ty e : TypeId) (i : TypeInfo) (z : Value) (size bytes : Nat) (ht : P.underlying t = some (.slice e)) (hi : P.info? e = some i) (hz : i.zero = some z)
    (hsize : i.size = size) (hby : i.bytes = bytes) (hzs : z.cells.size = size) (hsz : 0 < size)
    (v : Value) (n : Nat) (xs : List Value) (hown : w.ownsRow base e size v n xs)
    (a : Addr) (m c : Nat) (news : List Value) (hl : news.length = m * size) (hnews : ∀ j u, news[j]? = some u → w.cell? (a.add j) = some u) (h1 : ∀ u ∈ news, u.oneCell' = true)
    (h63 : n + m ≤ maxLen) (hbytes : (n + m) * bytes ≤ 140737488355328) (hbase : base ≤ w.heap.size)
    (v' : Value) (w' : World) (hr : (Builtin.append_ #[t, t] ty #[v, .slice (some a) m c]).run P w = .ok v' w') :
    ∀ k, v'.ownBlock = some k → v.ownBlock = some k ∨ w.heap.size ≤ k := by
  intro k hk
  rcases hown.2 with ⟨rfl, rfl⟩ | ⟨g, cap, cur, rfl, hbg, hg, hnc, hcm, hcs, htake⟩
  · have hx : xs = [] := List.eq_nil_of_length_eq_zero (by simpa using hown.1)
    subst hx
    obtain ⟨v2, w2, hr2, ho2, _⟩ := run_append_own (P := P) w w.heap.size t ty e i z size bytes ht hi hz hsize hby hzs hsz (.slice none 0 0) 0 [] (World.ownsRow_nil w _ _ _) a m c news hl hnews h1 h63 hbytes (Nat.le_refl _)
    rw [hr] at hr2
    cases hr2
    exact .inr (ho2.lt k hk).1
  · subst hsize
    by_cases hroom : n + m ≤ cap
    · have hfit : n * i.size + news.length ≤ cur.size := by rw [hl, hcs, ← Nat.add_mul]; exact Nat.mul_le_mul_right _ hroom
      have hr2 := run_append_room (P := P) w t ty e i ht hi g n cap cur hg a m c news hl hnews h1 hroom hfit
      rw [hr] at hr2
      cases hr2
      exact .inl hk
    · have holds : ∀ j u, xs[j]? = some u → w.cell? ((⟨g, 0, none⟩ : Addr).add j) = some u := hown.cells (g := g) rfl
      subst hby
      simp only [maxLen] at h63
      have hr2 := run_append_grow (P := P) w t ty e i z ht hi hz ⟨g, 0, none⟩ n cap xs hown.1 holds a m c news hl hnews (by omega) (by omega) (growslice_fits (by omega) hbytes)
      rw [hr] at hr2
      cases hr2
      simp [Value.ownBlock] at hk
      exact .inr (by omega)

/-- all blocks of v but those from lo on and before hi -/
def Away (v : Value) (lo hi : Nat) : Prop := ∀ k, v.ownBlock = some k → k < lo ∨ hi ≤ k
theorem Away.mono {v : Value} {lo hi lo' hi' : Nat} (h : Away v lo hi) (h1 : lo ≤ lo') (h2 : hi' ≤ hi) : Away v lo' hi' := fun k hk => by have := h k hk; omega

theorem Own.form {B : Nat} {w : World} {v : Value} {l : List Int} (h : Own B w v l) : ∃ a c, v = .slice a l.length c ∧ l.length ≤ c ∧ c ≤ maxLen := by
  rcases h.shape with ⟨rfl, rfl⟩ | ⟨g, c, rfl, _, _, h1, h2⟩
  · exact ⟨none, 0, rfl, Nat.le_refl _, by unfold maxLen; omega⟩
  · exact ⟨_, c, rfl, h1, h2⟩
theorem Own.form' {B : Nat} {w : World} {v : Value} {l : List Int} (h : Own B w v l) : ∃ a n c, v = .slice a n c := by
  obtain ⟨a, c, rfl, _⟩ := h.form; exact ⟨_, _, _, rfl⟩

/-- only blocks from lo on and before hi are written -/
structure Within (lo hi : Nat) (w w' : World) : Prop where
  os : w'.os = w.os
  tape : w'.tape = w.tape
  output : w'.output = w.output
  size : w.heap.size ≤ w'.heap.size
  block : ∀ k, k < w.heap.size → k < lo ∨ hi ≤ k → w'.heap[k]? = w.heap[k]?
theorem Within.refl (lo hi : Nat) (w : World) : Within lo hi w w := ⟨rfl, rfl, rfl, Nat.le_refl _, fun _ _ _ => rfl⟩
theorem Within.trans {lo hi : Nat} {a b c : World} (h : Within lo hi a b) (k : Within lo hi b c) : Within lo hi a c :=
  ⟨k.os.trans h.os, k.tape.trans h.tape, k.output.trans h.output, Nat.le_trans h.size k.size, fun i hi ho => (k.block i (Nat.lt_of_lt_of_le hi h.size) ho).trans (h.block i hi ho)⟩
theorem Within.of_grown {lo hi : Nat} {w w' : World} {v : Value} (h : w.grownBy w' v.ownBlock) (hv : In v lo hi) : Within lo hi w w' :=
  ⟨h.os, h.tape, h.output, h.size, fun k hk ho => h.block k hk (fun e => by have := hv k e.symm; omega)⟩
theorem Within.mono {lo hi lo' hi' : Nat} {w w' : World} (h : Within lo hi w w') (h1 : lo' ≤ lo) (h2 : hi ≤ hi') : Within lo' hi' w w' :=
  ⟨h.os, h.tape, h.output, h.size, fun k hk ho => h.block k hk (by omega)⟩
theorem Within.below {lo hi B : Nat} {w0 w w' : World} (hb : Below B w0 w) (h : Within lo hi w w') (hB : B ≤ lo) (hs : B ≤ w.heap.size) : Below B w0 w' :=
  ⟨h.os.trans hb.os, h.tape.trans hb.tape, h.output.trans hb.output, Nat.le_trans hb.size h.size, fun k hk => (h.block k (by omega) (by omega)).trans (hb.block k hk)⟩
theorem Own.within {B lo hi b e : Nat} {w w' : World} {v : Value} {l : List Int} (h : Own B w v l) (hw : Within lo hi w w') (hv : In v b e) (ha : e ≤ lo ∨ hi ≤ b) : Own B w' v l := by
  refine ⟨h.1, ?_⟩
  rcases h.2 with hn | ⟨g, cap, cur, rfl, hB, hg, rest⟩
  · exact .inl hn
  · refine .inr ⟨g, cap, cur, rfl, hB, (hw.block g (Array.getElem?_eq_some_iff.1 hg).1 ?_).trans hg, rest⟩
    have := hv g rfl; omega

theorem chain1 {w w1 w2 w3 : World} {A : Obj} {B : Nat} (h : Below B w w1) (hB : B ≤ w1.heap.size) (h2 : Below w1.heap.size w1 w2) (h3 : Below B (w2.alloc A) w3) : Below B w w3 :=
  (((h.trans (h2.mono hB)).alloc (Nat.le_trans hB h2.size) A)).trans h3
theorem filter_take_succ (p : List Int → Bool) (L : List (List Int)) (k : Nat) (h : k < L.length) : (L.take (k + 1)).filter p = (L.take k).filter p ++ (if p (L.getD k []) then [L.getD k []] else []) := by
  rw [List.take_add_one, List.filter_append]
  congr 1
  simp [List.getElem?_eq_getElem h, List.getD, List.filter_cons]

theorem grown_setCell {w : World} {b i : Nat} {v : Value} : w.grownBy (w.setCell ⟨b, i, none⟩ v) (some b) :=
  ⟨rfl, rfl, rfl, by simp, fun k _ hk => heap_setCell_other w ⟨b, i, none⟩ k _ (fun e => hk (by simp [e]))⟩
theorem grown_trans {w w1 w2 : World} {b : Option Nat} (h1 : w.grownBy w1 b) (h2 : w1.grownBy w2 b) : w.grownBy w2 b :=
  ⟨h2.os.trans h1.os, h2.tape.trans h1.tape, h2.output.trans h1.output, Nat.le_trans h1.size h2.size, fun k hk hne => (h2.block k (Nat.lt_of_lt_of_le hk h1.size) hne).trans (h1.block k hk hne)⟩
theorem grown_drewN {w w1 : World} {b : Option Nat} (h1 : w.grownBy w1 b) (q : Nat) : w.grownBy (w1.drewN q) b := ⟨h1.os, h1.tape, h1.output, h1.size, h1.block⟩


end Go.Proofs.Ytogjclmmjdhfeac
