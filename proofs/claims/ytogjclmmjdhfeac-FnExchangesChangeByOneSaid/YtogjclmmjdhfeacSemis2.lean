/- Semi-meanders: isSemi, spSemi, IsSemi. -/
/- IsSemi and WindingOf: the program's functions and the model's. -/
/- Slices of systems. -/
/- Lists of semi-meanders: the program's generic lists of systems, the model's spSemis. -/
/- AllSemis: the program's function and the model's. -/
import Derived.Test.YtogjclmmjdhfeacRain
import Derived.Test.YtogjclmmjdhfeacComps
import Derived.Test.YtogjclmmjdhfeacJoin
import Derived.BigRegion
import Derived.IntWalk
import Derived.Test.YtogjclmmjdhfeacOwn
import Derived.Test.YtogjclmmjdhfeacRead
import Derived.OwnWalk
import Derived.Deep.MidRow
import Derived.Great.BuildSlice
import Derived.Test.YtogjclmmjdhfeacFill
import Derived.Test.YtogjclmmjdhfeacClosing
import Derived.Test.YtogjclmmjdhfeacListsLaw
namespace Go.Proofs.Ytogjclmmjdhfeac
open Go.RowKit
set_option linter.unusedSimpArgs false
set_option linter.unusedVariables false

def semiB (l : List Int) : Bool := decide (compsL l (rainbow (l.length / 2)) = 1)
theorem rainbow_good (n : Nat) (h : n ≤ 6) : goodB (rainbow n) = true := by
  have : n = 0 ∨ n = 1 ∨ n = 2 ∨ n = 3 ∨ n = 4 ∨ n = 5 ∨ n = 6 := by omega
  rcases this with rfl | rfl | rfl | rfl | rfl | rfl | rfl <;> decide +kernel
theorem half_len {l : List Int} (h : goodB l = true) : l.length = (rainbow (l.length / 2)).length := by
  rw [rainbow_len]; have := (good_facts h).1; omega


end Go.Proofs.Ytogjclmmjdhfeac

namespace Go.Proofs.Ytogjclmmjdhfeac
open Go.RowKit
set_option linter.unusedSimpArgs false
set_option linter.unusedVariables false

def ok_IsSemi (l : List Int) : Bool := goodB l && decide (l.length ≠ 0)
def res_IsSemi (l : List Int) : Bool := goodB l && decide (l.length ≠ 0) && semiB l




/-- the winding, counted so far -/
def wndN (l : List Int) (q : Nat) : Nat → Nat
  | 0 => 0
  | k + 1 => wndN l q k + if (q : Int) ≤ l.getD k 0 then 1 else 0
def wnd (l : List Int) : Nat := wndN l (l.length / 2) (l.length / 2)
theorem wndN_le (l : List Int) (q : Nat) : ∀ k, wndN l q k ≤ k
  | 0 => by simp [wndN]
  | k + 1 => by have := wndN_le l q k; simp only [wndN]; split <;> omega
theorem wndN_yes {l : List Int} {q k : Nat} (h : (q : Int) ≤ l.getD k 0) : wndN l q (k + 1) = wndN l q k + 1 := by simp only [wndN, if_pos h]
theorem wndN_no {l : List Int} {q k : Nat} (h : ¬ (q : Int) ≤ l.getD k 0) : wndN l q (k + 1) = wndN l q k := by simp only [wndN, if_neg h, Nat.add_zero]


def ok_WindingOf (l : List Int) : Bool := goodB l
def res_WindingOf (l : List Int) : Int := if goodB l then ((wnd l : Nat) : Int) else 0




theorem semi_pos {l : List Int} (h : semiB l = true) : l.length ≠ 0 := by
  intro h0
  have : l = [] := List.eq_nil_of_length_eq_zero h0
  subst this
  revert h
  decide +kernel

end Go.Proofs.Ytogjclmmjdhfeac

namespace Go.Proofs.Ytogjclmmjdhfeac
open Go.RowKit
set_option linter.unusedSimpArgs false
set_option linter.unusedVariables false

def sysR (l : List Int) : List Value := [sysV l 0, sysV l 1, sysV l 2, sysV l 3, sysV l 4, sysV l 5, sysV l 6, sysV l 7, sysV l 8, sysV l 9, sysV l 10, sysV l 11, sysV l 12]
theorem sysR_len (l : List Int) : (sysR l).length = 13 := rfl
theorem sysR_eq {l : List Int} (h : l.length ≤ 12) : (sysC l).toList = sysR l := by rw [sysC_lit h]; rfl
theorem sysR_arr {l : List Int} (h : l.length ≤ 12) : (sysR l).toArray = sysC l := by rw [← sysR_eq h]
theorem sysV_one' (l : List Int) (i : Nat) : (sysV l i).oneCell' = true := by unfold sysV; split <;> rfl
def sysRs (ls : List (List Int)) : List Value := ls.flatMap sysR
theorem sysRs_append (a b : List (List Int)) : sysRs (a ++ b) = sysRs a ++ sysRs b := by simp [sysRs, List.flatMap_append]
theorem sysRs_length : ∀ ls : List (List Int), (sysRs ls).length = ls.length * 13
  | [] => rfl
  | l :: ls => by
    have := sysRs_length ls
    simp only [sysRs, List.flatMap_cons, List.length_append, List.length_cons] at this ⊢
    rw [this, sysR_len]; omega
theorem sysRs_one (ls : List (List Int)) : ∀ v ∈ sysRs ls, v.oneCell' = true := by
  intro v hv
  simp only [sysRs, List.mem_flatMap] at hv
  obtain ⟨l, _, hv⟩ := hv
  simp only [sysR, List.mem_cons, List.not_mem_nil, or_false] at hv
  rcases hv with rfl | rfl | rfl | rfl | rfl | rfl | rfl | rfl | rfl | rfl | rfl | rfl | rfl <;> exact sysV_one' _ _
theorem sysRs_get : ∀ (ls : List (List Int)) (k j : Nat), k < ls.length → j < 13 → (sysRs ls)[k * 13 + j]? = (sysR (ls.getD k []))[j]?
  | [], k, j, h, _ => by simp at h
  | l :: ls, 0, j, _, hj => by
    simp only [sysRs, List.flatMap_cons, Nat.zero_mul, Nat.zero_add, List.getD_cons_zero]
    rw [List.getElem?_append_left (by rw [sysR_len]; exact hj)]
  | l :: ls, k + 1, j, h, hj => by
    have := sysRs_get ls k j (by simpa using h) hj
    simp only [sysRs, List.flatMap_cons, List.getD_cons_succ] at this ⊢
    rw [List.getElem?_append_right (by rw [sysR_len]; omega), sysR_len, show (k + 1) * 13 + j - 13 = k * 13 + j by omega]
    exact this

def OwnS (B : Nat) (w : World) (v : Value) (ls : List (List Int)) : Prop := w.ownsRow B 56 13 v ls.length (sysRs ls)
theorem OwnS.nil (B : Nat) (w : World) : OwnS B w (.slice none 0 0) [] := World.ownsRow_nil w B _ _
theorem OwnS.below {B : Nat} {w w' : World} {v : Value} {ls : List (List Int)} (h : OwnS B w v ls) (hb : Below w.heap.size w w') : OwnS B w' v ls := by
  refine ⟨h.1, ?_⟩
  rcases h.2 with hn | ⟨g, cap, cur, hv, hB, hg, rest⟩
  · exact .inl hn
  · exact .inr ⟨g, cap, cur, hv, hB, (hb.block g (Array.getElem?_eq_some_iff.1 hg).1).trans hg, rest⟩
theorem OwnS.mono {B B' : Nat} {w : World} {v : Value} {ls : List (List Int)} (h : OwnS B w v ls) (hb : B' ≤ B) : OwnS B' w v ls := by
  refine ⟨h.1, ?_⟩
  rcases h.2 with hn | ⟨g, cap, cur, hv, hB, rest⟩
  · exact .inl hn
  · exact .inr ⟨g, cap, cur, hv, by omega, rest⟩
theorem OwnS.lt {B : Nat} {w : World} {v : Value} {ls : List (List Int)} (h : OwnS B w v ls) : ∀ k, v.ownBlock = some k → B ≤ k ∧ k < w.heap.size := World.ownsRow.lt h
theorem OwnS.grown {B : Nat} {w w' : World} {v : Value} {ls : List (List Int)} {row : Option Nat} (h : OwnS B w v ls) (hg : w.grownBy w' row) (hne : ∀ k, v.ownBlock = some k → row ≠ some k) : OwnS B w' v ls :=
  World.ownsRow.kept h hg (by
    cases e : v.ownBlock with
    | none => exact .inl rfl
    | some k => exact .inr fun e' => hne k e e'.symm)
theorem OwnS.form {B : Nat} {w : World} {v : Value} {ls : List (List Int)} (h : OwnS B w v ls) : ∃ a c, v = .slice a ls.length c ∧ ls.length ≤ c ∧ c ≤ maxLen := by
  rcases h.2 with ⟨rfl, hn⟩ | ⟨g, cap, cur, hv, hB, hg, hnc, hcm, _⟩
  · exact ⟨none, 0, by rw [hn], by omega, by unfold maxLen; omega⟩
  · exact ⟨_, cap, hv, hnc, hcm⟩
theorem OwnS.at {B n c : Nat} {a : Option Addr} {w : World} {ls : List (List Int)} (h : OwnS B w (.slice a n c) ls) (hl : 0 < ls.length) :
    ∃ g, a = some ⟨g, 0, none⟩ ∧ n = ls.length ∧ B ≤ g ∧ g < w.heap.size ∧ (∀ k, k < ls.length → w.rangeAt g (k * 13) (sysR (ls.getD k []))) := by
  rcases h.2 with ⟨_, hn⟩ | ⟨g, cap, cur, hv, hB, hg, hnc, hcm, _⟩
  · omega
  · have hn : n = ls.length := by simp at hv; exact hv.2.1
    have ha : a = some ⟨g, 0, none⟩ := by simp at hv; exact hv.1
    have hc : c = cap := by simp at hv; exact hv.2.2
    subst ha; subst hc; subst hn
    have ca := fun j hj => World.ownsRow.cellAt h j hj
    refine ⟨g, rfl, rfl, hB, (Array.getElem?_eq_some_iff.1 hg).1, fun k hk j v hj => ?_⟩
    have hjC : j < 13 := by have := (List.getElem?_eq_some_iff.1 hj).1; rwa [sysR_len] at this
    have : k * 13 + j < ls.length * 13 := by omega
    rw [ca _ this, sysRs_get ls k j hk hjC]
    exact hj
def MadeS (w : World) (ls : List (List Int)) (e : Ending) (w' : World) : Prop := ∃ v, e = .returned v ∧ OwnS w.heap.size w' v ls ∧ Below w.heap.size w w'

/-- an element of a slice, read -/
theorem boxS_load {ops : Array Oper} {rest : List Oper} {o : Oper} {a : Act} {w : World} {Q : Exit → Act → World → Prop} (hgd : o.guard = none) (x : Operand) (ho : o.op = .load 56 x)
    (g off : Nat) (l : List Int) (hl : l.length ≤ 12) (hx : a.eval x = .pointer (some ⟨g, off, none⟩)) (hg : w.rangeAt g off (sysR l))
    (h : wpList Try.prog ops Q rest (a.put o.dst (.agg (sysC l))) w) : wpList Try.prog ops Q (o :: rest) a w :=
  wpList_load_mid hgd _ x ho g off hx (sysR l) _ hg Try.underlying56 rfl (by rw [sys_info]; rfl) (by rw [sysR_arr hl]; exact h)

theorem sysS_zero : (Try.prog.info? 56).map (fun i => (i.zero, i.size, i.bytes)) = some (some (.agg #[.int .i64 0, .int .i64 0, .int .i64 0, .int .i64 0, .int .i64 0, .int .i64 0, .int .i64 0, .int .i64 0, .int .i64 0, .int .i64 0, .int .i64 0, .int .i64 0, .int .i64 0]), 13, 104) := by kernel_rfl

/-- put behind others -/
theorem wp_appendS {ops : Array Oper} {rest : List Oper} {o : Oper} {a : Act} {Q : Exit → Act → World → Prop} (w : World)
    (hg : o.guard = none) (s x : Operand) (hop : o.op = Op.call { callee := Callee.builtin Builtin.append, args := #[s, x], argTypes := #[81, 81] })
    (B g m c : Nat) (v : Value) (ls qs : List (List Int)) (hs : a.eval s = v) (hx : a.eval x = .slice (some ⟨g, 0, none⟩) m c) (hm : m = qs.length) (hc : ∀ j, j < qs.length * 13 → w.cell? ⟨g, j, none⟩ = (sysRs qs)[j]?)
    (hown : OwnS B w v ls) (hlen : ls.length + qs.length ≤ 1000000) (hB : B ≤ w.heap.size)
    (hK : ∀ v' w', OwnS B w' v' (ls ++ qs) → w.grownBy w' v.ownBlock → Below B w w' → (∀ k, v'.ownBlock = some k → v.ownBlock = some k ∨ w.heap.size ≤ k) → wpList Try.prog ops Q rest (a.put o.dst v') w') :
    wpList Try.prog ops Q (o :: rest) a w := by
  obtain ⟨i0, hi0, hz0, hz1, hz2⟩ := info_parts sysS_zero
  have hnews : ∀ j u, (sysRs qs)[j]? = some u → w.cell? ((⟨g, 0, none⟩ : Addr).add j) = some u := by
    intro j u hj
    have hlt : j < qs.length * 13 := by have := (List.getElem?_eq_some_iff.1 hj).1; rwa [sysRs_length] at this
    rw [Addr.add_mid, Nat.zero_add, hc j hlt]
    exact hj
  obtain ⟨v', w', hr, h1, h2, _⟩ := run_append_own (P := Try.prog) w B 81 o.type 56 i0 _ 13 104 Try.underlying81 hi0 hz0 hz1 hz2 rfl (by decide) v ls.length (sysRs ls) hown ⟨g, 0, none⟩ m c (sysRs qs) (by rw [sysRs_length, hm]) hnews (sysRs_one qs) (by unfold maxLen; omega) (by omega) hB
  have h3 := append_where w B 81 o.type 56 i0 _ 13 104 Try.underlying81 hi0 hz0 hz1 hz2 rfl (by decide) v ls.length (sysRs ls) hown ⟨g, 0, none⟩ m c (sysRs qs) (by rw [sysRs_length, hm]) hnews (sysRs_one qs) (by unfold maxLen; omega) (by omega) hB v' w' hr
  refine wpList_plain hg fun _ hK' => ?_
  unfold Oper.wp execOp
  simp only [hop, resolve, invoke, builtin, Sem.run_bind, Sem.run_pure, Result.andThen_ok, List.map_toArray, List.map_cons, List.map_nil, hs, hx, hr]
  have hown' : OwnS B w' v' (ls ++ qs) := by
    unfold OwnS
    rw [List.length_append, sysRs_append, ← hm]
    exact h1
  exact hK' _ _ (hK v' w' hown' h2 (below_grown h2 hB fun k hk => (hown.lt k hk).1) h3)

theorem fillS (l : List Int) : Instr.fill (fun i => some (i * 13, 13)) ((Array.range (1 * 13)).map ((Value.agg #[.int .i64 0, .int .i64 0, .int .i64 0, .int .i64 0, .int .i64 0, .int .i64 0, .int .i64 0, .int .i64 0, .int .i64 0, .int .i64 0, .int .i64 0, .int .i64 0, .int .i64 0]).cells[· % 13]!)) [(0, .agg #[sysV l 0, sysV l 1, sysV l 2, sysV l 3, sysV l 4, sysV l 5, sysV l 6, sysV l 7, sysV l 8, sysV l 9, sysV l 10, sysV l 11, sysV l 12])] = some #[sysV l 0, sysV l 1, sysV l 2, sysV l 3, sysV l 4, sysV l 5, sysV l 6, sysV l 7, sysV l 8, sysV l 9, sysV l 10, sysV l 11, sysV l 12] := by kernel_rfl

/-- a slice with one element -/
theorem wp_buildS {ops : Array Oper} {rest : List Oper} {o : Oper} {a : Act} {Q : Exit → Act → World → Prop} (w : World)
    (hg : o.guard = none) (x : Operand) (hop : o.op = Op.buildSlice 81 1 #[(0, x)]) (l : List Int) (hl : l.length ≤ 12) (hx : a.eval x = .agg (sysC l))
    (h : wpList Try.prog ops Q rest (a.put o.dst (.slice (some ⟨w.heap.size, 0, none⟩) 1 1)) (w.alloc (.cells (sysC l) 56))) : wpList Try.prog ops Q (o :: rest) a w := by
  obtain ⟨i0, hi0, hz0, hz1, hz2⟩ := info_parts sysS_zero
  refine wpList_buildSlice hg 81 56 1 #[(0, x)] hop (sysC l) i0 _ Try.underlying81 hi0 hz0 (by rw [hz1]; omega) (by rw [hz1]; omega) ?_ h
  rw [hz1]
  simp only [List.map_toArray, List.map_cons, List.map_nil, hx]
  rw [sysC_lit hl]
  exact fillS l
theorem builtS (w : World) (l : List Int) (hl : l.length ≤ 12) (j : Nat) (hj : j < 13) : (w.alloc (.cells (sysC l) 56)).cell? ⟨w.heap.size, j, none⟩ = (sysRs [l])[j]? := by
  rw [cell_of_row _ _ j _ _ _ (heap_alloc_new w _), sysC_lit hl]
  simp [sysRs, sysR]
/-- what a slice with one element owns -/
theorem OwnS.lit1 (B : Nat) (w : World) (l : List Int) (hl : l.length ≤ 12) (hB : B ≤ w.heap.size) : OwnS B (w.alloc (.cells (sysC l) 56)) (.slice (some ⟨w.heap.size, 0, none⟩) 1 1) [l] := by
  have h : (w.alloc (.cells (sysC l) 56)).ownsRow B 56 13 (.slice (some ⟨w.heap.size, 0, none⟩) 1 1) 1 (sysC l).toList := World.ownsRow_lit w (sysC l) 1 hB (by unfold maxLen; omega) (by rw [sysC_size hl])
  unfold OwnS
  have e : sysRs [l] = (sysC l).toList := by rw [sysR_eq hl]; simp [sysRs]
  rw [e]
  exact h

/-- 'make([]T, 0, n)' -/
theorem wp_makeS {ops : Array Oper} {rest : List Oper} {o : Oper} {a : Act} {Q : Exit → Act → World → Prop} (w : World)
    (hg : o.guard = none) (l c : Operand) (hop : o.op = Op.makeSlice 81 l c) (n : Nat) (C : Int) (hl : a.eval l = .int .i64 0) (hc : a.eval c = .int .i64 C) (hC : C = n) (hn : n ≤ 1000000)
    (hK : ∀ w', OwnS w.heap.size w' (.slice (some ⟨w.heap.size, 0, none⟩) 0 n) [] → Below w.heap.size w w' → wpList Try.prog ops Q rest (a.put o.dst (.slice (some ⟨w.heap.size, 0, none⟩) 0 n)) w') :
    wpList Try.prog ops Q (o :: rest) a w := by
  obtain ⟨i0, hi0, hz0, hz1, hz2⟩ := info_parts sysS_zero
  refine wpList_make_own w hg l c 81 hop w.heap.size 56 i0 _ 13 Try.underlying81 hi0 hz0 hz1 .i64 .i64 C n hl hc hC (by rw [hz2]; omega) (by unfold maxLen; omega) (Nat.le_refl _) ?_
  intro w1 hown hgrow
  exact hK w1 hown (below_grown hgrow (Nat.le_refl _) (by simp))

end Go.Proofs.Ytogjclmmjdhfeac

namespace Go.Proofs.Ytogjclmmjdhfeac
open Go.RowKit
set_option linter.unusedSimpArgs false
set_option linter.unusedVariables false

def semisL (n : Nat) : List (List Int) := (allL n).filter semiB



end Go.Proofs.Ytogjclmmjdhfeac

namespace Go.Proofs.Ytogjclmmjdhfeac
open Go.RowKit
set_option linter.unusedSimpArgs false
set_option linter.unusedVariables false

theorem semisL_facts {n : Nat} (hn : n ≤ 6) : (semisL n).length ≤ 132 ∧ (∀ k, k < (semisL n).length → goodB ((semisL n).getD k []) = true ∧ ((semisL n).getD k []).length = 2 * n) := by
  have h1 : ∀ l ∈ semisL n, goodB l = true ∧ l.length = 2 * n := by
    intro l hl
    unfold semisL at hl
    obtain ⟨hm, _⟩ := List.mem_filter.1 hl
    obtain ⟨k, hk, rfl⟩ := List.mem_iff_getElem.1 hm
    have := allL_good hn hk
    rw [show (allL n).getD k [] = (allL n)[k] by simp [List.getD, hk]] at this
    exact this
  refine ⟨?_, fun k hk => ?_⟩
  · have := List.length_filter_le semiB (allL n)
    rw [allL_length hn] at this
    have := (catN_bd n hn).2
    unfold semisL
    omega
  · rw [show (semisL n).getD k [] = (semisL n)[k] by simp [List.getD, hk]]
    exact h1 _ (List.getElem_mem hk)

def ok_AllSemis (x : Int) : Bool := inB x 1 6
def res_AllSemis (x : Int) : List (List Int) := if inB x 1 6 then semisL x.toNat else []
theorem allSemis_yes {n : Nat} (h1 : 1 ≤ n) (h6 : n ≤ 6) : res_AllSemis (n : Int) = semisL n ∧ ok_AllSemis (n : Int) = true := by
  have := inB_yes (n := (n : Int)) (lo := 1) (hi := 6) (by omega) (by omega)
  unfold res_AllSemis ok_AllSemis
  rw [this]
  exact ⟨rfl, rfl⟩
theorem allSemis_no {x : Int} (h : ¬ (1 ≤ x ∧ x ≤ 6)) : res_AllSemis x = [] ∧ ok_AllSemis x = false := by
  unfold res_AllSemis ok_AllSemis
  rw [inB_no h]
  exact ⟨rfl, rfl⟩
theorem len_AllSemis (x : Int) : tot (res_AllSemis x) ≤ 1000000 ∧ ∀ i, i < (res_AllSemis x).length → ((res_AllSemis x).getD i []).length ≤ 1000000 := by
  by_cases h : 1 ≤ x ∧ x ≤ 6
  · obtain ⟨n, rfl⟩ := Int.eq_ofNat_of_zero_le (by omega : 0 ≤ x)
    rw [(allSemis_yes (by omega) (by omega)).1]
    have hf := semisL_facts (n := n) (by omega)
    have h3 : ∀ i, i < (semisL n).length → ((semisL n).getD i []).length ≤ 12 := fun i hi => by have := (hf.2 i hi).2; omega
    exact ⟨by have := tot_le h3; have := hf.1; omega, fun i hi => Nat.le_trans (h3 i hi) (by omega)⟩
  · rw [(allSemis_no h).1]
    exact ⟨by simp [tot], fun i hi => by simp at hi⟩


set_option maxHeartbeats 2000000 in
set_option maxRecDepth 100000 in
theorem listsSys_any (ls : List (List Int)) (hgd : ∀ k, k < ls.length → (ls.getD k []).length ≤ 12) (hn : ls.length ≤ 20000) (B : Nat) (w : World) (v : Value) (hown : OwnS B w v ls) :
    Calls Try.prog 60 #[v] w (MadeLL w ls) := by
  have HLC := Lib.hid (fun k (hk : k < ls.length) w => list_any (ls.getD k []) w (hgd k hk))
  have HGL := Lib.hid hgd
  have HTS : Hid (∀ k, k < ls.length → ls.take (k + 1) = ls.take k ++ [ls.getD k []]) := fun k hk => by
    rw [List.take_succ_eq_append_getElem hk]
    simp [List.getD, hk]
  clear hgd
  obtain ⟨a0, c0, rfl, hx1, hx2⟩ := hown.form
  unfold maxLen at hx2
  have HO := Lib.hid hown
  clear hown
  go_enter Try.func60, Try.ntmps60
  go_wp2_with fail
  go_loopw [3, 8] (fun o i wr => ∃ (k : Nat) (vs : List Value), k ≤ ls.length ∧ i = .int .i64 (k : Int) ∧ OwnLL w.heap.size wr.heap.size wr o vs (ls.take k) ∧ Below w.heap.size w wr) (fun _ i _ => ls.length - (intOf i).toNat)
  case atStart => exact ⟨0, [], by omega, rfl, OwnLL.nil _ _ (Nat.le_refl _), Below.refl _ _⟩
  case round =>
    obtain ⟨k, vs, hk, rfl, hown, hbel⟩ := hrel
    generalize wr = wc at *
    by_cases hlt : k < ls.length
    · obtain ⟨g, rfl, hy1, hy2, hy3, hrg⟩ := (HO.out.below hbel).at (by omega)
      have hr := hrg k hlt
      have hts := HTS.out k hlt
      have hcall := HLC.out k hlt
      have hgl := HGL.out k hlt
      have HLT : Hid ((ls.take k).length ≤ ls.length) := by show _ ≤ _; rw [List.length_take]; omega
      generalize ls.getD k [] = t at *
      generalize ls.take k = S at *
      have HR := Lib.hid hr; have HCL := Lib.hid hcall; have HOQ := Lib.hid hown; have HBE := Lib.hid hbel; have HTS2 := Lib.hid hts; have HGL2 := Lib.hid hgl
      have hsz := hbel.size
      clear hy1 hy2 hy3 hrg hr hcall hown hbel hts hgl
      go_wp2_with (first
        | (with_reducible refine boxS_load rfl (.tmp 10) rfl g (k * 13) t HGL2.out rfl HR.out ?_)
        | ((with_reducible refine wp_storeNew rfl (.tmp 5) (.tmp 11) rfl _ t HGL2.out rfl rfl ?_); intro w5 hs5 hb5; have HS5 := Lib.hid hs5; have HB5 := Lib.hid hb5; clear hs5 hb5)
        | (with_reducible refine wp_loadSys rfl (.tmp 5) rfl wc.heap.size t HGL2.out rfl HS5.out ?_)
        | fail)
      show Calls Try.prog 52 #[.agg (sysC t)] _ _
      refine (HCL.out _).mono ?_
      rintro e w6 ⟨p, rfl, hp, hb6⟩
      have HP := Lib.hid hp; have HB6 := Lib.hid (Below.step HB5.out hb6); have HZ5 := Lib.hid HB5.out.size; have HZ6 := Lib.hid hb6.size
      obtain ⟨p1, p2, p3, rfl⟩ := hp.form'
      clear hp hb6
      go_wp2_with (at_builtin; refine wp_appendLL _ rfl (.tmp 12) (.tmp 16) rfl w.heap.size wc.heap.size w5.heap.size w6.heap.size _ (.slice p1 p2 p3) vs S t rfl rfl (cell_lit1 _ _ _) (OwnLL.below HOQ.out (HB6.out.alloc HB6.out.size _)) (Own.below HP.out (Below.alloc1 _ _)) HZ5.out (by have := HZ5.out; omega) (by have := HLT.out; omega) (by have := HB6.out.size; simp; omega) ?_; intro v' w7 hown7 hgr7 hbel7 _; have HO7 := Lib.hid hown7; have HB7 := Lib.hid (chain1 HBE.out hsz HB6.out hbel7); clear hown7 hgr7 hbel7)
      go_roundw
      case rel => exact ⟨k + 1, _, by omega, by go_num, by rw [HTS2.out]; exact HO7.out, HB7.out⟩
      case measure => simp [intOf]; omega
    · obtain rfl : k = ls.length := by omega
      rw [List.take_length] at hown
      obtain ⟨a5, c5, rfl, _⟩ := hown.form
      have HOQ := Lib.hid hown; have HBE := Lib.hid hbel
      clear hown hbel
      go_wp2_with fail
      go_ret
      exact ⟨_, vs, rfl, HOQ.out, HBE.out⟩




end Go.Proofs.Ytogjclmmjdhfeac
