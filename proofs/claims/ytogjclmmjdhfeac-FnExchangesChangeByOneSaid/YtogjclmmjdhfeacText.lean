/- SystemText and ParseSystem: the program's functions and the model's. -/
import Derived.Test.YtogjclmmjdhfeacPoints
import Derived.Test.YtogjclmmjdhfeacJoin
import Derived.Laws.IdiomStrings
namespace Go.Proofs.Ytogjclmmjdhfeac
open Go.RowKit
set_option linter.unusedSimpArgs false
set_option linter.unusedVariables false

/-! rows of bytes -/
def bytesV (bs : List UInt8) : List Value := bs.map fun b => .int .u8 (b.toNat : Int)
def OwnB (B : Nat) (w : World) (v : Value) (bs : List UInt8) : Prop := w.ownsRow B 5 1 v bs.length (bytesV bs)
theorem OwnB.n {B g c n : Nat} {w : World} {l : List UInt8} (h : OwnB B w (.slice (some ⟨g, 0, none⟩) n c) l) : n = l.length := by
  rcases h.2 with ⟨hv, _⟩ | ⟨g', cap, cur, hv, _⟩
  · cases hv
  · simp at hv; exact hv.2.1
theorem OwnB.cellAt {B g c n : Nat} {w : World} {l : List UInt8} (h : OwnB B w (.slice (some ⟨g, 0, none⟩) n c) l) (j : Nat) (hj : j < l.length) : w.cell? ⟨g, j, none⟩ = some (.int .u8 ((l.getD j 0).toNat : Int)) := by
  obtain rfl := h.n
  have := World.ownsRow.cellAt h j (by omega)
  rw [this]
  simp [bytesV, List.getElem?_eq_getElem hj, List.getD]
theorem OwnB.frozenAt {B g c n : Nat} {w : World} {l : List UInt8} (h : OwnB B w (.slice (some ⟨g, 0, none⟩) n c) l) (j : Nat) : w.frozen? ⟨g, j, none⟩ = false := by
  obtain rfl := h.n
  exact World.ownsRow.frozenAt h j
theorem OwnB.stored {B g c n : Nat} {w : World} {l : List UInt8} (h : OwnB B w (.slice (some ⟨g, 0, none⟩) n c) l) (j : Nat) (x : UInt8) :
    OwnB B (w.setCell ⟨g, j, none⟩ (.int .u8 (x.toNat : Int))) (.slice (some ⟨g, 0, none⟩) n c) (l.set j x) := by
  obtain rfl := h.n
  have := (World.ownsRow.stored h j (.int .u8 (x.toNat : Int))).1
  unfold OwnB bytesV
  rw [List.length_set, List.map_set]
  exact this
theorem OwnB.below {B : Nat} {w w' : World} {v : Value} {l : List UInt8} (h : OwnB B w v l) (hb : Below w.heap.size w w') : OwnB B w' v l := by
  refine ⟨h.1, ?_⟩
  rcases h.2 with hn | ⟨g, cap, cur, hv, hB, hg, rest⟩
  · exact .inl hn
  · exact .inr ⟨g, cap, cur, hv, hB, (hb.block g (Array.getElem?_eq_some_iff.1 hg).1).trans hg, rest⟩
theorem infoU8 : (Try.prog.info? 5).map (fun i => (i.zero, i.size, i.bytes)) = some (some (.int .u8 0), 1, 1) := by kernel_rfl
theorem wp_makeB {ops : Array Oper} {rest : List Oper} {o : Oper} {a : Act} {Q : Exit → Act → World → Prop} (w : World)
    (hg : o.guard = none) (l c : Operand) (hop : o.op = Op.makeSlice 22 l c) (n : Nat) (L C : Int) (hl : a.eval l = .int .i64 L) (hc : a.eval c = .int .i64 C) (hL : L = n) (hC : C = n) (hn : n ≤ 1000000000)
    (hK : ∀ w', OwnB w.heap.size w' (.slice (some ⟨w.heap.size, 0, none⟩) n n) (List.replicate n 0) → Below w.heap.size w w' → w.heap.size < w'.heap.size → wpList Try.prog ops Q rest (a.put o.dst (.slice (some ⟨w.heap.size, 0, none⟩) n n)) w') :
    wpList Try.prog ops Q (o :: rest) a w := by
  obtain ⟨i0, hi, hz0, hz1, hz2⟩ := info_parts infoU8
  refine wpList_make_full w hg l c 22 hop w.heap.size 5 i0 (.int .u8 0) 1 Try.underlying22 hi hz0 hz1 .i64 .i64 L C n hl hc hL hC (by rw [hz2]; omega) (by unfold maxLen; omega) (Nat.le_refl _) ?_
  intro w1 hown hgrow
  have hown1 : OwnB w.heap.size w1 (.slice (some ⟨w.heap.size, 0, none⟩) n n) (List.replicate n 0) := by
    have e : (madeCells (Value.int .u8 0).cells (n * 1)).toList = bytesV (List.replicate n 0) := by
      rw [Nat.mul_one, bytesV, List.map_replicate]; exact toList_madeCells_one (Value.int .u8 0) n
    rw [e] at hown
    unfold OwnB
    rw [List.length_replicate]
    exact hown
  exact hK w1 hown1 (below_grown hgrow (Nat.le_refl _) (by simp)) (World.ownsRow.lt hown1 w.heap.size rfl).2

/-! the text -/
def chB (l : List Int) (i : Nat) : UInt8 := if (i : Int) < l.getD i 0 then 40 else 41
def textU (l : List Int) (k : Nat) : List UInt8 := (List.range k).map (chB l)
theorem textU_succ (l : List Int) (k : Nat) : textU l (k + 1) = textU l k ++ [chB l k] := by simp [textU, List.range_succ]
theorem textU_len (l : List Int) (k : Nat) : (textU l k).length = k := by simp [textU]
def textT (l : List Int) (k : Nat) : ByteArray := ⟨(textU l k).toArray⟩
theorem textT_succ (l : List Int) (k : Nat) : textT l (k + 1) = textT l k ++ ⟨#[chB l k]⟩ := by
  apply ByteArray.ext
  simp [textT, textU_succ]
theorem textT_size (l : List Int) (k : Nat) : (textT l k).size = k := by
  show (textU l k).toArray.size = k
  rw [List.size_toArray, textU_len]
theorem text_fill (l : List Int) (n k : Nat) (hk : k < n) (x : UInt8) : ((textU l k ++ List.replicate (n - k) 0).set k x).set k (chB l k) = textU l (k + 1) ++ List.replicate (n - (k + 1)) 0 := by
  have e : List.replicate (n - k) (0 : UInt8) = 0 :: List.replicate (n - (k + 1)) 0 := by
    rw [show n - k = (n - (k + 1)) + 1 by omega, List.replicate_succ]
  rw [List.set_set, e, List.set_append_right _ _ (by rw [textU_len]; exact Nat.le_refl _), textU_len, Nat.sub_self, List.set_cons_zero, textU_succ, List.append_assoc]
  rfl
theorem text_fill1 (l : List Int) (n k : Nat) (hk : k < n) (h : chB l k = 41) : (textU l k ++ List.replicate (n - k) 0).set k 41 = textU l (k + 1) ++ List.replicate (n - (k + 1)) 0 := by
  rw [← text_fill l n k hk 41, List.set_set, h]

def ok_SystemText (l : List Int) : Bool := goodB l
def res_SystemText (l : List Int) : ByteArray := if goodB l then textT l l.length else ByteArray.empty



end Go.Proofs.Ytogjclmmjdhfeac
