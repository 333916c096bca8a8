/- Slices of texts of the call's own: made and written; texts of numbers. -/
import Derived.Test.YtgaaddfipkdlaaaDoorStr0
import Derived.Test.YtgaaddfipkdlaaaDoorLayTexts
import Derived.Test.YtgaaddfipkdlaaaDoorAppStep
import Derived.Deep.RegionHeld3
namespace Go.Proofs.YtgaaddfipkdlaaaDoor
open Go.RowKit
set_option linter.unusedSimpArgs false
set_option linter.unusedVariables false

def numA (x : Int) : ByteArray := ⟨(Lib.decDigits x.toNat).toArray⟩
theorem dec_small {n : Nat} (h : n < 10) : Lib.decDigits n = [UInt8.ofNat (48 + n)] := by rw [Lib.decDigits, dif_pos h]
theorem dec_two {n : Nat} (h : ¬ n < 10) : Lib.decDigits n = Lib.decDigits (n / 10) ++ [UInt8.ofNat (48 + n % 10)] := by rw [Lib.decDigits, dif_neg h]
theorem numA_small {n : Nat} (h : n < 10) : numA (n : Int) = ⟨#[UInt8.ofNat (48 + n)]⟩ := by unfold numA; rw [Int.toNat_natCast, dec_small h]
theorem numA_two {n : Nat} (h : ¬ n < 10) (h2 : n < 100) : numA (n : Int) = numA ((n / 10 : Nat) : Int) ++ ⟨#[UInt8.ofNat (48 + n % 10)]⟩ := by
  unfold numA; rw [Int.toNat_natCast, Int.toNat_natCast, dec_two h]
  apply ByteArray.ext
  rw [ByteArray.data_append]; simp
theorem dec_len {n : Nat} (h : n < 100) : 1 ≤ (Lib.decDigits n).length ∧ (Lib.decDigits n).length ≤ 2 := by
  by_cases h1 : n < 10
  · rw [dec_small h1]; simp
  · rw [dec_two h1, dec_small (by omega)]; simp
theorem numA_size {x : Int} (h0 : 0 ≤ x) (h1 : x < 100) : 1 ≤ (numA x).size ∧ (numA x).size ≤ 2 := by
  have := dec_len (n := x.toNat) (by omega)
  unfold numA
  simpa [ByteArray.size] using this
theorem digit_nat {n : Nat} (h : n < 10) : ((UInt8.ofNat (48 + n)).toNat : Int) = 48 + (n : Int) := by
  rw [UInt8.toNat_ofNat_of_lt' (by show _ < 256; omega)]; omega

theorem OwnSt.cellAt {B g c n : Nat} {w : World} {l : List ByteArray} (h : OwnSt B w (.slice (some ⟨g, 0, none⟩) n c) l) (j : Nat) (hj : j < l.length) : w.cell? ⟨g, j, none⟩ = some (.string (l.getD j ByteArray.empty)) := by
  obtain ⟨a, c', hv, _, _, h2⟩ := h.form
  simp only [Value.slice.injEq] at hv
  obtain ⟨rfl, rfl, rfl⟩ := hv
  obtain ⟨g', hg, h3⟩ := h2 (by omega)
  have e : g = g' := by simpa using hg
  subst e; exact h3 j hj
theorem OwnSt.frozenAt {B g c n : Nat} {w : World} {l : List ByteArray} (h : OwnSt B w (.slice (some ⟨g, 0, none⟩) n c) l) (j : Nat) : w.frozen? ⟨g, j, none⟩ = false := by
  have e : n = l.length := by
    obtain ⟨a, c', hv, _⟩ := h.form
    simp at hv; exact hv.2.1
  subst e
  exact World.ownsRow.frozenAt h j
theorem OwnSt.stored {B g c n : Nat} {w : World} {l : List ByteArray} (h : OwnSt B w (.slice (some ⟨g, 0, none⟩) n c) l) (j : Nat) (x : ByteArray) :
    OwnSt B (w.setCell ⟨g, j, none⟩ (.string x)) (.slice (some ⟨g, 0, none⟩) n c) (l.set j x) := by
  have e : n = l.length := by
    obtain ⟨a, c', hv, _⟩ := h.form
    simp at hv; exact hv.2.1
  subst e
  have := (World.ownsRow.stored h j (.string x)).1
  unfold OwnSt strs
  rw [List.length_set, List.map_set]
  exact this
theorem wp_makeSt {ops : Array Oper} {rest : List Oper} {o : Oper} {a : Act} {Q : Exit → Act → World → Prop} (w : World)
    (hg : o.guard = none) (l c : Operand) (hop : o.op = Op.makeSlice 26 l c) (n : Nat) (L C : Int) (hl : a.eval l = .int .i64 L) (hc : a.eval c = .int .i64 C) (hL : L = n) (hC : C = n) (hn : n ≤ 100000000)
    (hK : ∀ w', OwnSt w.heap.size w' (.slice (some ⟨w.heap.size, 0, none⟩) n n) (List.replicate n ByteArray.empty) → Below w.heap.size w w' → w.heap.size < w'.heap.size → wpList Tryd.prog ops Q rest (a.put o.dst (.slice (some ⟨w.heap.size, 0, none⟩) n n)) w') :
    wpList Tryd.prog ops Q (o :: rest) a w := by
  obtain ⟨i0, hi, hz0, hz1, hz2⟩ := info_parts infoStr
  refine wpList_make_full w hg l c 26 hop w.heap.size 9 i0 (.string ByteArray.empty) 1 Tryd.underlying26 hi hz0 hz1 .i64 .i64 L C n hl hc hL hC (by rw [hz2]; omega) (by unfold maxLen; omega) (Nat.le_refl _) ?_
  intro w1 hown hgrow
  have e : (madeCells (Value.string ByteArray.empty).cells (n * 1)).toList = strs (List.replicate n ByteArray.empty) := by
    rw [Nat.mul_one]; exact (toList_madeCells_one (Value.string ByteArray.empty) n).trans (by simp [strs])
  rw [e] at hown
  have hown1 : OwnSt w.heap.size w1 (.slice (some ⟨w.heap.size, 0, none⟩) n n) (List.replicate n ByteArray.empty) := by
    unfold OwnSt; rw [List.length_replicate]; exact hown
  exact hK w1 hown1 (below_grown hgrow (Nat.le_refl _) (by simp)) (World.ownsRow.lt hown w.heap.size rfl).2
theorem conv_cell (W : World) (g : Nat) (x : Int) (b : UInt8) (h : W.cell? ⟨g, 0, none⟩ = some (.int .u8 x)) (e : (b.toNat : Int) = x) :
    (convert 72 9 (.slice (some ⟨g, 0, none⟩) 1 1)).run Tryd.prog W = .ok (.string ⟨#[b]⟩) W :=
  run_convert_bytes_back (P := Tryd.prog) W 72 9 5 ⟨g, 0, none⟩ 1 [b] Tryd.underlying72 Tryd.underlying5 Tryd.underlying9 (by
    intro j hj
    simp at hj
    subst hj
    rw [Addr.add_lit, Nat.zero_add, h]
    simp [e])
def NumS (w : World) (s : ByteArray) (e : Ending) (w' : World) : Prop := e = .returned (.string s) ∧ Below w.heap.size w w'
set_option maxRecDepth 100000 in
set_option maxHeartbeats 1000000 in
theorem l1Num_small (n : Nat) (w : World) (h1 : n < 10) : Calls Tryd.prog 54 #[.int .i64 (n : Int)] w (NumS w (numA (n : Int))) := by
  have hcv := conv_digit w ((48 : Int) + (n : Int)) _ (digit_nat h1)
  rw [numA_small h1]
  generalize UInt8.ofNat (48 + n) = b at *
  go_enter Tryd.func54, Tryd.ntmps54
  go_wp2
  go_ret
  exact ⟨rfl, Below.alloc1 _ _⟩
theorem keepc {W W' : World} {p : Addr} {v : Value} (hb : Below W.heap.size W W') (h : W.cell? p = some v) : W'.cell? p = some v := (hb.cell (World.block_lt_of_cell? W _ h)).trans h
set_option maxRecDepth 100000 in
set_option maxHeartbeats 2000000 in
theorem l1Num_any (n : Nat) (w : World) (h1 : n < 100) : Calls Tryd.prog 54 #[.int .i64 (n : Int)] w (NumS w (numA (n : Int))) := by
  by_cases h : n < 10
  · exact l1Num_small n w h
  have hs := fun w => l1Num_small (n / 10) w (by omega)
  have e1 : (((n / 10 : Nat)) : Int) = (n : Int) / 10 := by omega
  have hd := digit_nat (n := n % 10) (by omega)
  have e2 : (((n % 10 : Nat)) : Int) = (n : Int) % 10 := by omega
  rw [e2] at hd
  rw [numA_two h h1]
  simp only [e1] at hs ⊢
  have hsz := numA_size (x := (n : Int) / 10) (by omega) (by omega)
  generalize numA ((n : Int) / 10) = T at *
  generalize UInt8.ofNat (48 + n % 10) = b at *
  have HS := Lib.hid hs; have HD := Lib.hid hd
  have hz2 : T.size ≤ 2 := hsz.2
  have hcA := conv_cell ((w.alloc (.cells #[.int .u8 ((48 : Int) + (n : Int) % 10)] 5)).drew) w.heap.size _ b (cell_litS w _ _) hd
  have HB0 := Lib.hid (Below.alloc1 w (.cells #[.int .u8 ((48 : Int) + (n : Int) % 10)] 5))
  have m0 : (0 : Int) ≤ (n : Int) % 10 := by omega
  have m1 : (n : Int) % 10 ≤ 9 := by omega
  have j1 : IntKind.i64.wrap ((n : Int) / 10) = (n : Int) / 10 := IntWalk.i64_in _ (by omega)
  have j2 : (n : Int).tmod 10 = (n : Int) % 10 := Int.tmod_eq_emod_of_nonneg (by omega)
  have j3 : IntKind.i64.wrap (48 + (n : Int) % 10) = 48 + (n : Int) % 10 := IntWalk.i64_in _ (by omega)
  have j4 : IntKind.u8.wrap (48 + (n : Int) % 10) = 48 + (n : Int) % 10 := by rw [IntKind.wrap_u8]; omega
  clear hs hd hsz e1 e2
  go_enter Tryd.func54, Tryd.ntmps54
  go_wp2_with fail
  go_region_with (first | (go_at_call 54; ((with_reducible refine (HS.out _).mono ?_); rintro e w1 ⟨rfl, hb1⟩; (first | have HB1 := Lib.hid (((Below.refl _ w).drew).trans hb1) | have HB1 := Lib.hid (Below.step HB0.out.drew hb1)); (first | have hcC := conv_cell w1 w.heap.size _ b (keepc hb1 (show ((w.alloc (.cells #[.int .u8 ((48 : Int) + (n : Int) % 10)] 5)).drew).cell? ⟨w.heap.size, 0, none⟩ = some (.int .u8 ((48 : Int) + (n : Int) % 10)) from cell_litS w _ _)) HD.out | have hcB := conv_digit w1 _ b HD.out); clear hb1)))
  all_goals
    go_wp2
    go_ret
    exact ⟨rfl, by first | exact HB1.out | exact HB1.out.alloc HB1.out.size _⟩
end Go.Proofs.YtgaaddfipkdlaaaDoor
