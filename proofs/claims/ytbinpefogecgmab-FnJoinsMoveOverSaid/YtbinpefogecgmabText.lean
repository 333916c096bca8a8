/- SystemText and ParseSystem: the program's functions and the model's. -/
import Derived.Test.YtbinpefogecgmabPoints
import Derived.Test.YtbinpefogecgmabJoin
import Derived.Laws.IdiomStrings
namespace Go.Proofs.Ytbinpefogecgmab
open Go.RowKit
set_option linter.unusedSimpArgs false
set_option linter.unusedVariables false

/-! rows of bytes -/
def bytesV (bs : List UInt8) : List Value := bs.map fun b => .int .u8 (b.toNat : Int)
def OwnB (B : Nat) (w : World) (v : Value) (bs : List UInt8) : Prop := w.ownsRow B 5 1 v bs.length (bytesV bs)
theorem OwnB.n {B g c n : Nat} {w : World} {l : List UInt8} (h : OwnB B w (.slice (some ⟨g, 0, none⟩) n c) l) : n = l.length := by
  rcases h.2 with ⟨hv, _⟩ | ⟨g', cap, cur, hv, _⟩
  · cases hv
  · simp at hv; exact hv.2.1
theorem OwnB.cellAt {B g c n : Nat} {w : World} {l : List UInt8} (h : OwnB B w (.slice (some ⟨g, 0, none⟩) n c) l) (j : Nat) (hj : j < l.length) : w.cell? ⟨g, j, none⟩ = some (.int .u8 ((l.getD j 0).toNat : Int)) := by
  obtain rfl := h.n
  have := World.ownsRow.cellAt h j (by omega)
  rw [this]
  simp [bytesV, List.getElem?_eq_getElem hj, List.getD]
theorem OwnB.frozenAt {B g c n : Nat} {w : World} {l : List UInt8} (h : OwnB B w (.slice (some ⟨g, 0, none⟩) n c) l) (j : Nat) : w.frozen? ⟨g, j, none⟩ = false := by
  obtain rfl := h.n
  exact World.ownsRow.frozenAt h j
theorem OwnB.stored {B g c n : Nat} {w : World} {l : List UInt8} (h : OwnB B w (.slice (some ⟨g, 0, none⟩) n c) l) (j : Nat) (x : UInt8) :
    OwnB B (w.setCell ⟨g, j, none⟩ (.int .u8 (x.toNat : Int))) (.slice (some ⟨g, 0, none⟩) n c) (l.set j x) := by
  obtain rfl := h.n
  have := (World.ownsRow.stored h j (.int .u8 (x.toNat : Int))).1
  unfold OwnB bytesV
  rw [List.length_set, List.map_set]
  exact this
theorem OwnB.below {B : Nat} {w w' : World} {v : Value} {l : List UInt8} (h : OwnB B w v l) (hb : Below w.heap.size w w') : OwnB B w' v l := by
  refine ⟨h.1, ?_⟩
  rcases h.2 with hn | ⟨g, cap, cur, hv, hB, hg, rest⟩
  · exact .inl hn
  · exact .inr ⟨g, cap, cur, hv, hB, (hb.block g (Array.getElem?_eq_some_iff.1 hg).1).trans hg, rest⟩
theorem infoU8 : (Try.prog.info? 5).map (fun i => (i.zero, i.size, i.bytes)) = some (some (.int .u8 0), 1, 1) := by kernel_rfl
theorem wp_makeB {ops : Array Oper} {rest : List Oper} {o : Oper} {a : Act} {Q : Exit → Act → World → Prop} (w : World)
    (hg : o.guard = none) (l c : Operand) (hop : o.op = Op.makeSlice 22 l c) (n : Nat) (L C : Int) (hl : a.eval l = .int .i64 L) (hc : a.eval c = .int .i64 C) (hL : L = n) (hC : C = n) (hn : n ≤ 1000000000)
    (hK : ∀ w', OwnB w.heap.size w' (.slice (some ⟨w.heap.size, 0, none⟩) n n) (List.replicate n 0) → Below w.heap.size w w' → w.heap.size < w'.heap.size → wpList Try.prog ops Q rest (a.put o.dst (.slice (some ⟨w.heap.size, 0, none⟩) n n)) w') :
    wpList Try.prog ops Q (o :: rest) a w := by
  obtain ⟨i0, hi, hz0, hz1, hz2⟩ := info_parts infoU8
  refine wpList_make_full w hg l c 22 hop w.heap.size 5 i0 (.int .u8 0) 1 Try.underlying22 hi hz0 hz1 .i64 .i64 L C n hl hc hL hC (by rw [hz2]; omega) (by unfold maxLen; omega) (Nat.le_refl _) ?_
  intro w1 hown hgrow
  have hown1 : OwnB w.heap.size w1 (.slice (some ⟨w.heap.size, 0, none⟩) n n) (List.replicate n 0) := by
    have e : (madeCells (Value.int .u8 0).cells (n * 1)).toList = bytesV (List.replicate n 0) := by
      rw [Nat.mul_one, bytesV, List.map_replicate]; exact toList_madeCells_one (Value.int .u8 0) n
    rw [e] at hown
    unfold OwnB
    rw [List.length_replicate]
    exact hown
  exact hK w1 hown1 (below_grown hgrow (Nat.le_refl _) (by simp)) (World.ownsRow.lt hown1 w.heap.size rfl).2

/-! the text -/
def chB (l : List Int) (i : Nat) : UInt8 := if (i : Int) < l.getD i 0 then 40 else 41
def textU (l : List Int) (k : Nat) : List UInt8 := (List.range k).map (chB l)
theorem textU_succ (l : List Int) (k : Nat) : textU l (k + 1) = textU l k ++ [chB l k] := by simp [textU, List.range_succ]
theorem textU_len (l : List Int) (k : Nat) : (textU l k).length = k := by simp [textU]
def textT (l : List Int) (k : Nat) : ByteArray := ⟨(textU l k).toArray⟩
theorem textT_succ (l : List Int) (k : Nat) : textT l (k + 1) = textT l k ++ ⟨#[chB l k]⟩ := by
  apply ByteArray.ext
  simp [textT, textU_succ]
theorem textT_size (l : List Int) (k : Nat) : (textT l k).size = k := by
  show (textU l k).toArray.size = k
  rw [List.size_toArray, textU_len]
theorem text_fill (l : List Int) (n k : Nat) (hk : k < n) (x : UInt8) : ((textU l k ++ List.replicate (n - k) 0).set k x).set k (chB l k) = textU l (k + 1) ++ List.replicate (n - (k + 1)) 0 := by
  have e : List.replicate (n - k) (0 : UInt8) = 0 :: List.replicate (n - (k + 1)) 0 := by
    rw [show n - k = (n - (k + 1)) + 1 by omega, List.replicate_succ]
  rw [List.set_set, e, List.set_append_right _ _ (by rw [textU_len]; exact Nat.le_refl _), textU_len, Nat.sub_self, List.set_cons_zero, textU_succ, List.append_assoc]
  rfl
theorem text_fill1 (l : List Int) (n k : Nat) (hk : k < n) (h : chB l k = 41) : (textU l k ++ List.replicate (n - k) 0).set k 41 = textU l (k + 1) ++ List.replicate (n - (k + 1)) 0 := by
  rw [← text_fill l n k hk 41, List.set_set, h]

def ok_SystemText (l : List Int) : Bool := goodB l
def res_SystemText (l : List Int) : ByteArray := if goodB l then textT l l.length else ByteArray.empty

set_option maxHeartbeats 1000000 in
theorem ahText_any (v : Value) (l : List Int) (w : World) (h : Rd w v l) (hl : l.length ≤ 12) : Calls Try.prog 121 #[v] w fun e w' => e = .returned (.string (textT l l.length)) ∧ w = w' := by
  obtain ⟨a, c, rfl, hlc, hcm, hnc, hrd⟩ := h
  unfold maxLen at hcm
  obtain ⟨n, hn⟩ : ∃ n, n = l.length := ⟨_, rfl⟩
  rw [← hn] at hlc hl hrd ⊢
  have HN := Lib.hid hn; have HC := Lib.hid hrd
  have H0 : Hid (textT l 0 = ByteArray.empty) := rfl
  clear hn hrd hnc
  go_enter Try.func121, Try.ntmps121
  go_wp2
  go_loop [3, 8] (fun s i => ∃ k : Nat, k ≤ n ∧ i = .int .i64 (k : Int) ∧ s = .string (textT l k)) (fun _ i => n - (intOf i).toNat)
  case atStart => exact ⟨0, by omega, rfl, rfl⟩
  case round =>
    obtain ⟨k, hk, rfl, rfl⟩ := hrel
    by_cases hlt : k < n
    · rcases HC.out with h0 | ⟨b, off, rfl, hcell⟩
      · exfalso; rw [HN.out, h0] at hlt; simp at hlt
      have hc := hcell k hlt
      have hsz := textT_size l k
      have hsu := textT_succ l k
      have hsz2 : (textT l k).size ≤ 12 := by omega
      clear hcell
      by_cases hx : (k : Int) < l.getD k 0
      · rw [show chB l k = 40 by rw [chB, if_pos hx]] at hsu
        generalize l.getD k 0 = x at hc hx
        generalize textT l k = T at *
        have HS := Lib.hid hsu; have HZ := Lib.hid hsz
        clear hsu hsz
        go_wp2
        go_round
        case rel => exact ⟨k + 1, by omega, by go_num, by rw [HS.out]⟩
        case measure => simp [intOf]; omega
      · rw [show chB l k = 41 by rw [chB, if_neg hx]] at hsu
        generalize l.getD k 0 = x at hc hx
        generalize textT l k = T at *
        have HS := Lib.hid hsu; have HZ := Lib.hid hsz
        clear hsu hsz
        go_wp2
        go_round
        case rel => exact ⟨k + 1, by omega, by go_num, by rw [HS.out]⟩
        case measure => simp [intOf]; omega
    · obtain rfl : k = n := by omega
      go_wp2
      go_ret
      exact ⟨rfl, rfl⟩


set_option maxHeartbeats 2000000 in
theorem impl_SystemText (l : List Int) (w : World) (u : Value) (h : Rd w u l) (m : l.length ≤ 1048576) : Calls Try.prog 79 #[u] w (GivesT w (res_SystemText l) (ok_SystemText l)) := by
  unfold res_SystemText ok_SystemText
  cases hg : goodB l with
  | false =>
    have HG := Lib.hid hg; clear hg
    go_enter Try.func79, Try.ntmps79
    go_wp2_with fail
    refine (readSystem_no u l _ h HG.out).mono ?_
    rintro e w1 ⟨rfl, hb⟩
    go_wp2_with ((with_reducible refine wp_storeNew rfl (.tmp 4) (.tmp 11) rfl _ [] (Nat.zero_le _) rfl rfl ?_); intro w2 hs2 hb2)
    go_ret2
    exact ⟨rfl, Below.step hb hb2⟩
  | true =>
    have hl := good_len' hg
    have HL := Lib.hid hl; have HG := Lib.hid hg
    obtain ⟨n, hn⟩ : ∃ n, n = l.length := ⟨_, rfl⟩
    have HN := Lib.hid hn
    rw [← hn] at hl ⊢
    simp only [if_true]
    clear hg hn
    go_enter Try.func79, Try.ntmps79
    go_wp2_with fail
    refine (readSystem_yes u l _ h HG.out).mono ?_
    rintro e w1 ⟨rfl, hb⟩
    go_wp2_with (first
      | ((with_reducible refine wp_storeNew rfl (.tmp 4) (.tmp 11) rfl _ l HL.out rfl rfl ?_); intro w2 hs2 hb2; have hcs := hs2.size HL.out; rw [← HN.out] at hcs)
      | (at_make; refine wp_makeB _ rfl _ _ rfl n _ _ rfl rfl rfl rfl (by omega) ?_; intro w3 hown hb3 hsz3; have HOW := Lib.hid hown; have HS3 := Lib.hid (SysIn.below hs2 hb3); have HB3 := Lib.hid (Below.step (Below.step hb hb2) hb3); have HZ := Lib.hid (SysIn.lt hs2); have HZ2 := Lib.hid (Below.step hb hb2).size; clear hown hb3 hs2 hcs hb2 hb))
    go_loopw [20] (fun i wr => ∃ k : Nat, k ≤ n ∧ i = .int .i64 (k : Int) ∧ OwnB w2.heap.size wr (.slice (some ⟨w2.heap.size, 0, none⟩) n n) (textU l k ++ List.replicate (n - k) 0) ∧ SysIn wr w1.heap.size l ∧ Below w.heap.size w wr) (fun i _ => n - (intOf i).toNat)
    case atStart => exact ⟨0, by omega, rfl, by simpa [textU] using HOW.out, HS3.out, HB3.out⟩
    case round =>
      obtain ⟨k, hk, rfl, hown, hsys, hbel⟩ := hrel
      clear HOW HS3 HB3
      generalize wr = wa at *
      by_cases hlt : k < n
      · have hlen : (textU l k ++ List.replicate (n - k) 0).length = n := by simp [textU_len]; omega
        have c1 := hown.cellAt k (by omega)
        have f1 := hown.frozenAt k
        have hst1 := hown.stored k 41
        have c2 := hst1.cellAt k (by rw [List.length_set]; omega)
        have f2 := hst1.frozenAt k
        have hfill := text_fill l n k hlt 41
        have hsy1 : SysIn (wa.setCell ⟨w2.heap.size, k, none⟩ (.int .u8 41)) w1.heap.size l := SysIn.grown hsys grown_setCell (by have := HZ.out; omega)
        have hb1 := hbel.setCell (p := ⟨w2.heap.size, k, none⟩) HZ2.out (.int .u8 41)
        by_cases hx : (k : Int) < l.getD k 0
        · have hbeg := fun w => begins_any l (k : Int) w HL.out (by omega) (by omega)
          rw [show beginsB l (k : Int) = true by unfold beginsB; rw [Int.toNat_natCast]; exact decide_eq_true hx] at hbeg
          rw [show chB l k = 40 by rw [chB, if_pos hx]] at hfill
          have HF := Lib.hid hfill; have HS1 := Lib.hid hst1; have HSY := Lib.hid hsy1; have HB1 := Lib.hid hb1; have HBG := Lib.hid hbeg
          clear hfill hst1 hsy1 hb1 hbeg hown hsys hbel hx hlen c2 f2
          go_wp2_with (first
            | (with_reducible refine wp_loadSys rfl (.tmp 4) rfl w1.heap.size l HL.out rfl HSY.out ?_)
            | (go_at_call 125; refine (HBG.out _).mono ?_; rintro e w4 ⟨rfl, hb4⟩; have ho4 := OwnB.below HS1.out hb4; have c3 := ho4.cellAt k (by rw [List.length_set]; simp [textU_len]; omega); have f3 := ho4.frozenAt k; have HS5 := Lib.hid (ho4.stored k 40); have HSY5 := Lib.hid (SysIn.grown (SysIn.below HSY.out hb4) (grown_setCell (b := w2.heap.size) (i := k) (v := .int .u8 40)) (by have := HZ.out; omega)); have HB5 := Lib.hid ((Below.step HB1.out hb4).setCell (p := ⟨w2.heap.size, k, none⟩) HZ2.out (.int .u8 40)); clear ho4 hb4))
          rw [HF.out] at HS5
          go_roundw
          case rel => exact ⟨k + 1, by omega, by go_num, HS5.out, HSY5.out, HB5.out⟩
          case measure => simp [intOf]; omega
        · have hbeg := fun w => begins_any l (k : Int) w HL.out (by omega) (by omega)
          rw [show beginsB l (k : Int) = false by unfold beginsB; rw [Int.toNat_natCast]; exact decide_eq_false hx] at hbeg
          have hf1 := text_fill1 l n k hlt (by rw [chB, if_neg hx])
          rw [hf1] at hst1
          have HS1 := Lib.hid hst1; have HSY := Lib.hid hsy1; have HB1 := Lib.hid hb1; have HBG := Lib.hid hbeg
          clear hfill hf1 hst1 hsy1 hb1 hbeg hown hsys hbel hx hlen c2 f2
          go_wp2_with (first
            | (with_reducible refine wp_loadSys rfl (.tmp 4) rfl w1.heap.size l HL.out rfl HSY.out ?_)
            | (go_at_call 125; refine (HBG.out _).mono ?_; rintro e w4 ⟨rfl, hb4⟩; have HS5 := Lib.hid (OwnB.below HS1.out hb4); have HSY5 := Lib.hid (SysIn.below HSY.out hb4); have HB5 := Lib.hid (Below.step HB1.out hb4); clear hb4))
          go_roundw
          case rel => exact ⟨k + 1, by omega, by go_num, HS5.out, HSY5.out, HB5.out⟩
          case measure => simp [intOf]; omega
      · obtain rfl : k = n := by omega
        rw [Nat.sub_self, List.replicate_zero, List.append_nil] at hown
        have hlen := textU_len l k
        have hcv := run_convert_bytes_back (P := Try.prog) wa 22 9 5 ⟨w2.heap.size, 0, none⟩ k (textU l k) Try.underlying22 Try.underlying5 Try.underlying9 (by
          intro j hj
          have := hown.cellAt j hj
          rw [Addr.add_lit, Nat.zero_add, this]
          simp [List.getD, hj])
        rw [hlen] at hcv
        clear hlen
        go_wp2
        go_ret2
        exact ⟨rfl, hbel⟩

end Go.Proofs.Ytbinpefogecgmab
