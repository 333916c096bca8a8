/- FoldingText. -/
import Derived.Test.YtodbjkfikbkkbaaStkRead
import Derived.Test.YtodbjkfikbkkbaaStkSpec
import Derived.Test.YtodbjkfikbkkbaaText
namespace Go.Proofs.Ytodbjkfikbkkbaa
open Go.RowKit
set_option linter.unusedSimpArgs false
set_option linter.unusedVariables false

def digU (l : List Int) (i : Nat) : UInt8 := UInt8.ofNat (48 + par l i)
def ftU (l : List Int) (k : Nat) : List UInt8 := (List.range k).map (digU l)
theorem ftU_succ (l : List Int) (k : Nat) : ftU l (k + 1) = ftU l k ++ [digU l k] := by simp [ftU, List.range_succ]
theorem ftU_len (l : List Int) (k : Nat) : (ftU l k).length = k := by simp [ftU]
def ftT (l : List Int) (k : Nat) : ByteArray := ⟨(ftU l k).toArray⟩
theorem ftT_succ (l : List Int) (k : Nat) : ftT l (k + 1) = ftT l k ++ ⟨#[digU l k]⟩ := by
  apply ByteArray.ext
  simp [ftT, ftU_succ]
theorem ftT_size (l : List Int) (k : Nat) : (ftT l k).size = k := by
  show (ftU l k).toArray.size = k
  rw [List.size_toArray, ftU_len]
theorem ft_fill (l : List Int) (n k : Nat) (hk : k < n) : (ftU l k ++ List.replicate (n - k) 0).set k (digU l k) = ftU l (k + 1) ++ List.replicate (n - (k + 1)) 0 := by
  have e : List.replicate (n - k) (0 : UInt8) = 0 :: List.replicate (n - (k + 1)) 0 := by
    rw [show n - k = (n - (k + 1)) + 1 by omega, List.replicate_succ]
  rw [e, List.set_append_right _ _ (by rw [ftU_len]; exact Nat.le_refl _), ftU_len, Nat.sub_self, List.set_cons_zero, ftU_succ, List.append_assoc]
  rfl
theorem digU_nat {l : List Int} (hs : stackB l = true) {k : Nat} (hk : k < l.length) : ((digU l k).toNat : Int) = 48 + l.getD k 0 := by
  have h := (stack_facts hs).2.2.1 k hk
  have h8 := stack_len hs
  have e := par_int h.1
  unfold digU
  rw [UInt8.toNat_ofNat_of_lt' (by show _ < 256; omega)]
  omega

def ok_FoldingText (l : List Int) : Bool := stackB l
def res_FoldingText (l : List Int) : ByteArray := if stackB l then ftT l l.length else ByteArray.empty

def NumStr (w : World) (b : UInt8) (e : Ending) (w' : World) : Prop := e = .returned (.string ⟨#[b]⟩) ∧ Below w.heap.size w w'
theorem conv_digit (w : World) (x : Int) (b : UInt8) (e : (b.toNat : Int) = x) :
    (convert 60 9 (.slice (some ⟨w.heap.size, 0, none⟩) 1 1)).run Try.prog (w.alloc (.cells #[.int .u8 x] 5)) = .ok (.string ⟨#[b]⟩) (w.alloc (.cells #[.int .u8 x] 5)) :=
  run_convert_bytes_back (P := Try.prog) (w.alloc (.cells #[.int .u8 x] 5)) 60 9 5 ⟨w.heap.size, 0, none⟩ 1 [b] Try.underlying60 Try.underlying5 Try.underlying9 (by
    intro j hj
    simp at hj
    subst hj
    rw [Addr.add_lit, Nat.zero_add, cell_of_row _ _ 0 _ _ _ (heap_alloc_new w _)]
    simp [e])

set_option maxHeartbeats 1000000 in
theorem l1Num_digit (x : Int) (b : UInt8) (w : World) (h0 : 0 ≤ x) (h1 : x < 8) (hb : (b.toNat : Int) = 48 + x) : Calls Try.prog 62 #[.int .i64 x] w (NumStr w b) := by
  have hcv := conv_digit w ((48 : Int) + x) b hb
  clear hb
  go_enter Try.func62, Try.ntmps62
  go_wp2
  go_ret
  exact ⟨rfl, Below.alloc1 _ _⟩

set_option maxHeartbeats 1000000 in
theorem spText_any (v : Value) (l : List Int) (w : World) (h : Rd w v l) (hs : stackB l = true) : Calls Try.prog 47 #[v] w fun e w' => e = .returned (.string (ftT l l.length)) ∧ Below w.heap.size w w' := by
  have h8 := stack_len hs
  have hr := (stack_facts hs).2.2.1
  have hdn := fun k hk => digU_nat hs (k := k) hk
  obtain ⟨bb, off, c, rfl, hlc, hcm, hcell⟩ := h.at (stack_facts hs).1
  obtain ⟨n, hn⟩ : ∃ n, n = l.length := ⟨_, rfl⟩
  rw [← hn] at hlc h8 hcell hr hdn ⊢
  have HD := Lib.hid hdn
  unfold maxLen at hcm
  have HN := Lib.hid hn; have HC := Lib.hid hcell; have HR := Lib.hid hr
  have H0 : Hid (ftT l 0 = ByteArray.empty) := rfl
  clear hn hcell hs hr h hdn
  go_enter Try.func47, Try.ntmps47
  go_wp2
  go_loopw [3, 8] (fun s i wr => ∃ k : Nat, k ≤ n ∧ i = .int .i64 (k : Int) ∧ s = .string (ftT l k) ∧ Below w.heap.size w wr) (fun _ i _ => n - (intOf i).toNat)
  case atStart => exact ⟨0, by omega, rfl, rfl, Below.refl _ _⟩
  case round =>
    obtain ⟨k, hk, rfl, rfl, hbel⟩ := hrel
    by_cases hlt : k < n
    · have hsrc : wr.cell? ⟨bb, off + k, none⟩ = some (.int .i64 (l.getD k 0)) := by
        have := HC.out k hlt
        exact (hbel.cell (p := ⟨bb, off + k, none⟩) (World.block_lt_of_cell? w _ this)).trans this
      have hx := HR.out k hlt
      have hsz := ftT_size l k
      have hsu := ftT_succ l k
      have hsz2 : (ftT l k).size ≤ 8 := by omega
      have hd := HD.out k hlt
      generalize digU l k = b at hsu hd
      generalize l.getD k 0 = x at hsrc hx hd
      generalize ftT l k = T at *
      have HS := Lib.hid hsu; have HZ := Lib.hid hsz; have HB := Lib.hid hbel
      have HNU := Lib.hid (fun w => l1Num_digit x b w hx.1 (by omega) hd)
      clear hsu hsz hd hbel
      go_wp2_with (go_at_call 62; refine (HNU.out _).mono ?_; rintro e w1 ⟨rfl, hb1⟩)
      go_roundw
      case rel => exact ⟨k + 1, by omega, by go_num, by rw [HS.out], HB.out.trans (hb1.mono HB.out.size)⟩
      case measure => simp [intOf]; omega
    · obtain rfl : k = n := by omega
      go_wp2
      go_ret
      exact ⟨rfl, hbel⟩

set_option maxHeartbeats 1000000 in
theorem spec_FoldingText (l : List Int) (w : World) (u : Value) (h : Rd w u l) (m : l.length ≤ 1048576) : Calls Try.prog 28 #[u] w (GivesT w (res_FoldingText l) (ok_FoldingText l)) := by
  unfold res_FoldingText ok_FoldingText
  have HP := Lib.hid (spStack_any u l w h)
  cases hg : stackB l with
  | true =>
    rw [hg] at HP
    simp only [if_true]
    have HT := Lib.hid (spText_any u l w h hg)
    clear hg h
    go_enter Try.func28, Try.ntmps28
    go_wp2_with (first
      | (go_at_call 34; refine HP.out.mono ?_; rintro e w1 ⟨rfl, rfl⟩)
      | (go_at_call 47; refine HT.out.mono ?_; rintro e w1 ⟨rfl, hb⟩))
    go_ret2
    exact ⟨rfl, hb⟩
  | false =>
    rw [hg] at HP
    simp only [Bool.false_eq_true, if_false]
    clear hg h
    go_enter Try.func28, Try.ntmps28
    go_wp2_with (go_at_call 34; refine HP.out.mono ?_; rintro e w1 ⟨rfl, rfl⟩)
    go_ret2
    exact ⟨rfl, Below.refl _ _⟩

set_option maxHeartbeats 2000000 in
theorem impl_FoldingText (l : List Int) (w : World) (u : Value) (h : Rd w u l) (m : l.length ≤ 1048576) : Calls Try.prog 29 #[u] w (GivesT w (res_FoldingText l) (ok_FoldingText l)) := by
  unfold res_FoldingText ok_FoldingText
  cases hg : stackB l with
  | false =>
    have HG := Lib.hid hg; clear hg
    go_enter Try.func29, Try.ntmps29
    go_wp2_with fail
    refine (readStack_no u l _ h HG.out).mono ?_
    rintro e w1 ⟨rfl, hb⟩
    go_wp2_with ((with_reducible refine wp_storeNewStk rfl (.tmp 4) (.tmp 11) rfl _ [] (Nat.zero_le _) rfl rfl ?_); intro w2 hs2 hb2)
    go_ret2
    exact ⟨rfl, Below.step hb hb2⟩
  | true =>
    have hl := stack_len hg
    have hr := (stack_facts hg).2.2.1
    have hdn := fun k hk => digU_nat hg (k := k) hk
    have HL := Lib.hid hl; have HG := Lib.hid hg
    obtain ⟨n, hn⟩ : ∃ n, n = l.length := ⟨_, rfl⟩
    have HN := Lib.hid hn
    rw [← hn] at hl hr hdn ⊢
    have HR := Lib.hid hr; have HDN := Lib.hid hdn
    simp only [if_true]
    clear hg hn hr hdn
    go_enter Try.func29, Try.ntmps29
    go_wp2_with fail
    refine (readStack_yes u l _ h HG.out).mono ?_
    rintro e w1 ⟨rfl, hb⟩
    go_wp2_with (first
      | ((with_reducible refine wp_storeNewStk rfl (.tmp 4) (.tmp 11) rfl _ l HL.out rfl rfl ?_); intro w2 hs2 hb2; have hcs := hs2.size HL.out; rw [← HN.out] at hcs)
      | (at_make; refine wp_makeB _ rfl _ _ rfl n _ _ rfl rfl rfl rfl (by omega) ?_; intro w3 hown hb3 hsz3; have HOW := Lib.hid hown; have HS3 := Lib.hid (StkIn.below hs2 hb3); have HB3 := Lib.hid (Below.step (Below.step hb hb2) hb3); have HZ := Lib.hid (StkIn.lt hs2); have HZ2 := Lib.hid (Below.step hb hb2).size; clear hown hb3 hs2 hcs hb2 hb))
    go_loopw [20] (fun i wr => ∃ k : Nat, k ≤ n ∧ i = .int .i64 (k : Int) ∧ OwnB w2.heap.size wr (.slice (some ⟨w2.heap.size, 0, none⟩) n n) (ftU l k ++ List.replicate (n - k) 0) ∧ StkIn wr w1.heap.size l ∧ Below w.heap.size w wr) (fun i _ => n - (intOf i).toNat)
    case atStart => exact ⟨0, by omega, rfl, by simpa [ftU] using HOW.out, HS3.out, HB3.out⟩
    case round =>
      obtain ⟨k, hk, rfl, hown, hsys, hbel⟩ := hrel
      clear HOW HS3 HB3
      generalize wr = wa at *
      by_cases hlt : k < n
      · have hlen : (ftU l k ++ List.replicate (n - k) 0).length = n := by simp [ftU_len]; omega
        have c0 := hsys.cell HL.out k (by omega)
        have hx := HR.out k hlt
        have hd := HDN.out k hlt
        have c1 := hown.cellAt k (by omega)
        have f1 := hown.frozenAt k
        have hfill := ft_fill l n k hlt
        have hst1 := hown.stored k (digU l k)
        rw [hfill, hd] at hst1
        generalize l.getD k 0 = x at c0 hx hst1
        generalize (ftU l k ++ List.replicate (n - k) 0).getD k 0 = z at c1
        have hsy1 : StkIn (wa.setCell ⟨w2.heap.size, k, none⟩ (.int .u8 (48 + x))) w1.heap.size l := StkIn.grown hsys (grown_setCell (b := w2.heap.size) (i := k) (v := .int .u8 (48 + x))) (by have := HZ.out; omega)
        have hb1 := hbel.setCell (p := ⟨w2.heap.size, k, none⟩) HZ2.out (.int .u8 (48 + x))
        have HS1 := Lib.hid hst1; have HSY := Lib.hid hsy1; have HB1 := Lib.hid hb1
        clear hfill hst1 hsy1 hb1 hown hsys hbel hlen hd
        go_wp2
        go_roundw
        case rel => exact ⟨k + 1, by omega, by go_num, HS1.out, HSY.out, HB1.out⟩
        case measure => simp [intOf]; omega
      · obtain rfl : k = n := by omega
        rw [Nat.sub_self, List.replicate_zero, List.append_nil] at hown
        have hlen := ftU_len l k
        have hcv := run_convert_bytes_back (P := Try.prog) wa 60 9 5 ⟨w2.heap.size, 0, none⟩ k (ftU l k) Try.underlying60 Try.underlying5 Try.underlying9 (by
          intro j hj
          have := hown.cellAt j hj
          rw [Addr.add_lit, Nat.zero_add, this]
          simp [List.getD, hj])
        rw [hlen] at hcv
        clear hlen
        go_wp2
        go_ret2
        exact ⟨rfl, hbel⟩

end Go.Proofs.Ytodbjkfikbkkbaa
