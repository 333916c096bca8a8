/- The pair with a word, in the program. -/
import Derived.Test.YtkohmdhjjnmfgabWdMate
import Derived.Test.YtkohmdhjjnmfgabWdMe
import Derived.Test.YtkohmdhjjnmfgabPairM
namespace Go.Proofs.Ytkohmdhjjnmfgab
open Go.RowKit
set_option linter.unusedSimpArgs false
set_option linter.unusedVariables false

theorem pairC_eq {t b : List Int} (ht : t.length ≤ 12) (hb : b.length ≤ 12) : pairC t b = (ptL t ++ ptL b).toArray := by
  have e : pairC t b = ptC t ++ ptC b := by rw [ptC_lit ht, ptC_lit hb]; rfl
  rw [e]
  simp [ptC]
theorem PairIn.putTop {w : World} {g : Nat} {t b : List Int} (h : PairIn w g t b) (ht : t.length ≤ 12) (hb : b.length ≤ 12) (i : Nat) (x : Int) (hi : i < t.length) : PairIn (w.setCell ⟨g, i, none⟩ (.int .i64 x)) g (t.set i x) b := by
  have h1 := heap_setCell_same w g i _ _ (.int .i64 x) h
  unfold PairIn
  rw [h1, pairC_eq ht hb, pairC_eq (by simpa using ht) hb, ptL_set i x hi]
  simp [List.set_append_left _ _ (show i < (ptL t).length by rw [ptL_length ht]; omega)]
theorem PairIn.putBot {w : World} {g : Nat} {t b : List Int} (h : PairIn w g t b) (ht : t.length ≤ 12) (hb : b.length ≤ 12) (i : Nat) (x : Int) (hi : i < b.length) : PairIn (w.setCell ⟨g, 13 + i, none⟩ (.int .i64 x)) g t (b.set i x) := by
  have h1 := heap_setCell_same w g (13 + i) _ _ (.int .i64 x) h
  unfold PairIn
  rw [h1, pairC_eq ht hb, pairC_eq ht (by simpa using hb), ptL_set i x hi]
  have e : (ptL t ++ ptL b).set (13 + i) (.int .i64 x) = ptL t ++ (ptL b).set i (.int .i64 x) := by
    rw [List.set_append_right _ _ (by rw [ptL_length ht]; omega), ptL_length ht, Nat.add_sub_cancel_left]
  rw [← e]
  simp
theorem PairIn.free {w : World} {g : Nat} {t b : List Int} (h : PairIn w g t b) (k : Nat) : w.frozen? ⟨g, k, none⟩ = false := frozen_of_row w g k _ _ h
def JnOut (w : World) (g : Nat) (t b : List Int) (e : Ending) (w' : World) : Prop := e = .returned (.tuple #[]) ∧ PairIn w' g t b ∧ w.grownBy w' (some g)

set_option maxHeartbeats 1000000 in
theorem joinTop_any (g i j : Nat) (t b : List Int) (w : World) (h : PairIn w g t b) (ht : t.length ≤ 12) (hb : b.length ≤ 12) (hi : i < t.length) (hj : j < t.length) :
    Calls Try.prog 68 #[.pointer (some ⟨g, 0, none⟩), .int .i64 i, .int .i64 j] w (JnOut w g ((t.set i j).set j i) b) := by
  have hi12 : i < 12 := by omega
  have hj12 : j < 12 := by omega
  have c1 := h.topAt i (by omega)
  have f1 := h.free (i)
  have hs1 := h.putTop ht hb i (j : Int) hi
  have c2 := hs1.topAt j (by omega)
  have f2 := hs1.free (j)
  have hs2 := hs1.putTop (by simpa using ht) hb j (i : Int) (by simpa using hj)
  have HS := Lib.hid hs2; clear hs2 hs1 h
  generalize t.getD i 0 = x at c1
  generalize (t.set i (j : Int)).getD j 0 = y at c2
  have HL := Lib.hid hi; clear hi
  have HL2 := Lib.hid hj; clear hj
  go_enter Try.func68, Try.ntmps68
  go_wp2
  go_region
  go_end0
  exact ⟨rfl, HS.out, grownW_drewN (grownW_trans grownW_setCell grownW_setCell) 1⟩

set_option maxHeartbeats 1000000 in
theorem joinBot_any (g i j : Nat) (t b : List Int) (w : World) (h : PairIn w g t b) (ht : t.length ≤ 12) (hb : b.length ≤ 12) (hi : i < b.length) (hj : j < b.length) :
    Calls Try.prog 68 #[.pointer (some ⟨g, 13, none⟩), .int .i64 i, .int .i64 j] w (JnOut w g t ((b.set i j).set j i)) := by
  have hi12 : i < 12 := by omega
  have hj12 : j < 12 := by omega
  have c1 := h.botAt i (by omega)
  have f1 := h.free (13 + i)
  have hs1 := h.putBot ht hb i (j : Int) hi
  have c2 := hs1.botAt j (by omega)
  have f2 := hs1.free (13 + j)
  have hs2 := hs1.putBot ht (by simpa using hb) j (i : Int) (by simpa using hj)
  have HS := Lib.hid hs2; clear hs2 hs1 h
  generalize b.getD i 0 = x at c1
  generalize (b.set i (j : Int)).getD j 0 = y at c2
  have HL := Lib.hid hi; clear hi
  have HL2 := Lib.hid hj; clear hj
  go_enter Try.func68, Try.ntmps68
  go_wp2
  go_region
  go_end0
  exact ⟨rfl, HS.out, grownW_drewN (grownW_trans grownW_setCell grownW_setCell) 1⟩

theorem sysV_rep (n i : Nat) (hi : i < 12) : sysV (List.replicate n 0) i = .int .i64 0 := by
  unfold sysV
  rw [if_pos hi]
  simp only [List.getD, List.getElem?_replicate]
  split <;> rfl
theorem pairC_new (n : Nat) : pairC (List.replicate n 0) (List.replicate n 0) = #[.int .i64 0, .int .i64 0, .int .i64 0, .int .i64 0, .int .i64 0, .int .i64 0, .int .i64 0, .int .i64 0, .int .i64 0, .int .i64 0, .int .i64 0, .int .i64 0, .int .i64 (n : Int), .int .i64 0, .int .i64 0, .int .i64 0, .int .i64 0, .int .i64 0, .int .i64 0, .int .i64 0, .int .i64 0, .int .i64 0, .int .i64 0, .int .i64 0, .int .i64 0, .int .i64 (n : Int)] := by
  unfold pairC
  have e : sysV (List.replicate n 0) 12 = .int .i64 (n : Int) := by unfold sysV; rw [if_neg (by omega), List.length_replicate]
  simp only [e, sysV_rep n _ (show 0 < 12 by omega), sysV_rep n _ (show 1 < 12 by omega), sysV_rep n _ (show 2 < 12 by omega), sysV_rep n _ (show 3 < 12 by omega), sysV_rep n _ (show 4 < 12 by omega), sysV_rep n _ (show 5 < 12 by omega), sysV_rep n _ (show 6 < 12 by omega), sysV_rep n _ (show 7 < 12 by omega), sysV_rep n _ (show 8 < 12 by omega), sysV_rep n _ (show 9 < 12 by omega), sysV_rep n _ (show 10 < 12 by omega), sysV_rep n _ (show 11 < 12 by omega)]
theorem wp_storePairZ {ops : Array Oper} {rest : List Oper} {o : Oper} {a : Act} {w : World} {Q : Exit → Act → World → Prop} (hgd : o.guard = none) (x y : Operand) (ho : o.op = .store 72 x y)
    (g n : Nat) (hx : a.eval x = .pointer (some ⟨g, 0, none⟩)) (hy : a.eval y = .agg #[.int .i64 0, .int .i64 0, .int .i64 0, .int .i64 0, .int .i64 0, .int .i64 0, .int .i64 0, .int .i64 0, .int .i64 0, .int .i64 0, .int .i64 0, .int .i64 0, .int .i64 (n : Int), .int .i64 0, .int .i64 0, .int .i64 0, .int .i64 0, .int .i64 0, .int .i64 0, .int .i64 0, .int .i64 0, .int .i64 0, .int .i64 0, .int .i64 0, .int .i64 0, .int .i64 (n : Int)]) (hg : PairIn w g [] [])
    (h : ∀ w', PairIn w' g (List.replicate n 0) (List.replicate n 0) → w.grownBy w' (some g) → wpList Try.prog ops Q rest (a.put o.dst undef) w') : wpList Try.prog ops Q (o :: rest) a w :=
  wp_storePair hgd x y ho g (List.replicate n 0) (List.replicate n 0) [] [] hx (by rw [pairC_new]; exact hy) hg h

theorem results_wm (tmps : Array Value) (w : World) (g : Nat) (v1 v2 : Value) (hg : Box2 28 w g v1 v2) (h2 : tmps.getD 2 undef = .pointer (some ⟨g, 0, none⟩)) :
    (results Try.f47 tmps).run Try.prog w = .ok (.agg #[v1, v2]) w :=
  results_cell_row (by kernel_rfl) tmps w g _ #[v1, v2] _ _ h2 hg Try.underlying28 rfl (by rw [mea_info]; rfl)

set_option maxHeartbeats 4000000 in
theorem wordMeander_any (l : List Int) (w : World) (hw : wordB l = true) (hev : l.length % 2 = 0) :
    Calls Try.prog 47 #[.agg (wdC l (idxK l l.length))] w (MadeM w (mateL l 0) (mateL l 1)) := by
  have hl := word_len hw
  have hix := idxK_length l l.length
  have hwd : WdIn (w.alloc (.cells (wdC l (idxK l l.length)) 53)) w.heap.size l (idxK l l.length) := heap_alloc_new w _
  have B1 : Below w.heap.size w (w.alloc (.cells (wdC l (idxK l l.length)) 53)) := Below.alloc1 w _
  have hR := Box2.new 28 (w.alloc (.cells (wdC l (idxK l l.length)) 53)) (.slice none 0 0) (.slice none 0 0)
  rw [World.size_alloc] at hR
  have hwd2 := hwd.below (Below.alloc1 _ (.cells #[.slice none 0 0, .slice none 0 0] 28))
  have B2 := Below.step B1 (Below.alloc1 _ (.cells #[.slice none 0 0, .slice none 0 0] 28))
  have hpz := pair_zero ((w.alloc (.cells (wdC l (idxK l l.length)) 53)).alloc (.cells #[.slice none 0 0, .slice none 0 0] 28))
  have hR2 := hR.below (Below.alloc1 _ (.cells #[.int .i64 0, .int .i64 0, .int .i64 0, .int .i64 0, .int .i64 0, .int .i64 0, .int .i64 0, .int .i64 0, .int .i64 0, .int .i64 0, .int .i64 0, .int .i64 0, .int .i64 0, .int .i64 0, .int .i64 0, .int .i64 0, .int .i64 0, .int .i64 0, .int .i64 0, .int .i64 0, .int .i64 0, .int .i64 0, .int .i64 0, .int .i64 0, .int .i64 0, .int .i64 0] 72))
  have hwd3 := hwd2.below (Below.alloc1 _ (.cells #[.int .i64 0, .int .i64 0, .int .i64 0, .int .i64 0, .int .i64 0, .int .i64 0, .int .i64 0, .int .i64 0, .int .i64 0, .int .i64 0, .int .i64 0, .int .i64 0, .int .i64 0, .int .i64 0, .int .i64 0, .int .i64 0, .int .i64 0, .int .i64 0, .int .i64 0, .int .i64 0, .int .i64 0, .int .i64 0, .int .i64 0, .int .i64 0, .int .i64 0, .int .i64 0] 72))
  have B3 := Below.step B2 (Below.alloc1 _ (.cells #[.int .i64 0, .int .i64 0, .int .i64 0, .int .i64 0, .int .i64 0, .int .i64 0, .int .i64 0, .int .i64 0, .int .i64 0, .int .i64 0, .int .i64 0, .int .i64 0, .int .i64 0, .int .i64 0, .int .i64 0, .int .i64 0, .int .i64 0, .int .i64 0, .int .i64 0, .int .i64 0, .int .i64 0, .int .i64 0, .int .i64 0, .int .i64 0, .int .i64 0, .int .i64 0] 72))
  rw [World.size_alloc, World.size_alloc] at hpz
  have hz1 := hwd2.size hl
  have hz2 := hwd3.size hl
  have hpar := fun x (hx : x < l.length) w => parity_any l (idxK l l.length) x (ixN l x) w hl hix (by omega) (ixN_facts hw hx).2.2
  have hfol := fun x (hx : x < l.length) w => following_any l (idxK l l.length) x (ixN l x) w hl hix (by omega) (ixN_facts hw hx).2.2 (ixN_facts hw hx).1
  have hff := fun x (hx : x < l.length) => folN_facts hw hev hx
  obtain ⟨n, hn⟩ : ∃ n, n = l.length := ⟨_, rfl⟩
  have hpm := fun w => pairMeander_any (mateL l 0) (mateL l 1) w (by rw [mateL_length]; exact hl) (by rw [mateL_length]; exact hl)
  have st0 := InvQ.start l 0 (fun x => x < 0) (fun x => by omega)
  have st1 := InvQ.start l 1 (fun x => x < 0) (fun x => by omega)
  rw [← hn] at hl hz1 hz2 hpar hfol hff st0 st1
  have HL : Hid (l.length ≤ 12) := by rw [← hn]; exact hl
  have HN := Lib.hid hn; have HIX : Hid ((idxK l n).length = 12) := by rw [hn]; exact hix
  have HWD := Lib.hid hwd3; have HR2 := Lib.hid hR2; have HB3 := Lib.hid B3; have HPZ := Lib.hid hpz
  have HPAR := Lib.hid hpar; have HFOL := Lib.hid hfol; have HFF := Lib.hid hff; have HPM := Lib.hid hpm; have HST0 := Lib.hid st0; have HST1 := Lib.hid st1
  have HWB := Lib.hid hw; have HEV := Lib.hid hev
  have hixn : idxK l l.length = idxK l n := by rw [hn]
  rw [hixn] at HWD HR2 HB3 HPZ ⊢
  generalize idxK l n = ix at *
  clear hwd B1 hR hwd2 B2 hpz hR2 hwd3 B3 hpar hfol hff hpm st0 st1 hix hw hev hn hixn
  go_enter Try.func47, Try.ntmps47
  go_wp2_with (refine wp_storePairZ rfl (.tmp 3) (.tmp 14) rfl (w.heap.size + 2) n rfl rfl HPZ.out ?_; intro w4 hs4 hg4; have hwd4 := HWD.out.grown hg4 (by omega); have HS4 := Lib.hid hs4; have HR4 := Lib.hid (HR2.out.grown hg4 (by simp)); have HB4 := Lib.hid (HB3.out.grown hg4 (by first | (simp; done) | (simp; omega)) (by intro k hk; simp at hk; omega)); have hz4 := hwd4.size HL.out; rw [← HN.out] at hz4; have HWD4 := Lib.hid hwd4; clear hs4 hg4 hwd4)
  go_loopw [18] (fun iv wr => ∃ (k : Nat) (T B : List Int), k ≤ n ∧ iv = .int .i64 k ∧ PairIn wr (w.heap.size + 2) T B ∧ Hid (InvQ l 0 T (fun x => x < k)) ∧ Hid (InvQ l 1 B (fun x => x < k)) ∧ Hid (WdIn wr w.heap.size l ix) ∧ Hid (Box2 28 wr (w.heap.size + 1) (.slice none 0 0) (.slice none 0 0)) ∧ Hid (Below w.heap.size w wr)) (fun iv _ => n - (intOf iv).toNat)
  case atStart => exact ⟨0, _, _, by omega, rfl, HS4.out, HST0, HST1, HWD4, HR4, HB4⟩
  case round =>
    obtain ⟨k, T, B, hk, rfl, hp, HT, HBT, HWR, HRR, HBR⟩ := hrel
    clear HS4 HST0 HST1 HWD4 HR4 HB4 hz4
    have hT : T.length = n := HT.out.1.trans HN.out.symm
    have hBl : B.length = n := HBT.out.1.trans HN.out.symm
    by_cases hlt : k < n
    · obtain ⟨y, hy⟩ : ∃ y, y = folN l k := ⟨_, rfl⟩
      obtain ⟨f1, f2, f3, f4, f5⟩ := HFF.out k hlt
      rw [← hy] at f1 f2
      have hfo := fun w => HFOL.out k hlt w
      rw [← f2] at hfo
      have hpa := fun w => HPAR.out k hlt w
      have HFO := Lib.hid hfo
      have HP := Lib.hid hp
      have st0 := fun hs => InvQ.step HWB.out HEV.out HT.out (Q' := fun x => x < k + 1) k (by rw [← HN.out]; exact hlt) hs (fun x _ _ hx => by omega)
      have st1 := fun hs => InvQ.step HWB.out HEV.out HBT.out (Q' := fun x => x < k + 1) k (by rw [← HN.out]; exact hlt) hs (fun x _ _ hx => by omega)
      have sm0 := fun (hs : ixN l k % 2 ≠ 0) => InvQ.same HT.out (Q' := fun x => x < k + 1) (fun x _ h hx => by
        by_cases e : x = k
        · rw [e] at h; exact absurd h hs
        · omega)
      have sm1 := fun (hs : ixN l k % 2 ≠ 1) => InvQ.same HBT.out (Q' := fun x => x < k + 1) (fun x _ h hx => by
        by_cases e : x = k
        · rw [e] at h; exact absurd h hs
        · omega)
      rw [← hy] at st0 st1
      obtain ⟨s, hs⟩ : ∃ s, ixN l k % 2 = s := ⟨_, rfl⟩
      rw [hs] at st0 st1 sm0 sm1 hpa
      have hs2 : s = 0 ∨ s = 1 := by omega
      have HPA := Lib.hid hpa
      have hjt := fun wj h => joinTop_any (w.heap.size + 2) k y T B wj h (by omega) (by omega) (by omega) (by omega)
      have hjb := fun wj h => joinBot_any (w.heap.size + 2) k y T B wj h (by omega) (by omega) (by omega) (by omega)
      have HJT := Lib.hid hjt; have HJB := Lib.hid hjb; have ST0 := Lib.hid st0; have ST1 := Lib.hid st1; have SM0 := Lib.hid sm0; have SM1 := Lib.hid sm1
      clear f2 f3 f4 f5 hfo hpa hjt hjb st0 st1 sm0 sm1 hy hp hs
      rcases hs2 with rfl | rfl
      · go_wp2_with (first
          | (with_reducible refine wp_loadWd rfl (.tmp 1) rfl w.heap.size l ix HL.out HIX.out rfl HWR.out ?_)
          | (go_at_call 67; refine (HPA.out _).mono ?_; rintro e w5 ⟨rfl, hb5⟩; have HWR5 := Lib.hid (HWR.out.below hb5); have HB5 := Lib.hid hb5; clear hb5)
          | (with_reducible refine wp_loadWd rfl (.tmp 1) rfl w.heap.size l ix HL.out HIX.out rfl HWR5.out ?_)
          | (go_at_call 42; refine (HFO.out _).mono ?_; rintro e w6 ⟨rfl, hb6⟩; have HWR6 := Lib.hid (HWR5.out.below hb6); have HB6 := Lib.hid (Below.step HB5.out hb6); clear hb6)
          | (go_at_call 68; refine (HJT.out _ (HP.out.below HB6.out)).mono ?_; rintro e w7 ⟨rfl, hp7, hg7⟩; have HP7 := Lib.hid hp7; have HG7 := Lib.hid hg7; clear hp7 hg7))
        go_roundw
        case rel => exact ⟨k + 1, _, _, by omega, by go_num, HP7.out, Lib.hid (ST0.out (by first | rfl | trivial)), Lib.hid (SM1.out (by omega)), Lib.hid (HWR6.out.grown HG7.out (by omega)), Lib.hid ((HRR.out.below HB6.out).grown HG7.out (by simp)), Lib.hid ((Below.step HBR.out HB6.out).grown HG7.out (Below.step HBR.out HB6.out).size (by intro k hk; simp at hk; omega))⟩
        case measure => simp [intOf]; omega
      · go_wp2_with (first
          | (with_reducible refine wp_loadWd rfl (.tmp 1) rfl w.heap.size l ix HL.out HIX.out rfl HWR.out ?_)
          | (go_at_call 67; refine (HPA.out _).mono ?_; rintro e w5 ⟨rfl, hb5⟩; have HWR5 := Lib.hid (HWR.out.below hb5); have HB5 := Lib.hid hb5; clear hb5)
          | (with_reducible refine wp_loadWd rfl (.tmp 1) rfl w.heap.size l ix HL.out HIX.out rfl HWR5.out ?_)
          | (go_at_call 42; refine (HFO.out _).mono ?_; rintro e w6 ⟨rfl, hb6⟩; have HWR6 := Lib.hid (HWR5.out.below hb6); have HB6 := Lib.hid (Below.step HB5.out hb6); clear hb6)
          | (go_at_call 68; refine (HJB.out _ (HP.out.below HB6.out)).mono ?_; rintro e w7 ⟨rfl, hp7, hg7⟩; have HP7 := Lib.hid hp7; have HG7 := Lib.hid hg7; clear hp7 hg7))
        go_roundw
        case rel => exact ⟨k + 1, _, _, by omega, by go_num, HP7.out, Lib.hid (SM0.out (by omega)), Lib.hid (ST1.out (by first | rfl | trivial)), Lib.hid (HWR6.out.grown HG7.out (by omega)), Lib.hid ((HRR.out.below HB6.out).grown HG7.out (by simp)), Lib.hid ((Below.step HBR.out HB6.out).grown HG7.out (Below.step HBR.out HB6.out).size (by intro k hk; simp at hk; omega))⟩
        case measure => simp [intOf]; omega
    · obtain rfl : k = n := by omega
      have eT := InvQ.all HWB.out HEV.out (by omega) HT.out (fun x hx _ => by rw [HN.out]; exact hx)
      have eB := InvQ.all HWB.out HEV.out (by omega) HBT.out (fun x hx _ => by rw [HN.out]; exact hx)
      subst eT eB
      have HP := Lib.hid hp
      generalize mateL l 0 = T at *
      generalize mateL l 1 = B at *
      clear hp hT hBl
      go_wp2_with (first
        | (with_reducible refine wp_loadPair rfl (.tmp 3) rfl (w.heap.size + 2) T B rfl HP.out ?_)
        | (go_at_call 69; refine (HPM.out _).mono ?_; rintro e w5 ⟨v1, v2, rfl, ho1, ho2, hap, hb5⟩; obtain ⟨x1, y1, z1, rfl⟩ := ho1.form'; obtain ⟨x2, y2, z2, rfl⟩ := ho2.form'; have HR5 := Lib.hid (HRR.out.below hb5); have g0 := HR5.out.c0; have g1 := HR5.out.c1; have g2 := HR5.out.free 0; have g3 := HR5.out.free 1; have HO1 := Lib.hid ho1; have HO2 := Lib.hid ho2; have HAP := Lib.hid hap; have HB5 := Lib.hid (Below.step HBR.out hb5); clear ho1 ho2 hap hb5))
      have hlt5 : w.heap.size + 1 < wr.heap.size := HRR.out.lt
      have G2 : ∀ k, (Value.slice x1 y1 z1).ownBlock = some k → (some (w.heap.size + 1) : Option Nat) ≠ some k := fun k hk e => by have h5 := (HO1.out.lt k hk).1; simp at e; omega
      have G3 : ∀ k, (Value.slice x2 y2 z2).ownBlock = some k → (some (w.heap.size + 1) : Option Nat) ≠ some k := fun k hk e => by have h5 := (HO2.out.lt k hk).1; simp at e; omega
      exact bodyPost_ret (results_wm _ _ (w.heap.size + 1) _ _ ((HR5.out.set0 _).set1 _) rfl) rfl ⟨_, _, rfl, (HO1.out.grown (grownW_trans grownW_setCell grownW_setCell) G2).mono HBR.out.size, (HO2.out.grown (grownW_trans grownW_setCell grownW_setCell) G3).mono HBR.out.size, HAP.out, (HB5.out.setCell (p := ⟨w.heap.size + 1, 0, none⟩) (Nat.le_succ _) _).setCell (p := ⟨w.heap.size + 1, 1, none⟩) (Nat.le_succ _) _⟩

end Go.Proofs.Ytkohmdhjjnmfgab
