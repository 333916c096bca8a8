/- The program's frontier: two ends and a number, in a struct; renumbered. -/
import Derived.Test.YtllhdmpnjcemkacNumber
namespace Go.Proofs.Ytllhdmpnjcemkac
open Go.RowKit Go.Maps
set_option linter.unusedSimpArgs false
set_option linter.unusedVariables false

def frL (u d : List Int) (c : Int) : List Value := endL u ++ endL d ++ [.int .i64 c]
def frC (u d : List Int) (c : Int) : Array Value := (frL u d c).toArray
theorem frL_len {u d : List Int} (c : Int) (hu : u.length ≤ 6) (hd : d.length ≤ 6) : (frL u d c).length = 15 := by
  unfold frL
  rw [List.length_append, List.length_append, endL_length hu, endL_length hd]; rfl
theorem frC_size {u d : List Int} (c : Int) (hu : u.length ≤ 6) (hd : d.length ≤ 6) : (frC u d c).size = 15 := by simp [frC, frL_len c hu hd]
theorem endL_get {l : List Int} (h : l.length ≤ 6) (i : Nat) (hi : i < 6) : (endL l)[i]? = some (.int .i64 (l.getD i 0)) := by
  have := endC_get h i hi
  simpa [endC] using this
theorem endL_last {l : List Int} (h : l.length ≤ 6) : (endL l)[6]? = some (.int .i64 (l.length : Int)) := by
  have := endC_last h
  simpa [endC] using this
theorem frL_up {u d : List Int} (c : Int) (hu : u.length ≤ 6) (i : Nat) (hi : i < 7) : (frL u d c)[i]? = (endL u)[i]? := by
  unfold frL
  rw [List.append_assoc, List.getElem?_append_left (by rw [endL_length hu]; exact hi)]
theorem frL_down {u d : List Int} (c : Int) (hu : u.length ≤ 6) (hd : d.length ≤ 6) (i : Nat) (hi : i < 7) : (frL u d c)[7 + i]? = (endL d)[i]? := by
  unfold frL
  rw [List.append_assoc, List.getElem?_append_right (by rw [endL_length hu]; omega), endL_length hu, Nat.add_sub_cancel_left, List.getElem?_append_left (by rw [endL_length hd]; exact hi)]
theorem frL_closed {u d : List Int} (c : Int) (hu : u.length ≤ 6) (hd : d.length ≤ 6) : (frL u d c)[14]? = some (.int .i64 c) := by
  unfold frL
  rw [List.getElem?_append_right (by rw [List.length_append, endL_length hu, endL_length hd]; omega), List.length_append, endL_length hu, endL_length hd]
  rfl
theorem endL_same {l l' : List Int} (h : l.length ≤ 6) (h' : l'.length = l.length) : splice (endL l) 0 (ints l') = endL l' := by
  unfold splice endL
  rw [List.take_zero, List.nil_append, Nat.zero_add, ints_length, h']
  have e : (ints (l ++ List.replicate (6 - l.length) 0) ++ [Value.int .i64 (l.length : Int)]).drop l.length = ints (List.replicate (6 - l.length) 0) ++ [Value.int .i64 (l.length : Int)] := by
    unfold ints
    rw [List.map_append, List.append_assoc, List.drop_left' (by simp)]
  rw [e]
  unfold ints
  rw [List.map_append, List.append_assoc]
theorem splice_app (A B : List Value) (o : Nat) (cs : List Value) (h : o + cs.length ≤ A.length) : splice (A ++ B) o cs = splice A o cs ++ B := by
  unfold splice
  rw [List.take_append_of_le_length (by omega), List.drop_append_of_le_length h]
  simp [List.append_assoc]
theorem splice_app2 (A B : List Value) (o : Nat) (cs : List Value) : splice (A ++ B) (A.length + o) cs = A ++ splice B o cs := by
  unfold splice
  rw [List.take_length_add_append, Nat.add_assoc, List.drop_length_add_append, List.append_assoc]
theorem frL_setU {u u' d : List Int} (c : Int) (hu : u.length ≤ 6) (h : u'.length = u.length) : splice (frL u d c) 0 (ints u') = frL u' d c := by
  unfold frL
  rw [List.append_assoc, splice_app _ _ _ _ (by rw [endL_length hu, ints_length]; omega), endL_same hu h, List.append_assoc]
theorem frL_setD {u d d' : List Int} (c : Int) (hu : u.length ≤ 6) (hd : d.length ≤ 6) (h : d'.length = d.length) : splice (frL u d c) 7 (ints d') = frL u d' c := by
  unfold frL
  have e : 7 = (endL u).length + 0 := by rw [endL_length hu]
  rw [List.append_assoc, e, splice_app2, splice_app _ _ _ _ (by rw [endL_length hd, ints_length]; omega), endL_same hd h, List.append_assoc]

def FrIn (w : World) (b : Nat) (u d : List Int) (c : Int) : Prop := w.heap[b]? = some (.cells (frC u d c) 77 (0, 0))
theorem FrIn.below {w w' : World} {b : Nat} {u d : List Int} {c : Int} (h : FrIn w b u d c) (hb : Below w.heap.size w w') : FrIn w' b u d c := (hb.block b (Array.getElem?_eq_some_iff.1 h).1).trans h
theorem FrIn.under {w w' : World} {b B : Nat} {u d : List Int} {c : Int} (h : FrIn w b u d c) (hb : Below B w w') (hB : b < B) : FrIn w' b u d c := (hb.block b hB).trans h
theorem FrIn.lt {w : World} {b : Nat} {u d : List Int} {c : Int} (h : FrIn w b u d c) : b < w.heap.size := (Array.getElem?_eq_some_iff.1 h).1
theorem fr_info : (Try.prog.info? 77).map (·.size) = some 15 := by kernel_rfl
theorem frC_one (u d : List Int) (c : Int) : (frC u d c).all (·.oneCell') = true := by
  rw [Array.all_eq_true_iff_forall_mem]
  intro x hx
  simp only [frC, frL, endL, ints, List.mem_toArray, List.mem_append, List.mem_map, List.mem_singleton] at hx
  rcases hx with ((⟨y, _, rfl⟩ | rfl) | (⟨y, _, rfl⟩ | rfl)) | rfl <;> rfl
theorem wp_loadFr {ops : Array Oper} {rest : List Oper} {o : Oper} {a : Act} {w : World} {Q : Exit → Act → World → Prop} (hgd : o.guard = none) (x : Operand) (ho : o.op = .load 77 x)
    (g : Nat) (u d : List Int) (c : Int) (hu : u.length ≤ 6) (hd : d.length ≤ 6) (hx : a.eval x = .pointer (some ⟨g, 0, none⟩)) (hg : FrIn w g u d c)
    (h : wpList Try.prog ops Q rest (a.put o.dst (.agg (frC u d c))) w) : wpList Try.prog ops Q (o :: rest) a w :=
  wpList_load_row hgd _ x ho g hx _ (frC u d c) (0, 0) _ hg Try.underlying77 rfl (by rw [fr_info, frC_size c hu hd]) h
theorem fr_kept {w w' : World} {g k : Nat} {u d : List Int} {c : Int} (h : FrIn w g u d c) (hg : w.grownBy w' (some k)) (hne : g ≠ k) : FrIn w' g u d c := (hg.block g h.lt (by simp; omega)).trans h
theorem wp_storeFr {ops : Array Oper} {rest : List Oper} {o : Oper} {a : Act} {w : World} {Q : Exit → Act → World → Prop} (hgd : o.guard = none) (x y : Operand) (ho : o.op = .store 77 x y)
    (g : Nat) (u d u0 d0 : List Int) (c c0 : Int) (hu : u.length ≤ 6) (hd : d.length ≤ 6) (hu0 : u0.length ≤ 6) (hd0 : d0.length ≤ 6) (hx : a.eval x = .pointer (some ⟨g, 0, none⟩)) (hy : a.eval y = .agg (frC u d c)) (hg : FrIn w g u0 d0 c0)
    (h : ∀ w', FrIn w' g u d c → w.grownBy w' (some g) → wpList Try.prog ops Q rest (a.put o.dst undef) w') : wpList Try.prog ops Q (o :: rest) a w := by
  refine wpList_store_row hgd _ x y ho g (frC u d c) hx hy 77 (frC u0 d0 c0) hg (by rw [fr_info, frC_size c hu hd]) (by rw [frC_size c hu hd, frC_size c0 hu0 hd0]) (frC_one u d c) ?_
  refine h _ (setRow_heap w g _ _ _ _ hg) ⟨rfl, rfl, rfl, by simp, fun k _ hk => setRow_other w g k _ (fun e => hk (by simp [e]))⟩
theorem run_loadFr (w : World) (g : Nat) (u d : List Int) (c : Int) (hu : u.length ≤ 6) (hd : d.length ≤ 6) (hg : FrIn w g u d c) : (loadVar 77 ⟨g, 0, none⟩).run Try.prog w = .ok (.agg (frC u d c)) w :=
  run_loadVar_row w g _ _ (frC u d c) _ _ hg Try.underlying77 rfl (by rw [fr_info, frC_size c hu hd])

/-- a frontier handed back -/
def FrRet (w : World) (u d : List Int) (c : Int) (e : Ending) (w' : World) : Prop := e = .returned (.agg (frC u d c)) ∧ Below w.heap.size w w'
theorem results_ren (tmps : Array Value) (w : World) (g : Nat) (u d : List Int) (c : Int) (hu : u.length ≤ 6) (hd : d.length ≤ 6) (hg : FrIn w g u d c) (h2 : tmps.getD 2 undef = .pointer (some ⟨g, 0, none⟩)) :
    (results Try.f80 tmps).run Try.prog w = .ok (.agg (frC u d c)) w := by
  have h2' : tmps[2]?.getD undef = .pointer (some ⟨g, 0, none⟩) := by simpa using h2
  have hr : Try.f80.results = #[.cell 2 77] := by kernel_rfl
  simp [results, hr, h2', asAddr, run_loadFr w g u d c hu hd hg]
theorem fr_zero (w : World) : FrIn (w.alloc (.cells #[.int .i64 0, .int .i64 0, .int .i64 0, .int .i64 0, .int .i64 0, .int .i64 0, .int .i64 0, .int .i64 0, .int .i64 0, .int .i64 0, .int .i64 0, .int .i64 0, .int .i64 0, .int .i64 0, .int .i64 0] 77)) w.heap.size [] [] 0 := heap_alloc_new w _
theorem nums_made (w : World) : Nums (w.alloc (.map #[] 0)) w.heap.size 0 [] := World.ownsMap_made _ _ _ _
theorem FrIn.wrote {w w' : World} {b g m : Nat} {u d : List Int} {c : Int} (h : FrIn w g u d c) (hw : Wrote b m w w') (h1 : g ≠ b) (h2 : g ≠ m) : FrIn w' g u d c := (hw.block g h.lt h1 h2).trans h
set_option maxHeartbeats 2000000 in
set_option maxRecDepth 100000 in
theorem renumbered_any (u d : List Int) (c : Int) (w : World) (hu : u.length ≤ 6) (hd : d.length ≤ 6) (wu : Wf u) (wd : Wf d) :
    Calls Try.prog 80 #[.agg (frC u d c)] w (FrRet w (renU u) (renD u d) c) := by
  have hru : (renU u).length ≤ 6 := by rw [renU_length]; exact hu
  have hrd : (renD u d).length ≤ 6 := by rw [renD_length]; exact hd
  have HRU := Lib.hid hru; have HRD := Lib.hid hrd; have HU := Lib.hid hu; have HD := Lib.hid hd
  have HN1 := Lib.hid (fun (b m : Nat) (w : World) (hb : FrIn w b u d c) (hm : Nums w m 0 []) (hmb : m ≠ b) => number_any [] u b 0 m 0 (frL u d c) 77 w hb (fun i hi => by rw [Nat.zero_add, frL_up c hu i (by omega), endL_get hu i (by omega)]) (by rw [Nat.zero_add, frL_up c hu 6 (by omega), endL_last hu]) hu hm hmb (by simp) (by omega) (by simp) wu)
  have HS1 : Hid (splice (frL u d c) 0 (ints (numL [] u)) = frL (renU u) d c) := frL_setU c hu (numL_length u [])
  have HN2 := Lib.hid (fun (b m : Nat) (w : World) (hb : FrIn w b (renU u) d c) (hm : Nums w m (0 + u.length) (seenL [] u)) (hmb : m ≠ b) => number_any (seenL [] u) d b 7 m (0 + u.length) (frL (renU u) d c) 77 w hb (fun i hi => by rw [frL_down c hru hd i (by omega), endL_get hd i (by omega)]) (by rw [frL_down c hru hd 6 (by omega), endL_last hd]) hd hm hmb (seenL_nodup _ _ (by simp)) (by omega) (by have := seenL_length u []; simp at this; omega) wd)
  have HS2 : Hid (splice (frL (renU u) d c) 7 (ints (numL (seenL [] u) d)) = frL (renU u) (renD u d) c) := frL_setD c hru hd (numL_length d _)
  have hf0 : FrIn (((w.alloc (.cells (frC u d c) 77)).alloc (.cells #[.int .i64 0, .int .i64 0, .int .i64 0, .int .i64 0, .int .i64 0, .int .i64 0, .int .i64 0, .int .i64 0, .int .i64 0, .int .i64 0, .int .i64 0, .int .i64 0, .int .i64 0, .int .i64 0, .int .i64 0] 77)).alloc (.map #[] 0)) w.heap.size u d c := FrIn.below (FrIn.below (heap_alloc_new w _) (Below.alloc1 _ _)) (Below.alloc1 _ _)
  have hz : FrIn (((w.alloc (.cells (frC u d c) 77)).alloc (.cells #[.int .i64 0, .int .i64 0, .int .i64 0, .int .i64 0, .int .i64 0, .int .i64 0, .int .i64 0, .int .i64 0, .int .i64 0, .int .i64 0, .int .i64 0, .int .i64 0, .int .i64 0, .int .i64 0, .int .i64 0] 77)).alloc (.map #[] 0)) (w.heap.size + 1) [] [] 0 := by
    have := FrIn.below (fr_zero (w.alloc (.cells (frC u d c) 77))) (Below.alloc1 _ (.map #[] 0))
    rwa [World.size_alloc] at this
  have hmp : Nums (((w.alloc (.cells (frC u d c) 77)).alloc (.cells #[.int .i64 0, .int .i64 0, .int .i64 0, .int .i64 0, .int .i64 0, .int .i64 0, .int .i64 0, .int .i64 0, .int .i64 0, .int .i64 0, .int .i64 0, .int .i64 0, .int .i64 0, .int .i64 0, .int .i64 0] 77)).alloc (.map #[] 0)) (w.heap.size + 1 + 1) 0 [] := by
    have := nums_made ((w.alloc (.cells (frC u d c) 77)).alloc (.cells #[.int .i64 0, .int .i64 0, .int .i64 0, .int .i64 0, .int .i64 0, .int .i64 0, .int .i64 0, .int .i64 0, .int .i64 0, .int .i64 0, .int .i64 0, .int .i64 0, .int .i64 0, .int .i64 0, .int .i64 0] 77))
    rwa [World.size_alloc, World.size_alloc] at this
  have hb0 : Below w.heap.size w (((w.alloc (.cells (frC u d c) 77)).alloc (.cells #[.int .i64 0, .int .i64 0, .int .i64 0, .int .i64 0, .int .i64 0, .int .i64 0, .int .i64 0, .int .i64 0, .int .i64 0, .int .i64 0, .int .i64 0, .int .i64 0, .int .i64 0, .int .i64 0, .int .i64 0] 77)).alloc (.map #[] 0)) := ((Below.alloc1 w _).alloc (by simp) _).alloc (by simp; omega) _
  have HF0 := Lib.hid hf0; have HZ := Lib.hid hz; have HMP := Lib.hid hmp; have HB0 := Lib.hid hb0
  clear hru hrd hu hd wu wd hz hf0 hmp hb0
  have hmm := @run_makeMap Try.prog
  go_enter Try.func80, Try.ntmps80
  go_wp2_with (first
    | (go_at_call 112; ((refine (HN2.out w.heap.size (w.heap.size + 1 + 1) _ HF1.out HM1.out (by omega)).mono ?_); rintro e w2 ⟨rfl, hr2, hm2, hw2⟩; rw [HS2.out] at hr2; have HF2 : Hid (FrIn w2 w.heap.size (renU u) (renD u d) c) := hr2; have HZ2 := Lib.hid (HZ1.out.wrote hw2 (by omega) (by omega)); have HB2 := Lib.hid (hw2.below HB1.out HB1.out.size (Nat.le_refl _) (by omega)); clear hr2 hm2 hw2))
    | (go_at_call 112; ((refine (HN1.out w.heap.size (w.heap.size + 1 + 1) _ HF0.out HMP.out (by omega)).mono ?_); rintro e w1 ⟨rfl, hr1, hm1, hw1⟩; rw [HS1.out] at hr1; have HF1 : Hid (FrIn w1 w.heap.size (renU u) d c) := hr1; have HM1 := Lib.hid hm1; have HZ1 := Lib.hid (HZ.out.wrote hw1 (by omega) (by omega)); have HB1 := Lib.hid (hw1.below HB0.out HB0.out.size (Nat.le_refl _) (by omega)); clear hr1 hm1 hw1))
    | (with_reducible refine wp_loadFr rfl (.tmp 1) rfl w.heap.size (renU u) (renD u d) c HRU.out HRD.out rfl HF2.out ?_)
    | ((with_reducible refine wp_storeFr rfl (.tmp 2) (.tmp 11) rfl (w.heap.size + 1) (renU u) (renD u d) [] [] c 0 HRU.out HRD.out (Nat.zero_le _) (Nat.zero_le _) rfl rfl HZ2.out ?_); intro w3 hs3 hg3))
  exact bodyPost_ret (results_ren _ _ (w.heap.size + 1) (renU u) (renD u d) c HRU.out HRD.out hs3 rfl) rfl ⟨rfl, HB2.out.grown hg3 HB2.out.size (by intro k hk; simp at hk; omega)⟩

end Go.Proofs.Ytllhdmpnjcemkac
