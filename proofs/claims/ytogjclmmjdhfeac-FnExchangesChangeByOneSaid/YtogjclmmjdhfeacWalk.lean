/- The program's walk round a curve; the curves of a pair. -/
import Derived.Test.YtogjclmmjdhfeacWay
import Derived.Test.YtogjclmmjdhfeacReadPair
import Derived.Test.YtogjclmmjdhfeacJoin
import Derived.Deep.LoopGhost
import Derived.Deep.RegionHeld3
import Derived.Deep.MidRow
import Derived.Deep.DeepCutAuto
namespace Go.Proofs.Ytogjclmmjdhfeac
open Go.RowKit
set_option linter.unusedSimpArgs false
set_option linter.unusedVariables false

theorem Below.setCells {B : Nat} {a : World} (b : Nat) (hB : B ≤ b) : ∀ (vs : List Value) (o : Nat) (w : World), Below B a w → Below B a (w.setCells b o vs)
  | [], _, _, h => h
  | v :: r, o, w, h => Below.setCells b hB r (o + 1) _ (h.setCell (p := ⟨b, o, none⟩) hB v)

theorem pairC_top (t b : List Int) (k : Nat) (hk : k < 12) : (pairC t b)[k]? = some (.int .i64 (t.getD k 0)) := by
  have e2 : k = 0 ∨ k = 1 ∨ k = 2 ∨ k = 3 ∨ k = 4 ∨ k = 5 ∨ k = 6 ∨ k = 7 ∨ k = 8 ∨ k = 9 ∨ k = 10 ∨ k = 11 := by omega
  rcases e2 with rfl | rfl | rfl | rfl | rfl | rfl | rfl | rfl | rfl | rfl | rfl | rfl <;> rfl
theorem pairC_bot (t b : List Int) (k : Nat) (hk : k < 12) : (pairC t b)[13 + k]? = some (.int .i64 (b.getD k 0)) := by
  have e2 : k = 0 ∨ k = 1 ∨ k = 2 ∨ k = 3 ∨ k = 4 ∨ k = 5 ∨ k = 6 ∨ k = 7 ∨ k = 8 ∨ k = 9 ∨ k = 10 ∨ k = 11 := by omega
  rcases e2 with rfl | rfl | rfl | rfl | rfl | rfl | rfl | rfl | rfl | rfl | rfl | rfl <;> rfl
theorem PairIn.topAt {w : World} {g : Nat} {t b : List Int} (h : PairIn w g t b) (k : Nat) (hk : k < 12) : w.cell? ⟨g, k, none⟩ = some (.int .i64 (t.getD k 0)) := by rw [cell_of_row w g _ _ _ _ h]; exact pairC_top t b k hk
theorem PairIn.botAt {w : World} {g : Nat} {t b : List Int} (h : PairIn w g t b) (k : Nat) (hk : k < 12) : w.cell? ⟨g, 13 + k, none⟩ = some (.int .i64 (b.getD k 0)) := by rw [cell_of_row w g _ _ _ _ h]; exact pairC_bot t b k hk
theorem PairIn.sizeAt {w : World} {g : Nat} {t b : List Int} (h : PairIn w g t b) : w.cell? ⟨g, 12, none⟩ = some (.int .i64 (t.length : Int)) := by rw [cell_of_row w g _ _ _ _ h]; rfl
theorem PairIn.new (w : World) (t b : List Int) : PairIn (w.alloc (.cells (pairC t b) 58)) w.heap.size t b := heap_alloc_new w _
theorem PairIn.setOther {w : World} {g b' i : Nat} {t b : List Int} {v : Value} (h : PairIn w g t b) (hne : g ≠ b') : PairIn (w.setCell ⟨b', i, none⟩ v) g t b := (heap_setCell_other w ⟨b', i, none⟩ g v hne).trans h
/-- a whole pair read out of a variable -/
theorem wp_loadPair {ops : Array Oper} {rest : List Oper} {o : Oper} {a : Act} {w : World} {Q : Exit → Act → World → Prop} (hgd : o.guard = none) (x : Operand) (ho : o.op = .load 58 x)
    (g : Nat) (t b : List Int) (hx : a.eval x = .pointer (some ⟨g, 0, none⟩)) (hg : PairIn w g t b)
    (h : wpList Try.prog ops Q rest (a.put o.dst (.agg (pairC t b))) w) : wpList Try.prog ops Q (o :: rest) a w :=
  wpList_load_row hgd _ x ho g hx _ (pairC t b) (0, 0) _ hg Try.underlying58 rfl (by rw [pair_info, pairC_size]) h
theorem wp_loadPairG {ops : Array Oper} {rest : List Oper} {o : Oper} {a : Act} {w : World} {Q : Exit → Act → World → Prop} (x : Operand) (ho : o.op = .load 58 x)
    (g : Nat) (t b : List Int) (hx : a.eval x = .pointer (some ⟨g, 0, none⟩)) (hg : PairIn w g t b) (hw : Region.wanted o (yielded ops a.tmps) = true)
    (h : wpList Try.prog ops Q rest (a.put o.dst (.agg (pairC t b))) w) : wpList Try.prog ops Q (o :: rest) a w :=
  wpList_wanted hw fun _ hK => wp_load_row _ x ho g hx _ (pairC t b) (0, 0) _ hg Try.underlying58 rfl (by rw [pair_info, pairC_size]) (hK _ _ h)

theorem pairSize_any (t b : List Int) (w : World) : Calls Try.prog 79 #[.agg (pairC t b)] w fun e w' => e = .returned (.int .i64 (t.length : Int)) ∧ Below w.heap.size w w' := by
  have hc := (PairIn.new w t b).sizeAt
  go_enter Try.func79, Try.ntmps79
  go_wp2
  go_ret
  exact ⟨rfl, Below.alloc1 _ _⟩

set_option maxHeartbeats 2000000 in
theorem walk_curves (t b : List Int) (T B : Nat → Nat) (n i : Nat) (pt : PairedN T n) (pb : PairedN B n) (hn : n ≤ 12) (hi : i < n) (rt : ∀ k, k < n → t.getD k 0 = ((T k : Nat) : Int)) (rb : ∀ k, k < n → b.getD k 0 = ((B k : Nat) : Int)) (w : World) (p1 p2 p3 : Value)
    (I : List Nat → World → Prop) (h0 : I [] (w.alloc (.cells (pairC t b) 58))) (hP : ∀ d w', I d w' → PairIn w' w.heap.size t b)
    (hV : ∀ d x w', I d w' → x < n → d.length ≤ 2 * n → Calls Try.prog 104 #[.int .i64 (x : Int), p1, p2, p3] w' fun e w'' => e = .returned (.tuple #[]) ∧ I (d ++ [x]) w'') :
    Calls Try.prog 103 #[.agg (pairC t b), .int .i64 (i : Int), .func (.func 104) #[] #[p1, p2, p3]] w fun e w' => e = .returned (.tuple #[]) ∧ I (wayN T B n i) w' := by
  have HT := Lib.hid (fun w' (h : PairIn w' w.heap.size t b) x (hx : x < n) => (rt x hx) ▸ h.topAt x (by omega))
  have HB := Lib.hid (fun w' (h : PairIn w' w.heap.size t b) x (hx : x < n) => (rb x hx) ▸ h.botAt x (by omega))
  have HPT := Lib.hid pt; have HPB := Lib.hid pb; have H0 := Lib.hid h0; have HP := Lib.hid hP; have HV := Lib.hid hV
  have HST := Lib.hid (hits_start pt pb hi)
  clear pt pb h0 hP hV rt rb
  go_enter Try.func103, Try.ntmps103
  go_wp2
  go_loopg [6] n (fun g s6 wr => ∃ (x : Nat) (done : List Nat), s6 = .int .i64 (x : Int) ∧ x < n ∧ Hid (Hits T B i g x) ∧ Hid (done ++ wayF T B i g x = wayN T B n i) ∧ Hid (I done wr))
  case atStart => exact ⟨i, [], rfl, hi, HST, Lib.hid rfl, H0⟩
  case round =>
    obtain ⟨x, done, rfl, hx, HH, HD, HI⟩ := hrel
    clear HST H0
    generalize wr = wa at *
    obtain ⟨g', hg', hN⟩ := wayF_next HH.out HD.out
    have p1 := (HPT.out x hx).1
    have p2 := (HPB.out (T x) p1).1
    have HG := Lib.hid hg'; have HN := Lib.hid hN
    have c1 := fun w' h => HT.out w' h x hx
    have c2 := fun w' h => HB.out w' h (T x) p1
    have hdl : done.length + 2 ≤ 2 * n := by have := wayAt_len hN; simpa using this
    have C1 := Lib.hid c1; have C2 := Lib.hid c2
    clear hg' hN HH HD c1 c2
    generalize T x = y at *
    generalize B y = z at *
    go_wp2_with fail
    refine (HV.out done x wa HI.out hx (by omega)).mono ?_
    rintro e w1 ⟨rfl, hI1⟩
    have e1 := C1.out w1 (HP.out _ _ hI1)
    have HI1 := Lib.hid hI1; clear hI1
    go_wp2_with fail
    clear e1
    refine (HV.out _ y w1 HI1.out p1 (by simp; omega)).mono ?_
    rintro e w2 ⟨rfl, hI2⟩
    have e2 := C2.out w2 (HP.out _ _ hI2)
    have HI2 : Hid (I (done ++ [x, y]) w2) := by show I _ _; simpa using hI2
    clear hI2
    by_cases hz : z = i
    · subst hz
      have hE := wayAt_end HN.out
      have HE := Lib.hid hE
      have hq : ((z : Int) == (z : Int)) = true := by simp
      clear hE
      go_wp2
      refine bodyPost_ret (results_none rfl _ _ _) rfl ?_
      exact ⟨rfl, by rw [← HE.out]; exact HI2.out⟩
    · have hq : ((z : Int) == (i : Int)) = false := by simp; omega
      have HA : Hid (Hits T B i g' z ∧ (done ++ [x, y]) ++ wayF T B i g' z = wayN T B n i) := by
        rcases HN.out with ⟨h, _⟩ | ⟨_, h1, h2⟩
        · exact absurd h hz
        · exact ⟨h1, h2⟩
      clear hz
      go_wp2_with fail
      go_roundg g'
      case measure => have := HG.out; omega
      case rel => exact ⟨z, done ++ [x, y], rfl, p2, HA.out.1, HA.out.2, HI2⟩


/-! the rows of the curves' walk: the index of each point's curve, and whether it was met -/
def idxV (c : List Int) (x : Nat) : Value := .int .i64 (if c.getD x (-1) < 0 then 0 else c.getD x (-1))
def idxA (c : List Int) : Array Value := ((List.range 12).map (idxV c)).toArray
def metV (c : List Int) (x : Nat) : Value := .bool (decide (0 ≤ c.getD x (-1)))
def metA (c : List Int) : Array Value := ((List.range 12).map (metV c)).toArray
theorem idxA_size (c : List Int) : (idxA c).size = 12 := by simp [idxA]
theorem metA_size (c : List Int) : (metA c).size = 12 := by simp [metA]
theorem idxA_get (c : List Int) (x : Nat) (hx : x < 12) : (idxA c)[x]? = some (idxV c x) := by simp [idxA, hx]
theorem metA_get (c : List Int) (x : Nat) (hx : x < 12) : (metA c)[x]? = some (metV c x) := by simp [metA, hx]
theorem getD_set_same (c : List Int) (x : Nat) (v d : Int) (hx : x < c.length) : (c.set x v).getD x d = v := by simp [List.getD, hx]
theorem getD_set_ne (c : List Int) (x y : Nat) (v d : Int) (hne : x ≠ y) : (c.set x v).getD y d = c.getD y d := by simp [List.getD, List.getElem?_set_ne hne]
theorem idxA_set (c : List Int) (x : Nat) (m : Nat) (hx : x < c.length) (hc : c.length ≤ 12) : (idxA c).setIfInBounds x (.int .i64 (m : Int)) = idxA (c.set x (m : Int)) := by
  refine Array.ext (by simp [idxA]) fun y h1 h2 => ?_
  have hy : y < 12 := by simpa [idxA] using h2
  by_cases e : x = y
  · subst e
    simp only [Array.getElem_setIfInBounds_self, idxA, List.getElem_toArray, List.getElem_map, List.getElem_range, idxV]
    rw [getD_set_same _ _ _ _ hx, if_neg (by omega)]
  · rw [Array.getElem_setIfInBounds_ne _ e]
    simp only [idxA, List.getElem_toArray, List.getElem_map, List.getElem_range, idxV]
    rw [getD_set_ne _ _ _ _ _ e]
    rw [idxA_size]; exact hy
theorem metA_set (c : List Int) (x : Nat) (m : Nat) (hx : x < c.length) (hc : c.length ≤ 12) : (metA c).setIfInBounds x (.bool true) = metA (c.set x (m : Int)) := by
  refine Array.ext (by simp [metA]) fun y h1 h2 => ?_
  have hy : y < 12 := by simpa [metA] using h2
  by_cases e : x = y
  · subst e
    simp only [Array.getElem_setIfInBounds_self, metA, List.getElem_toArray, List.getElem_map, List.getElem_range, metV]
    rw [getD_set_same _ _ _ _ hx, decide_eq_true (by omega)]
  · rw [Array.getElem_setIfInBounds_ne _ e]
    simp only [metA, List.getElem_toArray, List.getElem_map, List.getElem_range, metV]
    rw [getD_set_ne _ _ _ _ _ e]
    rw [metA_size]; exact hy

/-- what lies in memory while the curves are walked -/
structure CurIn (w : World) (g : Nat) (t b c : List Int) (m : Nat) : Prop where
  pair : PairIn w g t b
  out : w.heap[g + 1]? = some (.cells (idxA []) 54 (0, 0))
  idx : w.heap[g + 1 + 1]? = some (.cells (idxA c) 54 (0, 0))
  met : w.heap[g + 1 + 1 + 1]? = some (.cells (metA c) 112 (0, 0))
  cnt : w.heap[g + 1 + 1 + 1 + 1]? = some (.cells #[.int .i64 (m : Int)] 3 (0, 0))
theorem blk_below {w w' : World} {g : Nat} {o : Obj} (h : w.heap[g]? = some o) (hb : Below w.heap.size w w') : w'.heap[g]? = some o := (hb.block g (Array.getElem?_eq_some_iff.1 h).1).trans h
theorem CurIn.below {w w' : World} {g m : Nat} {t b c : List Int} (h : CurIn w g t b c m) (hb : Below w.heap.size w w') : CurIn w' g t b c m :=
  ⟨h.pair.below hb, blk_below h.out hb, blk_below h.idx hb, blk_below h.met hb, blk_below h.cnt hb⟩
theorem CurIn.visit {w : World} {g m : Nat} {t b c : List Int} (h : CurIn w g t b c m) (x : Nat) (hx : x < c.length) (hc : c.length ≤ 12) :
    CurIn ((w.setCell ⟨g + 1 + 1, x, none⟩ (.int .i64 (m : Int))).setCell ⟨g + 1 + 1 + 1, x, none⟩ (.bool true)) g t b (c.set x (m : Int)) m := by
  have o1 : ∀ k, k ≠ g + 1 + 1 → (w.setCell ⟨g + 1 + 1, x, none⟩ (.int .i64 (m : Int))).heap[k]? = w.heap[k]? := fun k hk => heap_setCell_other w ⟨g + 1 + 1, x, none⟩ k _ hk
  have o2 : ∀ (w : World) k, k ≠ g + 1 + 1 + 1 → (w.setCell ⟨g + 1 + 1 + 1, x, none⟩ (.bool true)).heap[k]? = w.heap[k]? := fun w k hk => heap_setCell_other w ⟨g + 1 + 1 + 1, x, none⟩ k _ hk
  refine ⟨?_, ?_, ?_, ?_, ?_⟩
  · exact (o2 _ _ (by omega)).trans ((o1 _ (by omega)).trans h.pair)
  · exact (o2 _ _ (by omega)).trans ((o1 _ (by omega)).trans h.out)
  · refine (o2 _ _ (by omega)).trans ?_
    rw [heap_setCell_same w (g + 1 + 1) x _ _ _ h.idx, idxA_set c x m hx hc]
  · rw [heap_setCell_same _ (g + 1 + 1 + 1) x (metA c) _ _ ((o1 _ (by omega)).trans h.met), metA_set c x m hx hc]
  · exact (o2 _ _ (by omega)).trans ((o1 _ (by omega)).trans h.cnt)
theorem CurIn.count {w : World} {g m : Nat} {t b c : List Int} (h : CurIn w g t b c m) (x : Int) (hx : x = ((m + 1 : Nat) : Int)) : CurIn (w.setCell ⟨g + 1 + 1 + 1 + 1, 0, none⟩ (.int .i64 x)) g t b c (m + 1) := by
  have o1 : ∀ k, k ≠ g + 1 + 1 + 1 + 1 → (w.setCell ⟨g + 1 + 1 + 1 + 1, 0, none⟩ (.int .i64 x)).heap[k]? = w.heap[k]? := fun k hk => heap_setCell_other w ⟨g + 1 + 1 + 1 + 1, 0, none⟩ k _ hk
  subst hx
  exact ⟨(o1 _ (by omega)).trans h.pair, (o1 _ (by omega)).trans h.out, (o1 _ (by omega)).trans h.idx, (o1 _ (by omega)).trans h.met, heap_setCell_same w _ 0 _ _ _ h.cnt⟩
theorem CurIn.cntCell {w : World} {g m : Nat} {t b c : List Int} (h : CurIn w g t b c m) : w.cell? ⟨g + 1 + 1 + 1 + 1, 0, none⟩ = some (.int .i64 (m : Int)) := by rw [cell_of_row w _ _ _ _ _ h.cnt]; rfl
theorem CurIn.metCell {w : World} {g m : Nat} {t b c : List Int} (h : CurIn w g t b c m) (x : Nat) (hx : x < 12) : w.cell? ⟨g + 1 + 1 + 1, x, none⟩ = some (.bool (decide (0 ≤ c.getD x (-1)))) := by rw [cell_of_row w _ _ _ _ _ h.met]; exact metA_get c x hx
theorem CurIn.idxCell {w : World} {g m : Nat} {t b c : List Int} (h : CurIn w g t b c m) (x : Nat) (hx : x < 12) : w.cell? ⟨g + 1 + 1, x, none⟩ = some (.int .i64 (if c.getD x (-1) < 0 then 0 else c.getD x (-1))) := by rw [cell_of_row w _ _ _ _ _ h.idx]; exact idxA_get c x hx

theorem visit_any (w : World) (g m x : Nat) (t b c : List Int) (h : CurIn w g t b c m) (hx : x < c.length) (hc : c.length ≤ 12) (hm : m ≤ 12) :
    Calls Try.prog 104 #[.int .i64 (x : Int), .pointer (some ⟨g + 1 + 1 + 1 + 1, 0, none⟩), .pointer (some ⟨g + 1 + 1, 0, none⟩), .pointer (some ⟨g + 1 + 1 + 1, 0, none⟩)] w
      fun e w' => e = .returned (.tuple #[]) ∧ w' = (w.setCell ⟨g + 1 + 1, x, none⟩ (.int .i64 (m : Int))).setCell ⟨g + 1 + 1 + 1, x, none⟩ (.bool true) := by
  have hx12 : x < 12 := by omega
  have c1 := h.cntCell
  have c2 := h.idxCell x hx12
  have c3 := h.metCell x hx12
  have f2 : w.frozen? ⟨g + 1 + 1, x, none⟩ = false := frozen_of_row w _ x _ _ h.idx
  have f3 : w.frozen? ⟨g + 1 + 1 + 1, x, none⟩ = false := frozen_of_row w _ x _ _ h.met
  clear h
  generalize (if c.getD x (-1) < 0 then 0 else c.getD x (-1)) = y at *
  generalize decide (0 ≤ c.getD x (-1)) = z at *
  go_enter Try.func104, Try.ntmps104
  go_wp2
  go_end0
  exact ⟨rfl, rfl⟩

theorem arr12_info : (Try.prog.info? 54).map (·.size) = some 12 := by kernel_rfl
theorem row_range {w : World} {g : Nat} {C : Array Value} {T : TypeId} {fr : Nat × Nat} (h : w.heap[g]? = some (.cells C T fr)) : w.rangeAt g 0 C.toList := by
  intro j v hv
  rw [Nat.zero_add, cell_of_row w g _ _ _ _ h]
  simpa using hv
theorem row_there {w : World} {g : Nat} {C : Array Value} {T : TypeId} (h : w.heap[g]? = some (.cells C T (0, 0))) (n : Nat) (hn : n = C.size) : w.there g 0 n := by
  intro j hj
  rw [Nat.zero_add, cell_of_row w g _ _ _ _ h]
  exact ⟨by simp; omega, frozen_of_row w g j _ _ h⟩
theorem results_cu (tmps : Array Value) (w : World) (g : Nat) (cs : List Value) (m : Int) (hl : cs.length = 12) (hg : w.rangeAt g 0 cs) (h2 : tmps.getD 2 undef = .pointer (some ⟨g, 0, none⟩)) (h3 : tmps.getD 3 undef = .int .i64 m) :
    (results Try.f80 tmps).run Try.prog w = .ok (.tuple #[.agg cs.toArray, .int .i64 m]) w := by
  have h2' : tmps[2]?.getD undef = .pointer (some ⟨g, 0, none⟩) := by simpa using h2
  have h3' : tmps[3]?.getD undef = .int .i64 m := by simpa using h3
  have hr : Try.f80.results = #[.cell 2 54, .tmp 3] := by kernel_rfl
  have hload : (loadVar 54 ⟨g, 0, none⟩).run Try.prog w = .ok (.agg cs.toArray) w := run_loadVar_mid w g 0 _ cs _ hg Try.underlying54 rfl (by rw [arr12_info, hl])
  simp [results, hr, h2', h3', asAddr, hload]

theorem idxA_nil : idxA [] = #[.int .i64 0, .int .i64 0, .int .i64 0, .int .i64 0, .int .i64 0, .int .i64 0, .int .i64 0, .int .i64 0, .int .i64 0, .int .i64 0, .int .i64 0, .int .i64 0] := rfl
theorem blank_get (n x : Nat) (d : Int) (hd : d = -1) : (List.replicate n (-1 : Int)).getD x d = -1 := by
  subst hd
  by_cases h : x < n <;> simp [List.getD, h]
theorem idxA_blank (n : Nat) : idxA (List.replicate n (-1)) = idxA [] := by
  unfold idxA
  congr 1
  refine List.map_congr_left fun x _ => ?_
  simp only [idxV]; rw [blank_get n x (-1) rfl]; simp
theorem metA_blank (n : Nat) : metA (List.replicate n (-1)) = #[.bool false, .bool false, .bool false, .bool false, .bool false, .bool false, .bool false, .bool false, .bool false, .bool false, .bool false, .bool false] := by
  have : metA (List.replicate n (-1)) = metA [] := by
    unfold metA
    congr 1
    refine List.map_congr_left fun x _ => ?_
    simp only [metV]; rw [blank_get n x (-1) rfl]; simp
  rw [this]; rfl

theorem CurIn.start (w : World) (t b : List Int) (n : Nat) : CurIn (((((w.alloc (.cells (pairC t b) 58)).alloc (.cells #[.int .i64 0, .int .i64 0, .int .i64 0, .int .i64 0, .int .i64 0, .int .i64 0, .int .i64 0, .int .i64 0, .int .i64 0, .int .i64 0, .int .i64 0, .int .i64 0] 54)).alloc (.cells #[.int .i64 0, .int .i64 0, .int .i64 0, .int .i64 0, .int .i64 0, .int .i64 0, .int .i64 0, .int .i64 0, .int .i64 0, .int .i64 0, .int .i64 0, .int .i64 0] 54)).alloc (.cells #[.bool false, .bool false, .bool false, .bool false, .bool false, .bool false, .bool false, .bool false, .bool false, .bool false, .bool false, .bool false] 112)).alloc (.cells #[.int .i64 0] 3)) w.heap.size t b (List.replicate n (-1)) 0 := by
  have e1 : (w.alloc (.cells (pairC t b) 58)).heap.size = w.heap.size + 1 := World.size_alloc _ _
  have e2 : ((w.alloc (.cells (pairC t b) 58)).alloc (.cells #[.int .i64 0, .int .i64 0, .int .i64 0, .int .i64 0, .int .i64 0, .int .i64 0, .int .i64 0, .int .i64 0, .int .i64 0, .int .i64 0, .int .i64 0, .int .i64 0] 54)).heap.size = w.heap.size + 1 + 1 := by rw [World.size_alloc, e1]
  have e3 : (((w.alloc (.cells (pairC t b) 58)).alloc (.cells #[.int .i64 0, .int .i64 0, .int .i64 0, .int .i64 0, .int .i64 0, .int .i64 0, .int .i64 0, .int .i64 0, .int .i64 0, .int .i64 0, .int .i64 0, .int .i64 0] 54)).alloc (.cells #[.int .i64 0, .int .i64 0, .int .i64 0, .int .i64 0, .int .i64 0, .int .i64 0, .int .i64 0, .int .i64 0, .int .i64 0, .int .i64 0, .int .i64 0, .int .i64 0] 54)).heap.size = w.heap.size + 1 + 1 + 1 := by rw [World.size_alloc, e2]
  have e4 : ((((w.alloc (.cells (pairC t b) 58)).alloc (.cells #[.int .i64 0, .int .i64 0, .int .i64 0, .int .i64 0, .int .i64 0, .int .i64 0, .int .i64 0, .int .i64 0, .int .i64 0, .int .i64 0, .int .i64 0, .int .i64 0] 54)).alloc (.cells #[.int .i64 0, .int .i64 0, .int .i64 0, .int .i64 0, .int .i64 0, .int .i64 0, .int .i64 0, .int .i64 0, .int .i64 0, .int .i64 0, .int .i64 0, .int .i64 0] 54)).alloc (.cells #[.bool false, .bool false, .bool false, .bool false, .bool false, .bool false, .bool false, .bool false, .bool false, .bool false, .bool false, .bool false] 112)).heap.size = w.heap.size + 1 + 1 + 1 + 1 := by rw [World.size_alloc, e3]
  have b12 := Below.alloc1 (w.alloc (.cells (pairC t b) 58)) (.cells #[.int .i64 0, .int .i64 0, .int .i64 0, .int .i64 0, .int .i64 0, .int .i64 0, .int .i64 0, .int .i64 0, .int .i64 0, .int .i64 0, .int .i64 0, .int .i64 0] 54)
  have b23 := Below.alloc1 ((w.alloc (.cells (pairC t b) 58)).alloc (.cells #[.int .i64 0, .int .i64 0, .int .i64 0, .int .i64 0, .int .i64 0, .int .i64 0, .int .i64 0, .int .i64 0, .int .i64 0, .int .i64 0, .int .i64 0, .int .i64 0] 54)) (.cells #[.int .i64 0, .int .i64 0, .int .i64 0, .int .i64 0, .int .i64 0, .int .i64 0, .int .i64 0, .int .i64 0, .int .i64 0, .int .i64 0, .int .i64 0, .int .i64 0] 54)
  have b34 := Below.alloc1 (((w.alloc (.cells (pairC t b) 58)).alloc (.cells #[.int .i64 0, .int .i64 0, .int .i64 0, .int .i64 0, .int .i64 0, .int .i64 0, .int .i64 0, .int .i64 0, .int .i64 0, .int .i64 0, .int .i64 0, .int .i64 0] 54)).alloc (.cells #[.int .i64 0, .int .i64 0, .int .i64 0, .int .i64 0, .int .i64 0, .int .i64 0, .int .i64 0, .int .i64 0, .int .i64 0, .int .i64 0, .int .i64 0, .int .i64 0] 54)) (.cells #[.bool false, .bool false, .bool false, .bool false, .bool false, .bool false, .bool false, .bool false, .bool false, .bool false, .bool false, .bool false] 112)
  have b45 := Below.alloc1 ((((w.alloc (.cells (pairC t b) 58)).alloc (.cells #[.int .i64 0, .int .i64 0, .int .i64 0, .int .i64 0, .int .i64 0, .int .i64 0, .int .i64 0, .int .i64 0, .int .i64 0, .int .i64 0, .int .i64 0, .int .i64 0] 54)).alloc (.cells #[.int .i64 0, .int .i64 0, .int .i64 0, .int .i64 0, .int .i64 0, .int .i64 0, .int .i64 0, .int .i64 0, .int .i64 0, .int .i64 0, .int .i64 0, .int .i64 0] 54)).alloc (.cells #[.bool false, .bool false, .bool false, .bool false, .bool false, .bool false, .bool false, .bool false, .bool false, .bool false, .bool false, .bool false] 112)) (.cells #[.int .i64 0] 3)
  have q1 := heap_alloc_new (w.alloc (.cells (pairC t b) 58)) (.cells #[.int .i64 0, .int .i64 0, .int .i64 0, .int .i64 0, .int .i64 0, .int .i64 0, .int .i64 0, .int .i64 0, .int .i64 0, .int .i64 0, .int .i64 0, .int .i64 0] 54)
  have q2 := heap_alloc_new ((w.alloc (.cells (pairC t b) 58)).alloc (.cells #[.int .i64 0, .int .i64 0, .int .i64 0, .int .i64 0, .int .i64 0, .int .i64 0, .int .i64 0, .int .i64 0, .int .i64 0, .int .i64 0, .int .i64 0, .int .i64 0] 54)) (.cells #[.int .i64 0, .int .i64 0, .int .i64 0, .int .i64 0, .int .i64 0, .int .i64 0, .int .i64 0, .int .i64 0, .int .i64 0, .int .i64 0, .int .i64 0, .int .i64 0] 54)
  have q3 := heap_alloc_new (((w.alloc (.cells (pairC t b) 58)).alloc (.cells #[.int .i64 0, .int .i64 0, .int .i64 0, .int .i64 0, .int .i64 0, .int .i64 0, .int .i64 0, .int .i64 0, .int .i64 0, .int .i64 0, .int .i64 0, .int .i64 0] 54)).alloc (.cells #[.int .i64 0, .int .i64 0, .int .i64 0, .int .i64 0, .int .i64 0, .int .i64 0, .int .i64 0, .int .i64 0, .int .i64 0, .int .i64 0, .int .i64 0, .int .i64 0] 54)) (.cells #[.bool false, .bool false, .bool false, .bool false, .bool false, .bool false, .bool false, .bool false, .bool false, .bool false, .bool false, .bool false] 112)
  have q4 := heap_alloc_new ((((w.alloc (.cells (pairC t b) 58)).alloc (.cells #[.int .i64 0, .int .i64 0, .int .i64 0, .int .i64 0, .int .i64 0, .int .i64 0, .int .i64 0, .int .i64 0, .int .i64 0, .int .i64 0, .int .i64 0, .int .i64 0] 54)).alloc (.cells #[.int .i64 0, .int .i64 0, .int .i64 0, .int .i64 0, .int .i64 0, .int .i64 0, .int .i64 0, .int .i64 0, .int .i64 0, .int .i64 0, .int .i64 0, .int .i64 0] 54)).alloc (.cells #[.bool false, .bool false, .bool false, .bool false, .bool false, .bool false, .bool false, .bool false, .bool false, .bool false, .bool false, .bool false] 112)) (.cells #[.int .i64 0] 3)
  refine ⟨((((PairIn.new w t b).below b12).below b23).below b34).below b45, ?_, ?_, ?_, ?_⟩
  · rw [e1] at q1; exact blk_below (blk_below (blk_below q1 b23) b34) b45
  · rw [e2] at q2; rw [idxA_blank]; exact blk_below (blk_below q2 b34) b45
  · rw [e3] at q3; rw [metA_blank]; exact blk_below q3 b45
  · rw [e4] at q4; exact q4
theorem start_below (w : World) (t b : List Int) : Below w.heap.size w (((((w.alloc (.cells (pairC t b) 58)).alloc (.cells #[.int .i64 0, .int .i64 0, .int .i64 0, .int .i64 0, .int .i64 0, .int .i64 0, .int .i64 0, .int .i64 0, .int .i64 0, .int .i64 0, .int .i64 0, .int .i64 0] 54)).alloc (.cells #[.int .i64 0, .int .i64 0, .int .i64 0, .int .i64 0, .int .i64 0, .int .i64 0, .int .i64 0, .int .i64 0, .int .i64 0, .int .i64 0, .int .i64 0, .int .i64 0] 54)).alloc (.cells #[.bool false, .bool false, .bool false, .bool false, .bool false, .bool false, .bool false, .bool false, .bool false, .bool false, .bool false, .bool false] 112)).alloc (.cells #[.int .i64 0] 3)) :=
  Below.step (Below.step (Below.step (Below.step (Below.alloc1 w _) (Below.alloc1 _ _)) (Below.alloc1 _ _)) (Below.alloc1 _ _)) (Below.alloc1 _ _)
theorem getD_in (c : List Int) (k : Nat) (d : Int) (hk : k < c.length) : c.getD k d = c.getD k 0 := by simp [List.getD, hk]

set_option maxHeartbeats 8000000 in
set_option maxRecDepth 100000 in
theorem curves_any (t b : List Int) (T B : Nat → Nat) (n : Nat) (pt : PairedN T n) (pb : PairedN B n) (hn : n ≤ 12) (hl : t.length = n) (rt : ∀ k, k < n → t.getD k 0 = ((T k : Nat) : Int)) (rb : ∀ k, k < n → b.getD k 0 = ((B k : Nat) : Int)) (w : World) :
    Calls Try.prog 80 #[.agg (pairC t b)] w fun e w' => e = .returned (.tuple #[.agg (idxA (colN T B n)), .int .i64 ((cntW T B n : Nat) : Int)]) ∧ Below w.heap.size w w' := by
  have HW := Lib.hid (fun i (hi : i < n) w p1 p2 p3 I h0 hP hV => walk_curves t b T B n i pt pb hn hi rt rb w p1 p2 p3 I h0 hP hV)
  have HLT := Lib.hid (fun i (hi : i < n) => wayN_lt pt pb hi)
  have HSZ := Lib.hid (fun w => hl ▸ pairSize_any t b w)
  have hp0 := PairIn.new w t b
  have HP0 := Lib.hid hp0
  clear pt pb rt rb hp0
  have hc0 := CurIn.start w t b n
  have HC0 := Lib.hid hc0; have HB0 := Lib.hid (start_below w t b)
  clear hc0
  have G : w.heap.size + 1 + 1 + 1 + 1 < (((((w.alloc (.cells (pairC t b) 58)).alloc (.cells #[.int .i64 0, .int .i64 0, .int .i64 0, .int .i64 0, .int .i64 0, .int .i64 0, .int .i64 0, .int .i64 0, .int .i64 0, .int .i64 0, .int .i64 0, .int .i64 0] 54)).alloc (.cells #[.int .i64 0, .int .i64 0, .int .i64 0, .int .i64 0, .int .i64 0, .int .i64 0, .int .i64 0, .int .i64 0, .int .i64 0, .int .i64 0, .int .i64 0, .int .i64 0] 54)).alloc (.cells #[.bool false, .bool false, .bool false, .bool false, .bool false, .bool false, .bool false, .bool false, .bool false, .bool false, .bool false, .bool false] 112)).alloc (.cells #[.int .i64 0] 3)).heap.size := (Array.getElem?_eq_some_iff.1 HC0.out.cnt).1
  go_enter Try.func80, Try.ntmps80
  go_upto_region 4 with (fail)
  generalize (((((w.alloc (.cells (pairC t b) 58)).alloc (.cells #[.int .i64 0, .int .i64 0, .int .i64 0, .int .i64 0, .int .i64 0, .int .i64 0, .int .i64 0, .int .i64 0, .int .i64 0, .int .i64 0, .int .i64 0, .int .i64 0] 54)).alloc (.cells #[.int .i64 0, .int .i64 0, .int .i64 0, .int .i64 0, .int .i64 0, .int .i64 0, .int .i64 0, .int .i64 0, .int .i64 0, .int .i64 0, .int .i64 0, .int .i64 0] 54)).alloc (.cells #[.bool false, .bool false, .bool false, .bool false, .bool false, .bool false, .bool false, .bool false, .bool false, .bool false, .bool false, .bool false] 112)).alloc (.cells #[.int .i64 0] 3)) = W5 at *
  obtain ⟨g, hg⟩ : ∃ g, g = w.heap.size := ⟨_, rfl⟩
  have HGW := Lib.hid hg
  rw [← hg] at HC0 G ⊢
  clear hg
  go_wp2_with (first
    | (with_reducible refine wp_loadPair rfl (.tmp 1) rfl g t b rfl HC0.out.pair ?_)
    | (go_at_call 79; ((with_reducible refine (HSZ.out _).mono ?_); rintro e w1 ⟨rfl, hb1⟩; have HC1 := Lib.hid (HC0.out.below hb1); have HB1 := Lib.hid (Below.step HB0.out hb1); clear hb1)))
  clear G
  go_loopw [10] (fun i wr => ∃ k : Nat, k ≤ n ∧ i = .int .i64 (k : Int) ∧ CurIn wr g t b (colS T B n k).1 (colS T B n k).2 ∧ Below w.heap.size w wr) (fun i _ => n - (intOf i).toNat)
  case atStart => exact ⟨0, by omega, rfl, HC1.out, HB1.out⟩
  case round =>
    obtain ⟨k, hk, rfl, hcu, hbel⟩ := hrel
    clear HC1 HB1 HC0 HB0
    generalize wr = wa at *
    by_cases hlt : k < n
    · have hle := colS_le T B n k
      have hlen := colS_length T B n k
      have hyes : 0 ≤ (colS T B n k).1.getD k 0 → colS T B n (k + 1) = colS T B n k := fun h => by rw [colS, if_pos h]
      have hno : ¬ 0 ≤ (colS T B n k).1.getD k 0 → colS T B n (k + 1) = (paint (colS T B n k).1 (wayN T B n k) ((colS T B n k).2 : Int), (colS T B n k).2 + 1) := fun h => by rw [colS, if_neg h]
      generalize colS T B n k = S at *
      obtain ⟨c, m⟩ := S
      simp only at hle hlen hyes hno hcu
      have hm := hcu.metCell k (by omega)
      rw [getD_in c k _ (by omega)] at hm
      have hlt' : (k : Int) < (n : Int) := by omega
      have hk12 : k < 12 := by omega
      by_cases hy : 0 ≤ c.getD k 0
      · rw [decide_eq_true hy] at hm
        have HY := Lib.hid (hyes hy); have HCU := Lib.hid hcu; have HBE := Lib.hid hbel
        clear hyes hno hcu hbel hy hlen
        go_wp2
        go_roundw
        case rel => exact ⟨k + 1, by omega, by go_num, by rw [HY.out]; exact HCU.out, HBE.out⟩
        case measure => simp [intOf]; omega
      · rw [decide_eq_false hy] at hm
        have HNO := Lib.hid (hno hy); have HCU := Lib.hid hcu; have HBE := Lib.hid hbel
        have hgs : g + 1 + 1 + 1 + 1 < wa.heap.size := (Array.getElem?_eq_some_iff.1 hcu.cnt).1
        have HLEN := Lib.hid hlen
        have HWK := Lib.hid (HW.out k hlt wa (.pointer (some ⟨g + 1 + 1 + 1 + 1, 0, none⟩)) (.pointer (some ⟨g + 1 + 1, 0, none⟩)) (.pointer (some ⟨g + 1 + 1 + 1, 0, none⟩)) (fun d w' => CurIn w' g t b (paint c d (m : Int)) m ∧ PairIn w' wa.heap.size t b ∧ Below w.heap.size w w')
          ⟨hcu.below (Below.alloc1 _ _), PairIn.new wa t b, Below.step hbel (Below.alloc1 _ _)⟩ (fun d w' h => h.2.1)
          (fun d x w' h hx _ => (visit_any w' g m x t b (paint c d (m : Int)) h.1 (by rw [paint_length, hlen]; exact hx) (by rw [paint_length, hlen]; exact hn) (by omega)).mono (fun e w'' h2 => ⟨h2.1, by
            rw [h2.2]
            refine ⟨?_, ?_, ?_⟩
            · rw [paint_snoc]; exact h.1.visit x (by rw [paint_length, hlen]; exact hx) (by rw [paint_length, hlen]; exact hn)
            · exact (h.2.1.setOther (by omega)).setOther (by omega)
            · exact (h.2.2.setCell (p := ⟨g + 1 + 1, x, none⟩) (by rw [← HGW.out]; show g ≤ g + 1 + 1; omega) _).setCell (p := ⟨g + 1 + 1 + 1, x, none⟩) (by rw [← HGW.out]; show g ≤ g + 1 + 1 + 1; omega) _⟩)))
        clear hyes hno hcu hbel hy hlen
        go_wp2_with (with_reducible refine wp_loadPair rfl (.tmp 1) rfl g t b rfl HCU.out.pair ?_)
        refine HWK.out.mono ?_
        rintro e w2 ⟨rfl, hI⟩
        have c1 := hI.1.cntCell
        have f1 : w2.frozen? ⟨g + 1 + 1 + 1 + 1, 0, none⟩ = false := frozen_of_row w2 _ 0 _ _ hI.1.cnt
        have HN2 := Lib.hid (hI.1.count ((m : Int) + 1) (by omega))
        have HB2 := Lib.hid (hI.2.2.setCell (p := ⟨g + 1 + 1 + 1 + 1, 0, none⟩) (by rw [← HGW.out]; show g ≤ g + 1 + 1 + 1 + 1; omega) (.int .i64 ((m : Int) + 1)))
        clear hI hm hgs
        go_wp2
        go_roundw
        case rel => exact ⟨k + 1, by omega, by go_num, by rw [HNO.out]; exact HN2.out, HB2.out⟩
        case measure => simp [intOf]; omega
    · obtain rfl : k = n := by omega
      have hge : ∀ x, x < 12 → (idxA (colN T B k))[x]? = some (idxV (colN T B k) x) := fun x hx => idxA_get _ x hx
      have hr1 := row_range hcu.idx
      have ht1 := row_there hcu.out 12 (idxA_size _).symm
      have hc1 := hcu.cntCell
      have hi : (Try.prog.info? 54).map (·.size) = some (idxA (colS T B k k).1).toList.length := by rw [arr12_info]; simp [idxA_size]
      have hl12 : (idxA (colS T B k k).1).toList.length = 12 := by simp [idxA_size]
      have h1c : ∀ v ∈ (idxA (colS T B k k).1).toList, v.oneCell' = true := by
        intro v hv
        simp only [idxA, List.mem_map] at hv
        obtain ⟨x, _, rfl⟩ := hv
        rfl
      have hu := Try.underlying54
      have hcn : (colS T B k k).2 = cntW T B k := rfl
      have hco : (colS T B k k).1 = colN T B k := rfl
      rw [hcn] at hc1
      rw [hco] at hr1 hi hl12 h1c
      have HBE := Lib.hid hbel
      clear hcu hbel hge hcn hco hlt hk
      obtain ⟨cs, hcs⟩ : ∃ cs, cs = (idxA (colN T B k)).toList := ⟨_, rfl⟩
      rw [← hcs] at hr1 hi hl12 h1c
      have HCO : Hid (idxA (colN T B k) = cs.toArray) := by show _ = _; rw [hcs]
      obtain ⟨N, hN⟩ : ∃ N, N = cntW T B k := ⟨_, rfl⟩
      rw [← hN] at hc1
      have HCN := Lib.hid hN
      clear hcs hN
      have HGW2 := Lib.hid HGW.out
      go_wp2_with fail
      go_region_held3 (fun w' => w'.rangeAt (g + 1 + 1) 0 cs ∧ w'.there (g + 1) 0 12 ∧ w'.cell? ⟨g + 1 + 1 + 1 + 1, 0, none⟩ = some (.int .i64 (N : Int))) (first | go_keep_ranges | exact ⟨World.rangeAt_setCells_apart (by simpa using hr1) _ _ _ (by left; omega), World.there_setCells (by simpa using ht1) _ _ _, by rw [World.cell?_setCells_out _ _ _ _ _ (fun h => by simp at h; omega)]; simpa using hc1⟩) (fail)
      go_wp2_with fail
      refine bodyPost_ret (results_cu _ _ (g + 1) cs (N : Int) hl12 ?_ rfl rfl) rfl ?_
      · exact World.rangeAt_setCells_same _ _ _ _ (by rw [hl12]; simpa using ht1)
      · exact ⟨by rw [HCO.out, HCN.out], Below.setCells _ (by rw [← HGW.out]; omega) _ _ _ (HBE.out.drew)⟩

end Go.Proofs.Ytogjclmmjdhfeac
