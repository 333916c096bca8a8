/- The points of a stretch alone, and those outside of it: the program. -/
import Derived.Test.YtogjclmmjdhfeabCutIs
import Derived.Test.YtogjclmmjdhfeabPoints
import Derived.Test.YtogjclmmjdhfeabIdx
import Derived.Test.YtogjclmmjdhfeabDraw
import Derived.RegionTactic
import Derived.Deep.RegionWith
import Derived.Deep.MidRow
namespace Go.Proofs.Ytogjclmmjdhfeab
open Go.RowKit
set_option linter.unusedSimpArgs false
set_option linter.unusedVariables false

/-! whole structs stored into cells -/
def setsC (C : Array Value) (o : Nat) : List Value → Array Value
  | [] => C
  | v :: r => setsC (C.setIfInBounds o v) (o + 1) r
theorem setsC_get : ∀ (vs : List Value) (o : Nat) (C : Array Value) (i : Nat), o + vs.length ≤ C.size → (setsC C o vs)[i]? = if o ≤ i ∧ i < o + vs.length then vs[i - o]? else C[i]?
  | [], o, C, i, _ => by
    have h : ¬ (o ≤ i ∧ i < o + ([] : List Value).length) := by simp
    rw [if_neg h]; rfl
  | v :: r, o, C, i, hs => by
    simp only [List.length_cons] at hs
    rw [setsC, setsC_get r (o + 1) _ i (by rw [Array.size_setIfInBounds]; omega)]
    simp only [List.length_cons]
    by_cases h1 : o = i
    · subst h1
      rw [if_neg (by omega), if_pos (by omega), Nat.sub_self, Array.getElem?_setIfInBounds_self_of_lt (by omega)]
      rfl
    · by_cases h2 : o + 1 ≤ i ∧ i < o + 1 + r.length
      · rw [if_pos h2, if_pos (by omega), show i - o = (i - (o + 1)) + 1 by omega, List.getElem?_cons_succ]
      · rw [if_neg h2, if_neg (by omega), Array.getElem?_setIfInBounds_ne h1]
theorem heap_setsC (g : Nat) (T : TypeId) : ∀ (vs : List Value) (o : Nat) (w : World) (C : Array Value), w.heap[g]? = some (.cells C T (0, 0)) → (w.setCells g o vs).heap[g]? = some (.cells (setsC C o vs) T (0, 0))
  | [], _, _, _, h => h
  | v :: r, o, w, C, h => heap_setsC g T r (o + 1) _ _ (heap_setCell_same w g o _ _ v h)
theorem grown_setsC (g : Nat) : ∀ (vs : List Value) (o : Nat) (w : World), w.grownBy (w.setCells g o vs) (some g)
  | [], _, w => ⟨rfl, rfl, rfl, Nat.le_refl _, fun _ _ _ => rfl⟩
  | v :: r, o, w => grown_trans (grown_setCell (i := o) (v := v)) (grown_setsC g r (o + 1) _)
theorem row_at {w : World} {g : Nat} {C : Array Value} {T : TypeId} {fr : Nat × Nat} (h : w.heap[g]? = some (.cells C T fr)) : w.rangeAt g 0 C.toList := by
  intro j v hj
  rw [Nat.zero_add, cell_of_row w g j _ _ _ h]
  simpa using hj
theorem row_free (w : World) (g o : Nat) (C : Array Value) (T : TypeId) (h : w.heap[g]? = some (.cells C T (0, 0))) (n : Nat) (ho : o + n ≤ C.size) : w.there g o n := by
  intro j hj
  rw [cell_of_row w g _ _ _ _ h]
  exact ⟨by simp; omega, frozen_of_row w g _ _ _ h⟩

/-! plain: the lists -/
theorem whereC_eq (c : Int → Bool) : ∀ k, whereC c k = whereL c k
  | 0 => rfl
  | k + 1 => by rw [whereC, whereL, whereC_eq c k]
theorem posC_eq : ∀ (l : List Int) (x : Int), posC l x = idxI l x
  | [], x => by simp [posC, idxI]
  | a :: l, x => by
    have ih := posC_eq l x
    unfold posC idxI at *
    rw [List.findIdx?_cons]
    by_cases e : a = x
    · subst e; simp
    · have e1 : (a == x) = false := by simpa using e
      have e2 : ¬ x = a := fun h => e h.symm
      rw [e1]
      cases h : l.findIdx? (· == x) with
      | none =>
        rw [h] at ih
        have hx : ¬ x ∈ l := fun hm => by rw [if_pos hm] at ih; simp only at ih; omega
        simp [hx, e2]
      | some q =>
        rw [h] at ih
        by_cases hx : x ∈ l
        · rw [if_pos hx] at ih
          simp only [List.mem_cons, hx, or_true, if_true, Bool.false_eq_true, if_false, Option.map_some]
          rw [List.idxOf_cons, e1]
          simp only at ih
          simp only [cond_false]
          omega
        · rw [if_neg hx] at ih; simp only at ih; omega
theorem whereL_mem (c : Int → Bool) : ∀ k x, x ∈ whereL c k → ∃ q : Nat, q < k ∧ x = (q : Int)
  | 0, x, h => by simp [whereL] at h
  | k + 1, x, h => by
    rw [whereL, List.mem_append] at h
    rcases h with h | h
    · obtain ⟨q, h1, h2⟩ := whereL_mem c k x h; exact ⟨q, by omega, h2⟩
    · split at h
      · simp at h; exact ⟨k, by omega, h⟩
      · simp at h
theorem alone_idx (c : Int → Bool) (l : List Int) : aloneL c l = (whereL c l.length).map fun p => idxI (whereL c l.length) (l.getD p.toNat 0) := by
  unfold aloneL
  rw [whereC_eq]
  exact List.map_congr_left fun p _ => posC_eq _ _
def fillT (A : List Int) (m k : Nat) : List Int := A.take k ++ List.replicate (m - k) 0
theorem fillT_len {A : List Int} {m k : Nat} (hm : A.length = m) (hk : k ≤ m) : (fillT A m k).length = m := by simp [fillT]; omega
theorem fillT_set {A : List Int} {m k : Nat} (hm : A.length = m) (hk : k < m) : (fillT A m k).set k (A.getD k 0) = fillT A m (k + 1) := by
  unfold fillT
  rw [List.set_append_right _ _ (by simp; omega), List.take_succ_eq_append_getElem (by omega)]
  have e1 : k - (A.take k).length = 0 := by simp; omega
  have e2 : m - k = (m - (k + 1)) + 1 := by omega
  rw [e1, e2, List.replicate_succ, List.set_cons_zero, List.append_assoc]
  simp [List.getD, show k < A.length by omega]


theorem results_al (tmps : Array Value) (w : World) (g : Nat) (l : List Int) (hl : l.length ≤ 12) (hg : SysIn w g l) (h2 : tmps.getD 4 undef = .pointer (some ⟨g, 0, none⟩)) :
    (results Try.f221 tmps).run Try.prog w = .ok (.agg (sysC l)) w := by
  have h2' : tmps[4]?.getD undef = .pointer (some ⟨g, 0, none⟩) := by simpa using h2
  have hr : Try.f221.results = #[.cell 4 100] := by kernel_rfl
  simp [results, hr, h2', asAddr, run_loadSys w g l hl hg]
theorem Rd.setOther {w : World} {bb off m c g k : Nat} {K : List Int} (h : Rd w (.slice (some ⟨bb, off, none⟩) m c) K) (hne : bb ≠ g) (v : Value) : Rd (w.setCell ⟨g, k, none⟩ v) (.slice (some ⟨bb, off, none⟩) m c) K := by
  obtain ⟨a, c', e, h1, h2, h3, h4⟩ := h
  refine ⟨a, c', e, h1, h2, h3, ?_⟩
  rcases h4 with h4 | ⟨b, o, rfl, hc⟩
  · exact .inl h4
  · simp only [Value.slice.injEq, Option.some.injEq, Addr.mk.injEq] at e
    obtain ⟨⟨rfl, rfl, -⟩, -, -⟩ := e
    refine .inr ⟨bb, off, rfl, fun i hi => ?_⟩
    rw [World.cell?_of_block (a := ⟨bb, off + i, none⟩) (heap_setCell_other w ⟨g, k, none⟩ bb v hne)]
    exact hc i hi
theorem aloneL_len (c : Int → Bool) (l : List Int) (hl : l.length ≤ 12) : (aloneL c l).length ≤ 12 := by
  rw [alone_idx, List.length_map]
  have := whereL_len c l.length
  omega
def PairRet (w : World) (t b : List Int) (e : Ending) (w' : World) : Prop := e = .returned (.agg (pairC t b)) ∧ Below w.heap.size w w'
structure AlS (w0 : World) (g0 g1 : Nat) (t b : List Int) (w' : World) : Prop where
  src : PairIn w' g0 t b
  dst : PairIn w' g1 [] []
  bel : Below w0.heap.size w0 w'
  lo : w0.heap.size ≤ g1
theorem AlS.new (w : World) (t b : List Int) : AlS w w.heap.size (w.heap.size + 1) t b ((w.alloc (.cells (pairC t b) 102)).alloc (.cells zeroQ 102)) := by
  refine ⟨PairIn.below (heap_alloc_new w _) (Below.alloc1 _ _), ?_, Below.step (Below.alloc1 _ _) (Below.alloc1 _ _), Nat.le_succ _⟩
  have := zero_in (w.alloc (.cells (pairC t b) 102))
  rw [World.size_alloc] at this
  exact this
theorem AlS.in3 (w : World) (t b : List Int) (i j : Int) : PairIn (((w.alloc (.cells (pairC t b) 102)).alloc (.cells #[.int .i64 i, .int .i64 j] 142)).alloc (.cells zeroQ 102)) w.heap.size t b ∧ StrIn (((w.alloc (.cells (pairC t b) 102)).alloc (.cells #[.int .i64 i, .int .i64 j] 142)).alloc (.cells zeroQ 102)) (w.heap.size + 1) i j ∧
    PairIn (((w.alloc (.cells (pairC t b) 102)).alloc (.cells #[.int .i64 i, .int .i64 j] 142)).alloc (.cells zeroQ 102)) (w.heap.size + 1 + 1) [] [] ∧ Below w.heap.size w (((w.alloc (.cells (pairC t b) 102)).alloc (.cells #[.int .i64 i, .int .i64 j] 142)).alloc (.cells zeroQ 102)) := by
  refine ⟨PairIn.below (PairIn.below (heap_alloc_new w _) (Below.alloc1 _ _)) (Below.alloc1 _ _), ?_, ?_, Below.step (Below.step (Below.alloc1 _ _) (Below.alloc1 _ _)) (Below.alloc1 _ _)⟩
  · have := StrIn.new (w.alloc (.cells (pairC t b) 102)) i j
    rw [World.size_alloc] at this
    exact this.below (Below.alloc1 _ _)
  · have := zero_in ((w.alloc (.cells (pairC t b) 102)).alloc (.cells #[.int .i64 i, .int .i64 j] 142))
    rw [World.size_alloc, World.size_alloc] at this
    exact this
theorem AlS.below {w0 w1 w2 : World} {g0 g1 : Nat} {t b : List Int} (h : AlS w0 g0 g1 t b w1) (hb : Below w1.heap.size w1 w2) : AlS w0 g0 g1 t b w2 := ⟨h.src.below hb, h.dst.below hb, Below.step h.bel hb, h.lo⟩
theorem AlS.drew {w0 w1 : World} {g0 g1 : Nat} {t b : List Int} (h : AlS w0 g0 g1 t b w1) : AlS w0 g0 g1 t b w1.drew := ⟨h.src, h.dst, Below.drew h.bel, h.lo⟩
def loadS (v : Value) : Sem Value := Instr.loadAt 100 v
theorem loadS_eq (v : Value) : Instr.loadAt 100 v = loadS v := rfl
def storeQ (v x : Value) : Sem Unit := Instr.storeAt 102 v x
theorem storeQ_eq (v x : Value) : Instr.storeAt 102 v x = storeQ v x := rfl
theorem run_storeQ (w : World) (g : Nat) (t b : List Int) (ht : w.there g 0 26) :
    (storeQ (.pointer (some ⟨g, 0, none⟩)) (.agg #[sysV t 0, sysV t 1, sysV t 2, sysV t 3, sysV t 4, sysV t 5, sysV t 6, sysV t 7, sysV t 8, sysV t 9, sysV t 10, sysV t 11, sysV t 12, sysV b 0, sysV b 1, sysV b 2, sysV b 3, sysV b 4, sysV b 5, sysV b 6, sysV b 7, sysV b 8, sysV b 9, sysV b 10, sysV b 11, sysV b 12])).run Try.prog w = .ok () (w.setCells g 0 (pairC t b).toList) :=
  run_storeAt_mid w g 0 102 (pairC t b) (by rw [pairC_size]; exact ht) (by rw [pair_info, pairC_size]) (pairC_one t b)
theorem pair_top {w : World} {g : Nat} {t b : List Int} (ht : t.length ≤ 12) (h : PairIn w g t b) : w.rangeAt g 0 (sysC t).toList := by
  intro j v hj
  rw [Nat.zero_add, cell_of_row w g j _ _ _ h]
  rw [sysC_lit ht] at hj
  have hlt : j < 13 := (List.getElem?_eq_some_iff.1 hj).1
  have : j = 0 ∨ j = 1 ∨ j = 2 ∨ j = 3 ∨ j = 4 ∨ j = 5 ∨ j = 6 ∨ j = 7 ∨ j = 8 ∨ j = 9 ∨ j = 10 ∨ j = 11 ∨ j = 12 := by omega
  rcases this with rfl | rfl | rfl | rfl | rfl | rfl | rfl | rfl | rfl | rfl | rfl | rfl | rfl <;> exact hj
theorem pair_bot {w : World} {g : Nat} {t b : List Int} (hb : b.length ≤ 12) (h : PairIn w g t b) : w.rangeAt g 13 (sysC b).toList := by
  intro j v hj
  rw [cell_of_row w g _ _ _ _ h]
  rw [sysC_lit hb] at hj
  have hlt : j < 13 := (List.getElem?_eq_some_iff.1 hj).1
  have : j = 0 ∨ j = 1 ∨ j = 2 ∨ j = 3 ∨ j = 4 ∨ j = 5 ∨ j = 6 ∨ j = 7 ∨ j = 8 ∨ j = 9 ∨ j = 10 ∨ j = 11 ∨ j = 12 := by omega
  rcases this with rfl | rfl | rfl | rfl | rfl | rfl | rfl | rfl | rfl | rfl | rfl | rfl | rfl <;> exact hj
theorem run_loadS (w : World) (g o : Nat) (l : List Int) (hl : l.length ≤ 12) (h : w.rangeAt g o (sysC l).toList) : (loadS (.pointer (some ⟨g, o, none⟩))).run Try.prog w = .ok (.agg (sysC l)) w :=
  run_loadAt_mid w g o 100 (sysC l).toList _ h Try.underlying100 rfl (by rw [sys_info]; simp [sysC_size hl])
attribute [local go_sem ↓] storeQ_eq loadS_eq
attribute [local go_sem] run_storeQ
theorem AlS.to {w0 : World} {g0 g1 : Nat} {t b : List Int} {w' : World} (ht : t.length ≤ 12) (hb : b.length ≤ 12) (h : AlS w0 g0 g1 t b w') :
    Hid (AlS w0 g0 g1 t b w') ∧ (loadS (.pointer (some ⟨g0, 0, none⟩))).run Try.prog w' = .ok (.agg (sysC t)) w' ∧ (loadS (.pointer (some ⟨g0, 13, none⟩))).run Try.prog w' = .ok (.agg (sysC b)) w' ∧ w'.there g1 0 26 :=
  ⟨h, run_loadS w' g0 0 t ht (pair_top ht h.src), run_loadS w' g0 13 b hb (pair_bot hb h.src), row_free w' g1 0 _ _ h.dst 26 (by rw [pairC_size]; omega)⟩
theorem AlS.keepR {w0 w1 : World} {g0 g1 : Nat} {t b : List Int} {w' : World} (ht : t.length ≤ 12) (hb : b.length ≤ 12) (hbl : Below w1.heap.size w1 w') (h : Hid (AlS w0 g0 g1 t b w1)) :
    Hid (AlS w0 g0 g1 t b w') ∧ (loadS (.pointer (some ⟨g0, 0, none⟩))).run Try.prog w' = .ok (.agg (sysC t)) w' ∧ (loadS (.pointer (some ⟨g0, 13, none⟩))).run Try.prog w' = .ok (.agg (sysC b)) w' ∧ w'.there g1 0 26 := AlS.to ht hb (AlS.below h.out hbl)
theorem pair_setsAll {w : World} {g : Nat} {t b t0 b0 : List Int} (h : PairIn w g t0 b0) : PairIn (w.setCells g 0 (pairC t b).toList) g t b := by
  have hl : (pairC t b).toList.length = 26 := rfl
  have hz : (pairC t b).size = 26 := rfl
  have hz0 : (pairC t0 b0).size = 26 := rfl
  have e : setsC (pairC t0 b0) 0 (pairC t b).toList = pairC t b := by
    generalize pairC t b = P at *
    generalize pairC t0 b0 = P0 at *
    apply Array.ext_getElem?
    intro i
    rw [setsC_get _ _ _ _ (by rw [hl, hz0]; omega), hl]
    by_cases h26 : i < 26
    · rw [if_pos (by omega)]; simp
    · rw [if_neg (by omega), Array.getElem?_eq_none (by rw [hz0]; omega), Array.getElem?_eq_none (by rw [hz]; omega)]
  have h2 := heap_setsC g _ (pairC t b).toList 0 w _ h
  rw [e] at h2
  exact h2
theorem AlS.fin {w0 : World} {g0 g1 : Nat} {t b T B : List Int} {w' : World} (h : Hid (AlS w0 g0 g1 t b w')) : PairIn (w'.setCells g1 0 (pairC T B).toList) g1 T B ∧ Below w0.heap.size w0 (w'.setCells g1 0 (pairC T B).toList) :=
  ⟨pair_setsAll h.out.dst, Below.setCells g1 h.out.lo _ 0 w' h.out.bel⟩
theorem run_loadPr (w : World) (g : Nat) (t b : List Int) (hg : PairIn w g t b) : (loadVar 102 ⟨g, 0, none⟩).run Try.prog w = .ok (.agg (pairC t b)) w :=
  run_loadVar_row w g _ _ (pairC t b) _ _ hg Try.underlying102 rfl (by rw [pair_info, pairC_size])
theorem results_pal (tmps : Array Value) (w : World) (g : Nat) (t b : List Int) (hg : PairIn w g t b) (h2 : tmps.getD 4 undef = .pointer (some ⟨g, 0, none⟩)) :
    (results Try.f188 tmps).run Try.prog w = .ok (.agg (pairC t b)) w := by
  have h2' : tmps[4]?.getD undef = .pointer (some ⟨g, 0, none⟩) := by simpa using h2
  have hr : Try.f188.results = #[.cell 4 102] := by kernel_rfl
  simp [results, hr, h2', asAddr, run_loadPr w g t b hg]
theorem results_inside (tmps : Array Value) (w : World) (g : Nat) (t b : List Int) (hg : PairIn w g t b) (h2 : tmps.getD 4 undef = .pointer (some ⟨g, 0, none⟩)) :
    (results Try.f123 tmps).run Try.prog w = .ok (.agg (pairC t b)) w := by
  have h2' : tmps[4]?.getD undef = .pointer (some ⟨g, 0, none⟩) := by simpa using h2
  have hr : Try.f123.results = #[.cell 4 102] := by kernel_rfl
  simp [results, hr, h2', asAddr, run_loadPr w g t b hg]
theorem results_outside (tmps : Array Value) (w : World) (g : Nat) (t b : List Int) (hg : PairIn w g t b) (h2 : tmps.getD 4 undef = .pointer (some ⟨g, 0, none⟩)) :
    (results Try.f128 tmps).run Try.prog w = .ok (.agg (pairC t b)) w := by
  have h2' : tmps[4]?.getD undef = .pointer (some ⟨g, 0, none⟩) := by simpa using h2
  have hr : Try.f128.results = #[.cell 4 102] := by kernel_rfl
  simp [results, hr, h2', asAddr, run_loadPr w g t b hg]

set_option maxHeartbeats 2000000 in
theorem points_has (c : Int → Bool) (g : Value) (l : List Int) (w : World) (hl : l.length ≤ 12)
    (hp : ∀ (i : Int) (w : World), Calls Try.prog 189 #[g, .int .i64 i] w (Tells w (c i))) :
    Calls Try.prog 228 #[.agg (sysC l), .func (.func 189) #[g] #[]] w (Made w (whereL c l.length)) := by
  have hlast := sysC_last hl
  obtain ⟨n, hn⟩ : ∃ n, n = l.length := ⟨_, rfl⟩
  rw [← hn] at hlast hl ⊢
  have HP := Lib.hid hp; clear hp hn
  go_enter Try.func228, Try.ntmps228
  go_wp2
  go_loopw [5, 9] (fun o i wr => ∃ k : Nat, k ≤ n ∧ i = .int .i64 k ∧ Own w.heap.size wr o (whereL c k) ∧ Below w.heap.size w wr) (fun _ i _ => n - (intOf i).toNat)
  case atStart => exact ⟨0, by omega, rfl, Own.nil _ _, Below.alloc1 _ _⟩
  case round =>
    obtain ⟨k, hk, rfl, hown, hbel⟩ := hrel
    have hsz := hbel.size
    by_cases hlt : k < n
    · have hpk := fun w => HP.out (k : Int) w
      have hlen := whereL_len c k
      have HL := Lib.hid hlen; clear hlen
      cases hck : c (k : Int) with
      | true =>
        have hnx : whereL c (k + 1) = whereL c k ++ [(k : Int)] := by rw [whereL, hck]; rfl
        rw [hck] at hpk
        have HK := Lib.hid hpk; have HNX := Lib.hid hnx; clear hpk hnx hck
        go_wp2_with (first
          | (go_at_call 189; refine (HK.out _).mono ?_; rintro e w1 ⟨rfl, hb1⟩; have hown1 := Own.below hown hb1; have hbel1 := Below.step hbel hb1; have hsz1 := hbel1.size)
          | (at_builtin; refine wp_append _ rfl _ _ rfl w.heap.size _ _ (whereL c k) [(k : Int)] rfl rfl (Own.below hown1 (Below.alloc1 _ _)) (Own.rd (Own.lit1 _ _ _ (Nat.le_refl _))) (by have := HL.out; simp; omega) (by simp; omega) ?_; intro v' w2 hown2 hgr hbel2; rw [← HNX.out] at hown2; have hbel3 := (hbel1.alloc hsz1 _).trans hbel2; clear hgr hbel2))
        go_roundw
        case rel => exact ⟨k + 1, by omega, by go_num, hown2, hbel3⟩
        case measure => simp [intOf]; omega
      | false =>
        have hnx : whereL c (k + 1) = whereL c k := by rw [whereL, hck]; simp
        rw [hck] at hpk
        have HK := Lib.hid hpk; have HNX := Lib.hid hnx; clear hpk hnx hck
        go_wp2_with (go_at_call 189; refine (HK.out _).mono ?_; rintro e w1 ⟨rfl, hb1⟩; have hown1 := Own.below hown hb1; have hbel1 := Below.step hbel hb1)
        rw [← HNX.out] at hown1
        go_roundw
        case rel => exact ⟨k + 1, by omega, by go_num, hown1, hbel1⟩
        case measure => simp [intOf]; omega
    · obtain rfl : k = n := by omega
      go_wp2
      go_ret
      exact ⟨_, rfl, hown, hbel⟩

set_option maxHeartbeats 4000000 in
theorem alone_has (c : Int → Bool) (g : Value) (l : List Int) (w : World) (hl : l.length ≤ 12) (hr : ∀ x ∈ aloneL c l, True)
    (hp : ∀ (i : Int) (w : World), Calls Try.prog 189 #[g, .int .i64 i] w (Tells w (c i))) :
    Calls Try.prog 221 #[.agg (sysC l), .func (.func 189) #[g] #[]] w (SysOut w (aloneL c l)) := by
  have HPT := Lib.hid (fun w => points_has c g l w hl hp)
  rw [alone_idx]
  have HMM := Lib.hid (whereL_mem c l.length)
  have hkl := whereL_len c l.length
  generalize whereL c l.length = K at *
  have HAL : Hid ((K.map fun p => idxI K (l.getD p.toNat 0)).length = K.length) := List.length_map _
  have HAG : Hid (∀ k, k < K.length → (K.map fun p => idxI K (l.getD p.toNat 0)).getD k 0 = idxI K (l.getD (K.getD k 0).toNat 0)) := fun k hk => by simp [List.getD, hk]
  generalize (K.map fun p => idxI K (l.getD p.toNat 0)) = A at *
  have hbx : SysIn ((w.alloc (.cells (sysC l) 100)).alloc (.cells #[.int .i64 0, .int .i64 0, .int .i64 0, .int .i64 0, .int .i64 0, .int .i64 0, .int .i64 0, .int .i64 0, .int .i64 0, .int .i64 0, .int .i64 0, .int .i64 0, .int .i64 0] 100)) w.heap.size l := SysIn.below (show SysIn (w.alloc (.cells (sysC l) 100)) w.heap.size l from heap_alloc_new w _) (Below.alloc1 _ _)
  have hre : SysIn ((w.alloc (.cells (sysC l) 100)).alloc (.cells #[.int .i64 0, .int .i64 0, .int .i64 0, .int .i64 0, .int .i64 0, .int .i64 0, .int .i64 0, .int .i64 0, .int .i64 0, .int .i64 0, .int .i64 0, .int .i64 0, .int .i64 0] 100)) (w.heap.size + 1) [] := by
    have : SysIn ((w.alloc (.cells (sysC l) 100)).alloc (.cells (sysC []) 100)) (w.alloc (.cells (sysC l) 100)).heap.size [] := heap_alloc_new _ _
    rw [World.size_alloc] at this
    exact this
  have hb2 : Below w.heap.size w ((w.alloc (.cells (sysC l) 100)).alloc (.cells #[.int .i64 0, .int .i64 0, .int .i64 0, .int .i64 0, .int .i64 0, .int .i64 0, .int .i64 0, .int .i64 0, .int .i64 0, .int .i64 0, .int .i64 0, .int .i64 0, .int .i64 0] 100)) := Below.step (Below.alloc1 _ _) (Below.alloc1 _ _)
  have HX := Lib.hid hbx; have HE := Lib.hid hre; have HB := Lib.hid hb2; have HL := Lib.hid hl; have HKL : Hid (K.length ≤ 12) := by show _ ≤ _; omega
  clear hbx hre hb2 hp hr hkl
  go_enter Try.func221, Try.ntmps221
  go_wp2_with (first
    | (with_reducible refine wp_loadSys rfl (.tmp 2) rfl w.heap.size l HL.out rfl HX.out ?_)
    | (go_at_call 228; ((with_reducible refine (HPT.out _).mono ?_); rintro e w1 ⟨v, rfl, hown, hb1⟩; have HX1 := Lib.hid (HX.out.below hb1); have HE1 := Lib.hid (HE.out.below hb1); have HB1 := Lib.hid (Below.step HB.out hb1); have HO1 := Lib.hid hown; have HLT := Lib.hid hown.lt; obtain ⟨va, vc, rfl, hv1, hv2⟩ := hown.form; unfold maxLen at hv2; clear hown hb1)))
  have hm12 := HKL.out
  have hbl := SysIn.blank w1 K.length (K.length : Int) rfl hm12
  have HBL := Lib.hid hbl; clear hbl
  obtain ⟨m, hm⟩ : ∃ m, m = K.length := ⟨_, rfl⟩
  have HM := Lib.hid hm
  rw [← hm] at hm12 hv1 HBL
  rw [show ((K.length : Nat) : Int) = (m : Int) by rw [hm]] at *
  clear hm
  go_loopw [17] (fun x wr => ∃ k : Nat, k ≤ m ∧ x = .int .i64 (k : Int) ∧ SysIn wr w1.heap.size (fillT A m k) ∧ Rd wr (.slice va K.length vc) K ∧ SysIn wr w.heap.size l ∧ SysIn wr (w.heap.size + 1) [] ∧ Below w.heap.size w wr) (fun x _ => m - (intOf x).toNat)
  case atStart => exact ⟨0, by omega, rfl, by simpa [fillT] using HBL.out, HO1.out.rd.below (Below.alloc1 _ _), HX1.out.below (Below.alloc1 _ _), HE1.out.below (Below.alloc1 _ _), Below.step HB1.out (Below.alloc1 _ _)⟩
  case round =>
    obtain ⟨k, hk, rfl, hsys, hrd, hbx, hre, hbel⟩ := hrel
    generalize wr = wa at *
    have hne : w.heap.size ≠ w1.heap.size := by have := HX1.out.lt; omega
    have hne2 : w.heap.size + 1 ≠ w1.heap.size := by have := HE1.out.lt; omega
    have hw1 : w.heap.size ≤ w1.heap.size := HB1.out.size
    by_cases hlt : k < m
    · have hKk : k < K.length := by rw [← HM.out]; exact hlt
      obtain ⟨q, hq, hqe⟩ := HMM.out (K.getD k 0) (by simp [List.getD, hKk])
      have hag := HAG.out k hKk
      have hfs := fillT_set (A := A) (m := m) (k := k) (by rw [HAL.out, HM.out]) hlt
      have hfl := fillT_len (A := A) (m := m) (k := k) (by rw [HAL.out, HM.out]) (by omega)
      rw [hag, hqe, Int.toNat_natCast] at hfs
      have hst := fun y => hsys.stored k y (by rw [hfl]; exact hlt)
      have c1 := hsys.cell (by rw [hfl]; exact hm12) k (by omega)
      have f1 := hsys.free k
      obtain ⟨a2, c2, e2, hr1, hr2, _, hrdc⟩ := hrd
      rcases hrdc with h0 | ⟨bb, off, rfl, hcell⟩
      · exfalso; rw [h0] at hKk; simp at hKk
      simp only [Value.slice.injEq] at e2
      obtain ⟨rfl, -, rfl⟩ := e2
      have c3 := hcell k hKk
      rw [hqe] at c3
      have c4 := hbx.cell HL.out q (by have := HL.out; omega)
      have hq12 : q < 12 := by have := HL.out; omega
      have hIX := fun w h => index_any (.slice (some ⟨bb, off, none⟩) K.length vc) K (l.getD q 0) w h (by have := HKL.out; omega)
      have HRD : Hid (Rd wa (.slice (some ⟨bb, off, none⟩) K.length vc) K) := ⟨_, _, rfl, by rw [← HM.out]; exact hv1, by unfold maxLen; omega, by simp, .inr ⟨bb, off, rfl, hcell⟩⟩
      generalize hy : idxI K (l.getD q 0) = y at *
      have HIX : Hid (∀ w, Rd w (.slice (some ⟨bb, off, none⟩) K.length vc) K → Calls Try.prog 229 #[.slice (some ⟨bb, off, none⟩) K.length vc, .int .i64 (l.getD q 0)] w (fun e w' => e = .returned (.int .i64 y) ∧ w = w')) := fun w h => by rw [← hy]; exact hIX w h
      generalize l.getD q 0 = x at *
      have HST := Lib.hid (hst y); have HFS := Lib.hid hfs; have HBX := Lib.hid hbx; have HRE := Lib.hid hre; have HBE := Lib.hid hbel; have HSY := Lib.hid hsys
      have hbb : bb ≠ w1.heap.size := by have := HLT.out bb (by rfl); omega
      clear hst hfs hfl hag hqe hy hIX hcell hbx hre hbel hsys hr1 hr2
      go_wp2_with (go_at_call 229; ((with_reducible refine (HIX.out _ HRD.out).mono ?_); rintro e w' ⟨rfl, rfl⟩))
      go_roundw
      case rel =>
        refine ⟨k + 1, by omega, by go_num, by rw [← HFS.out]; exact HST.out, ?_, (heap_setCell_other wa ⟨w1.heap.size, k, none⟩ w.heap.size _ hne).trans HBX.out, (heap_setCell_other wa ⟨w1.heap.size, k, none⟩ (w.heap.size + 1) _ hne2).trans HRE.out, HBE.out.setCell (p := ⟨w1.heap.size, k, none⟩) hw1 _⟩
        exact Rd.setOther HRD.out hbb _
      case measure => simp [intOf]; omega
    · obtain rfl : k = m := by omega
      have hfin : fillT A k k = A := by unfold fillT; rw [List.take_of_length_le (by rw [HAL.out, HM.out]; exact Nat.le_refl _)]; simp
      rw [hfin] at hsys
      have HSY := Lib.hid hsys; have HRE := Lib.hid hre; have HBE := Lib.hid hbel; have HA12 : Hid (A.length ≤ 12) := by show _ ≤ _; rw [HAL.out]; exact HKL.out
      clear hsys hbx hre hbel hrd
      go_wp2_with (first
        | (with_reducible refine wp_loadSys rfl (.tmp 6) rfl w1.heap.size A HA12.out rfl HSY.out ?_)
        | ((with_reducible refine wp_storeSys rfl (.tmp 4) (.tmp 32) rfl (w.heap.size + 1) A [] HA12.out (Nat.zero_le _) rfl rfl HRE.out ?_); intro w2 hs2 hg2))
      exact bodyPost_ret (results_al _ _ (w.heap.size + 1) A HA12.out hs2 rfl) rfl ⟨rfl, HBE.out.grown hg2 HBE.out.size (by intro k hk; simp at hk; omega)⟩

set_option maxRecDepth 100000 in
set_option maxHeartbeats 8000000 in
theorem pairAlone_has (c : Int → Bool) (g : Value) (t b : List Int) (w : World) (ht : t.length ≤ 12) (hb : b.length ≤ 12)
    (hp : ∀ (i : Int) (w : World), Calls Try.prog 189 #[g, .int .i64 i] w (Tells w (c i))) :
    Calls Try.prog 188 #[.agg (pairC t b), .func (.func 189) #[g] #[]] w (PairRet w (aloneL c t) (aloneL c b)) := by
  have HT := Lib.hid (fun w => alone_has c g t w ht (fun _ _ => trivial) hp)
  have HBT := Lib.hid (fun w => alone_has c g b w hb (fun _ _ => trivial) hp)
  have lt := aloneL_len c t ht; have lb := aloneL_len c b hb
  generalize aloneL c t = T at *
  generalize aloneL c b = B at *
  have ET := Lib.hid (sysC_lit lt); have EB := Lib.hid (sysC_lit lb)
  have hS : AlS w w.heap.size (w.heap.size + 1) t b ((w.alloc (.cells (pairC t b) 102)).alloc (.cells zeroQ 102)) := AlS.new w t b
  have HS := Lib.hid hS
  clear hp lt lb hS
  have L1 := Lib.hid ht; have L2 := Lib.hid hb
  clear ht hb
  unfold zeroQ at HS
  go_enter Try.func188, Try.ntmps188
  go_wp2_with fail
  generalize ((w.alloc (.cells (pairC t b) 102)).alloc (.cells #[.int .i64 0, .int .i64 0, .int .i64 0, .int .i64 0, .int .i64 0, .int .i64 0, .int .i64 0, .int .i64 0, .int .i64 0, .int .i64 0, .int .i64 0, .int .i64 0, .int .i64 0, .int .i64 0, .int .i64 0, .int .i64 0, .int .i64 0, .int .i64 0, .int .i64 0, .int .i64 0, .int .i64 0, .int .i64 0, .int .i64 0, .int .i64 0, .int .i64 0, .int .i64 0] 102)) = W2 at *
  obtain ⟨Y0, y1, y2, y3⟩ := AlS.to L1.out L2.out (AlS.drew HS.out)
  go_region_with (first
    | (go_at_call_of 221 (Value.agg (sysC t)); ((with_reducible refine (HT.out _).mono ?_); rintro e' w' ⟨rfl, hb'⟩; rw [ET.out]; obtain ⟨Y0, y1, y2, y3⟩ := AlS.keepR L1.out L2.out hb' (by assumption)))
    | (go_at_call_of 221 (Value.agg (sysC b)); ((with_reducible refine (HBT.out _).mono ?_); rintro e' w' ⟨rfl, hb'⟩; rw [EB.out]; obtain ⟨Y0, y1, y2, y3⟩ := AlS.keepR L1.out L2.out hb' (by assumption))))
  all_goals
    have hfin := AlS.fin (T := T) (B := B) (show Hid (AlS w w.heap.size (w.heap.size + 1) t b w') by assumption)
    go_wp2_with fail
    exact bodyPost_ret (results_pal _ _ (w.heap.size + 1) T B hfin.1 rfl) rfl ⟨rfl, hfin.2⟩
set_option maxHeartbeats 2000000 in
theorem inside_any (t b : List Int) (i j : Nat) (hg : goodP t b) (hij : i < j) (hj : j < t.length) (hc : closedL t b i j = true) (w : World) :
    Calls Try.prog 123 #[.agg (pairC t b), .agg #[.int .i64 (i : Int), .int .i64 (j : Int)]] w (PairRet w (innerL t i j) (innerL b i j)) := by
  have h12 := pair12 hg
  rw [closed_split, Bool.and_eq_true] at hc
  have e1 := (cut_facts hg.1 hij hj hc.1).2.2.1
  have e2 := (cut_facts hg.2.1 hij (by rw [← hg.2.2]; exact hj) hc.2).2.2.1
  have HA := Lib.hid (fun w => pairAlone_has (inC i j) (.agg #[.int .i64 (i : Int), .int .i64 (j : Int)]) t b w h12.1 h12.2 (fun x w => has_any i j x w))
  rw [e1, e2] at HA
  generalize innerL t i j = T at *
  generalize innerL b i j = B at *
  clear e1 e2 hc h12 hg hij hj
  have hz := AlS.in3 w t b i j
  have HP := Lib.hid hz.1; have HS := Lib.hid hz.2.1; have HR := Lib.hid hz.2.2.1; have HB := Lib.hid hz.2.2.2
  clear hz
  unfold zeroQ at *
  go_enter Try.func123, Try.ntmps123
  go_wp2_with (first
    | (with_reducible refine wp_loadPair rfl (.tmp 2) rfl w.heap.size t b rfl HP.out ?_)
    | (with_reducible refine wp_loadStr rfl (.tmp 3) rfl (w.heap.size + 1) i j rfl HS.out ?_)
    | (go_at_call 188; ((with_reducible refine (HA.out _).mono ?_); rintro e w1 ⟨rfl, hb1⟩; have HR1 := Lib.hid (HR.out.below hb1); have HB1 := Lib.hid (Below.step HB.out hb1); clear hb1))
    | ((with_reducible refine wp_storePair rfl (.tmp 4) (.tmp 8) rfl (w.heap.size + 1 + 1) T B [] [] rfl rfl HR1.out ?_); intro w2 hs2 hg2))
  exact bodyPost_ret (results_inside _ _ (w.heap.size + 1 + 1) T B hs2 rfl) rfl ⟨rfl, HB1.out.grown hg2 HB1.out.size (by intro k hk; simp at hk; omega)⟩

set_option maxHeartbeats 2000000 in
theorem points_lacks (c : Int → Bool) (g : Value) (l : List Int) (w : World) (hl : l.length ≤ 12)
    (hp : ∀ (i : Int) (w : World), Calls Try.prog 192 #[g, .int .i64 i] w (Tells w (c i))) :
    Calls Try.prog 228 #[.agg (sysC l), .func (.func 192) #[g] #[]] w (Made w (whereL c l.length)) := by
  have hlast := sysC_last hl
  obtain ⟨n, hn⟩ : ∃ n, n = l.length := ⟨_, rfl⟩
  rw [← hn] at hlast hl ⊢
  have HP := Lib.hid hp; clear hp hn
  go_enter Try.func228, Try.ntmps228
  go_wp2
  go_loopw [5, 9] (fun o i wr => ∃ k : Nat, k ≤ n ∧ i = .int .i64 k ∧ Own w.heap.size wr o (whereL c k) ∧ Below w.heap.size w wr) (fun _ i _ => n - (intOf i).toNat)
  case atStart => exact ⟨0, by omega, rfl, Own.nil _ _, Below.alloc1 _ _⟩
  case round =>
    obtain ⟨k, hk, rfl, hown, hbel⟩ := hrel
    have hsz := hbel.size
    by_cases hlt : k < n
    · have hpk := fun w => HP.out (k : Int) w
      have hlen := whereL_len c k
      have HL := Lib.hid hlen; clear hlen
      cases hck : c (k : Int) with
      | true =>
        have hnx : whereL c (k + 1) = whereL c k ++ [(k : Int)] := by rw [whereL, hck]; rfl
        rw [hck] at hpk
        have HK := Lib.hid hpk; have HNX := Lib.hid hnx; clear hpk hnx hck
        go_wp2_with (first
          | (go_at_call 192; refine (HK.out _).mono ?_; rintro e w1 ⟨rfl, hb1⟩; have hown1 := Own.below hown hb1; have hbel1 := Below.step hbel hb1; have hsz1 := hbel1.size)
          | (at_builtin; refine wp_append _ rfl _ _ rfl w.heap.size _ _ (whereL c k) [(k : Int)] rfl rfl (Own.below hown1 (Below.alloc1 _ _)) (Own.rd (Own.lit1 _ _ _ (Nat.le_refl _))) (by have := HL.out; simp; omega) (by simp; omega) ?_; intro v' w2 hown2 hgr hbel2; rw [← HNX.out] at hown2; have hbel3 := (hbel1.alloc hsz1 _).trans hbel2; clear hgr hbel2))
        go_roundw
        case rel => exact ⟨k + 1, by omega, by go_num, hown2, hbel3⟩
        case measure => simp [intOf]; omega
      | false =>
        have hnx : whereL c (k + 1) = whereL c k := by rw [whereL, hck]; simp
        rw [hck] at hpk
        have HK := Lib.hid hpk; have HNX := Lib.hid hnx; clear hpk hnx hck
        go_wp2_with (go_at_call 192; refine (HK.out _).mono ?_; rintro e w1 ⟨rfl, hb1⟩; have hown1 := Own.below hown hb1; have hbel1 := Below.step hbel hb1)
        rw [← HNX.out] at hown1
        go_roundw
        case rel => exact ⟨k + 1, by omega, by go_num, hown1, hbel1⟩
        case measure => simp [intOf]; omega
    · obtain rfl : k = n := by omega
      go_wp2
      go_ret
      exact ⟨_, rfl, hown, hbel⟩

set_option maxHeartbeats 4000000 in
theorem alone_lacks (c : Int → Bool) (g : Value) (l : List Int) (w : World) (hl : l.length ≤ 12) (hr : ∀ x ∈ aloneL c l, True)
    (hp : ∀ (i : Int) (w : World), Calls Try.prog 192 #[g, .int .i64 i] w (Tells w (c i))) :
    Calls Try.prog 221 #[.agg (sysC l), .func (.func 192) #[g] #[]] w (SysOut w (aloneL c l)) := by
  have HPT := Lib.hid (fun w => points_lacks c g l w hl hp)
  rw [alone_idx]
  have HMM := Lib.hid (whereL_mem c l.length)
  have hkl := whereL_len c l.length
  generalize whereL c l.length = K at *
  have HAL : Hid ((K.map fun p => idxI K (l.getD p.toNat 0)).length = K.length) := List.length_map _
  have HAG : Hid (∀ k, k < K.length → (K.map fun p => idxI K (l.getD p.toNat 0)).getD k 0 = idxI K (l.getD (K.getD k 0).toNat 0)) := fun k hk => by simp [List.getD, hk]
  generalize (K.map fun p => idxI K (l.getD p.toNat 0)) = A at *
  have hbx : SysIn ((w.alloc (.cells (sysC l) 100)).alloc (.cells #[.int .i64 0, .int .i64 0, .int .i64 0, .int .i64 0, .int .i64 0, .int .i64 0, .int .i64 0, .int .i64 0, .int .i64 0, .int .i64 0, .int .i64 0, .int .i64 0, .int .i64 0] 100)) w.heap.size l := SysIn.below (show SysIn (w.alloc (.cells (sysC l) 100)) w.heap.size l from heap_alloc_new w _) (Below.alloc1 _ _)
  have hre : SysIn ((w.alloc (.cells (sysC l) 100)).alloc (.cells #[.int .i64 0, .int .i64 0, .int .i64 0, .int .i64 0, .int .i64 0, .int .i64 0, .int .i64 0, .int .i64 0, .int .i64 0, .int .i64 0, .int .i64 0, .int .i64 0, .int .i64 0] 100)) (w.heap.size + 1) [] := by
    have : SysIn ((w.alloc (.cells (sysC l) 100)).alloc (.cells (sysC []) 100)) (w.alloc (.cells (sysC l) 100)).heap.size [] := heap_alloc_new _ _
    rw [World.size_alloc] at this
    exact this
  have hb2 : Below w.heap.size w ((w.alloc (.cells (sysC l) 100)).alloc (.cells #[.int .i64 0, .int .i64 0, .int .i64 0, .int .i64 0, .int .i64 0, .int .i64 0, .int .i64 0, .int .i64 0, .int .i64 0, .int .i64 0, .int .i64 0, .int .i64 0, .int .i64 0] 100)) := Below.step (Below.alloc1 _ _) (Below.alloc1 _ _)
  have HX := Lib.hid hbx; have HE := Lib.hid hre; have HB := Lib.hid hb2; have HL := Lib.hid hl; have HKL : Hid (K.length ≤ 12) := by show _ ≤ _; omega
  clear hbx hre hb2 hp hr hkl
  go_enter Try.func221, Try.ntmps221
  go_wp2_with (first
    | (with_reducible refine wp_loadSys rfl (.tmp 2) rfl w.heap.size l HL.out rfl HX.out ?_)
    | (go_at_call 228; ((with_reducible refine (HPT.out _).mono ?_); rintro e w1 ⟨v, rfl, hown, hb1⟩; have HX1 := Lib.hid (HX.out.below hb1); have HE1 := Lib.hid (HE.out.below hb1); have HB1 := Lib.hid (Below.step HB.out hb1); have HO1 := Lib.hid hown; have HLT := Lib.hid hown.lt; obtain ⟨va, vc, rfl, hv1, hv2⟩ := hown.form; unfold maxLen at hv2; clear hown hb1)))
  have hm12 := HKL.out
  have hbl := SysIn.blank w1 K.length (K.length : Int) rfl hm12
  have HBL := Lib.hid hbl; clear hbl
  obtain ⟨m, hm⟩ : ∃ m, m = K.length := ⟨_, rfl⟩
  have HM := Lib.hid hm
  rw [← hm] at hm12 hv1 HBL
  rw [show ((K.length : Nat) : Int) = (m : Int) by rw [hm]] at *
  clear hm
  go_loopw [17] (fun x wr => ∃ k : Nat, k ≤ m ∧ x = .int .i64 (k : Int) ∧ SysIn wr w1.heap.size (fillT A m k) ∧ Rd wr (.slice va K.length vc) K ∧ SysIn wr w.heap.size l ∧ SysIn wr (w.heap.size + 1) [] ∧ Below w.heap.size w wr) (fun x _ => m - (intOf x).toNat)
  case atStart => exact ⟨0, by omega, rfl, by simpa [fillT] using HBL.out, HO1.out.rd.below (Below.alloc1 _ _), HX1.out.below (Below.alloc1 _ _), HE1.out.below (Below.alloc1 _ _), Below.step HB1.out (Below.alloc1 _ _)⟩
  case round =>
    obtain ⟨k, hk, rfl, hsys, hrd, hbx, hre, hbel⟩ := hrel
    generalize wr = wa at *
    have hne : w.heap.size ≠ w1.heap.size := by have := HX1.out.lt; omega
    have hne2 : w.heap.size + 1 ≠ w1.heap.size := by have := HE1.out.lt; omega
    have hw1 : w.heap.size ≤ w1.heap.size := HB1.out.size
    by_cases hlt : k < m
    · have hKk : k < K.length := by rw [← HM.out]; exact hlt
      obtain ⟨q, hq, hqe⟩ := HMM.out (K.getD k 0) (by simp [List.getD, hKk])
      have hag := HAG.out k hKk
      have hfs := fillT_set (A := A) (m := m) (k := k) (by rw [HAL.out, HM.out]) hlt
      have hfl := fillT_len (A := A) (m := m) (k := k) (by rw [HAL.out, HM.out]) (by omega)
      rw [hag, hqe, Int.toNat_natCast] at hfs
      have hst := fun y => hsys.stored k y (by rw [hfl]; exact hlt)
      have c1 := hsys.cell (by rw [hfl]; exact hm12) k (by omega)
      have f1 := hsys.free k
      obtain ⟨a2, c2, e2, hr1, hr2, _, hrdc⟩ := hrd
      rcases hrdc with h0 | ⟨bb, off, rfl, hcell⟩
      · exfalso; rw [h0] at hKk; simp at hKk
      simp only [Value.slice.injEq] at e2
      obtain ⟨rfl, -, rfl⟩ := e2
      have c3 := hcell k hKk
      rw [hqe] at c3
      have c4 := hbx.cell HL.out q (by have := HL.out; omega)
      have hq12 : q < 12 := by have := HL.out; omega
      have hIX := fun w h => index_any (.slice (some ⟨bb, off, none⟩) K.length vc) K (l.getD q 0) w h (by have := HKL.out; omega)
      have HRD : Hid (Rd wa (.slice (some ⟨bb, off, none⟩) K.length vc) K) := ⟨_, _, rfl, by rw [← HM.out]; exact hv1, by unfold maxLen; omega, by simp, .inr ⟨bb, off, rfl, hcell⟩⟩
      generalize hy : idxI K (l.getD q 0) = y at *
      have HIX : Hid (∀ w, Rd w (.slice (some ⟨bb, off, none⟩) K.length vc) K → Calls Try.prog 229 #[.slice (some ⟨bb, off, none⟩) K.length vc, .int .i64 (l.getD q 0)] w (fun e w' => e = .returned (.int .i64 y) ∧ w = w')) := fun w h => by rw [← hy]; exact hIX w h
      generalize l.getD q 0 = x at *
      have HST := Lib.hid (hst y); have HFS := Lib.hid hfs; have HBX := Lib.hid hbx; have HRE := Lib.hid hre; have HBE := Lib.hid hbel; have HSY := Lib.hid hsys
      have hbb : bb ≠ w1.heap.size := by have := HLT.out bb (by rfl); omega
      clear hst hfs hfl hag hqe hy hIX hcell hbx hre hbel hsys hr1 hr2
      go_wp2_with (go_at_call 229; ((with_reducible refine (HIX.out _ HRD.out).mono ?_); rintro e w' ⟨rfl, rfl⟩))
      go_roundw
      case rel =>
        refine ⟨k + 1, by omega, by go_num, by rw [← HFS.out]; exact HST.out, ?_, (heap_setCell_other wa ⟨w1.heap.size, k, none⟩ w.heap.size _ hne).trans HBX.out, (heap_setCell_other wa ⟨w1.heap.size, k, none⟩ (w.heap.size + 1) _ hne2).trans HRE.out, HBE.out.setCell (p := ⟨w1.heap.size, k, none⟩) hw1 _⟩
        exact Rd.setOther HRD.out hbb _
      case measure => simp [intOf]; omega
    · obtain rfl : k = m := by omega
      have hfin : fillT A k k = A := by unfold fillT; rw [List.take_of_length_le (by rw [HAL.out, HM.out]; exact Nat.le_refl _)]; simp
      rw [hfin] at hsys
      have HSY := Lib.hid hsys; have HRE := Lib.hid hre; have HBE := Lib.hid hbel; have HA12 : Hid (A.length ≤ 12) := by show _ ≤ _; rw [HAL.out]; exact HKL.out
      clear hsys hbx hre hbel hrd
      go_wp2_with (first
        | (with_reducible refine wp_loadSys rfl (.tmp 6) rfl w1.heap.size A HA12.out rfl HSY.out ?_)
        | ((with_reducible refine wp_storeSys rfl (.tmp 4) (.tmp 32) rfl (w.heap.size + 1) A [] HA12.out (Nat.zero_le _) rfl rfl HRE.out ?_); intro w2 hs2 hg2))
      exact bodyPost_ret (results_al _ _ (w.heap.size + 1) A HA12.out hs2 rfl) rfl ⟨rfl, HBE.out.grown hg2 HBE.out.size (by intro k hk; simp at hk; omega)⟩

set_option maxRecDepth 100000 in
set_option maxHeartbeats 8000000 in
theorem pairAlone_lacks (c : Int → Bool) (g : Value) (t b : List Int) (w : World) (ht : t.length ≤ 12) (hb : b.length ≤ 12)
    (hp : ∀ (i : Int) (w : World), Calls Try.prog 192 #[g, .int .i64 i] w (Tells w (c i))) :
    Calls Try.prog 188 #[.agg (pairC t b), .func (.func 192) #[g] #[]] w (PairRet w (aloneL c t) (aloneL c b)) := by
  have HT := Lib.hid (fun w => alone_lacks c g t w ht (fun _ _ => trivial) hp)
  have HBT := Lib.hid (fun w => alone_lacks c g b w hb (fun _ _ => trivial) hp)
  have lt := aloneL_len c t ht; have lb := aloneL_len c b hb
  generalize aloneL c t = T at *
  generalize aloneL c b = B at *
  have ET := Lib.hid (sysC_lit lt); have EB := Lib.hid (sysC_lit lb)
  have hS : AlS w w.heap.size (w.heap.size + 1) t b ((w.alloc (.cells (pairC t b) 102)).alloc (.cells zeroQ 102)) := AlS.new w t b
  have HS := Lib.hid hS
  clear hp lt lb hS
  have L1 := Lib.hid ht; have L2 := Lib.hid hb
  clear ht hb
  unfold zeroQ at HS
  go_enter Try.func188, Try.ntmps188
  go_wp2_with fail
  generalize ((w.alloc (.cells (pairC t b) 102)).alloc (.cells #[.int .i64 0, .int .i64 0, .int .i64 0, .int .i64 0, .int .i64 0, .int .i64 0, .int .i64 0, .int .i64 0, .int .i64 0, .int .i64 0, .int .i64 0, .int .i64 0, .int .i64 0, .int .i64 0, .int .i64 0, .int .i64 0, .int .i64 0, .int .i64 0, .int .i64 0, .int .i64 0, .int .i64 0, .int .i64 0, .int .i64 0, .int .i64 0, .int .i64 0, .int .i64 0] 102)) = W2 at *
  obtain ⟨Y0, y1, y2, y3⟩ := AlS.to L1.out L2.out (AlS.drew HS.out)
  go_region_with (first
    | (go_at_call_of 221 (Value.agg (sysC t)); ((with_reducible refine (HT.out _).mono ?_); rintro e' w' ⟨rfl, hb'⟩; rw [ET.out]; obtain ⟨Y0, y1, y2, y3⟩ := AlS.keepR L1.out L2.out hb' (by assumption)))
    | (go_at_call_of 221 (Value.agg (sysC b)); ((with_reducible refine (HBT.out _).mono ?_); rintro e' w' ⟨rfl, hb'⟩; rw [EB.out]; obtain ⟨Y0, y1, y2, y3⟩ := AlS.keepR L1.out L2.out hb' (by assumption))))
  all_goals
    have hfin := AlS.fin (T := T) (B := B) (show Hid (AlS w w.heap.size (w.heap.size + 1) t b w') by assumption)
    go_wp2_with fail
    exact bodyPost_ret (results_pal _ _ (w.heap.size + 1) T B hfin.1 rfl) rfl ⟨rfl, hfin.2⟩
set_option maxHeartbeats 2000000 in
theorem outside_any (t b : List Int) (i j : Nat) (hg : goodP t b) (hij : i < j) (hj : j < t.length) (hc : closedL t b i j = true) (w : World) :
    Calls Try.prog 128 #[.agg (pairC t b), .agg #[.int .i64 (i : Int), .int .i64 (j : Int)]] w (PairRet w (outerL t i j) (outerL b i j)) := by
  have h12 := pair12 hg
  rw [closed_split, Bool.and_eq_true] at hc
  have e1 := (cut_facts hg.1 hij hj hc.1).2.2.2
  have e2 := (cut_facts hg.2.1 hij (by rw [← hg.2.2]; exact hj) hc.2).2.2.2
  have HA := Lib.hid (fun w => pairAlone_lacks (outC i j) (.agg #[.int .i64 (i : Int), .int .i64 (j : Int)]) t b w h12.1 h12.2 (fun x w => lacks_any i j x w))
  rw [e1, e2] at HA
  generalize outerL t i j = T at *
  generalize outerL b i j = B at *
  clear e1 e2 hc h12 hg hij hj
  have hz := AlS.in3 w t b i j
  have HP := Lib.hid hz.1; have HS := Lib.hid hz.2.1; have HR := Lib.hid hz.2.2.1; have HB := Lib.hid hz.2.2.2
  clear hz
  unfold zeroQ at *
  go_enter Try.func128, Try.ntmps128
  go_wp2_with (first
    | (with_reducible refine wp_loadPair rfl (.tmp 2) rfl w.heap.size t b rfl HP.out ?_)
    | (with_reducible refine wp_loadStr rfl (.tmp 3) rfl (w.heap.size + 1) i j rfl HS.out ?_)
    | (go_at_call 188; ((with_reducible refine (HA.out _).mono ?_); rintro e w1 ⟨rfl, hb1⟩; have HR1 := Lib.hid (HR.out.below hb1); have HB1 := Lib.hid (Below.step HB.out hb1); clear hb1))
    | ((with_reducible refine wp_storePair rfl (.tmp 4) (.tmp 8) rfl (w.heap.size + 1 + 1) T B [] [] rfl rfl HR1.out ?_); intro w2 hs2 hg2))
  exact bodyPost_ret (results_outside _ _ (w.heap.size + 1 + 1) T B hs2 rfl) rfl ⟨rfl, HB1.out.grown hg2 HB1.out.size (by intro k hk; simp at hk; omega)⟩

end Go.Proofs.Ytogjclmmjdhfeab
