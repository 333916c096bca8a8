/- The order of words in the program: what compareWords leaves is draws and new blocks. -/
import Derived.Test.YteeoepbbocdchaaWdMe
import Derived.Test.YteeoepbbocdchaaCmpI
import Derived.Test.YteeoepbbocdchaaOwn
import Derived.Deep.QuietTactic
import Derived.Deep.RegionWith
import Derived.Lib.QuietBelow
import Derived.Sort.Grow
namespace Go.Proofs.Yteeoepbbocdchaa
open Go.RowKit
set_option linter.unusedSimpArgs false
set_option linter.unusedVariables false

theorem grow_of {w w' : World} (h : Below w.heap.size w w') (hd : w.drawn ≤ w'.drawn) : ∃ q os', w' = Go.Sort.grow (w.drewN q) os' := by
  obtain ⟨p, hp⟩ := regrown_of_below h
  have e : w'.drawn = p.d := by rw [hp]; rfl
  refine ⟨p.d - w.drawn, p.os, ?_⟩
  have e2 : redrawn w p.d = w.drewN (p.d - w.drawn) := by
    unfold redrawn World.drewN
    rw [show w.drawn + (p.d - w.drawn) = p.d by omega]
  rw [← e2]
  exact hp
theorem append_drawn {P : Program} (w : World) (base : Nat) (t ty e : TypeId) (i : TypeInfo) (z : Value) (size bytes : Nat) (ht : P.underlying t = some (.slice e)) (hi : P.info? e = some i) (hz : i.zero = some z)
    (hsize : i.size = size) (hby : i.bytes = bytes) (hzs : z.cells.size = size) (hsz : 0 < size)
    (g0 c0 n : Nat) (xs : List Value) (hown : w.ownsRow base e size (.slice (some ⟨g0, 0, none⟩) n c0) n xs)
    (a : Addr) (m c : Nat) (news : List Value) (hl : news.length = m * size) (hnews : ∀ j u, news[j]? = some u → w.cell? (a.add j) = some u) (h1 : ∀ u ∈ news, u.oneCell' = true)
    (h63 : n + m ≤ maxLen) (hbytes : (n + m) * bytes ≤ 140737488355328) (hbase : base ≤ w.heap.size)
    (v' : Value) (w' : World) (hr : (Builtin.append_ #[t, t] ty #[.slice (some ⟨g0, 0, none⟩) n c0, .slice (some a) m c]).run P w = .ok v' w') :
    w.drawn ≤ w'.drawn := by
  rcases hown.2 with ⟨e0, _⟩ | ⟨g, cap, cur, e0, hbg, hg, hnc, hcm, hcs, htake⟩
  · cases e0
  · simp only [Value.slice.injEq, Option.some.injEq, Addr.mk.injEq, and_true, true_and] at e0
    obtain ⟨rfl, rfl⟩ := e0
    subst hsize
    by_cases hroom : n + m ≤ c0
    · have hfit : n * i.size + news.length ≤ cur.size := by rw [hl, hcs, ← Nat.add_mul]; exact Nat.mul_le_mul_right _ hroom
      have hr2 := run_append_room (P := P) w t ty e i ht hi g0 n c0 cur hg a m c news hl hnews h1 hroom hfit
      rw [hr] at hr2
      cases hr2
      exact Nat.le_refl _
    · have holds : ∀ j u, xs[j]? = some u → w.cell? ((⟨g0, 0, none⟩ : Addr).add j) = some u := hown.cells (g := g0) rfl
      subst hby
      simp only [maxLen] at h63
      have hr2 := run_append_grow (P := P) w t ty e i z ht hi hz ⟨g0, 0, none⟩ n c0 xs hown.1 holds a m c news hl hnews (by omega) (by omega) (growslice_fits (by omega) hbytes)
      rw [hr] at hr2
      cases hr2
      simp

/-- 'append(v, u...)' with the count of draws -/
theorem wp_appendD {ops : Array Oper} {rest : List Oper} {o : Oper} {a : Act} {Q : Exit → Act → World → Prop} (w : World)
    (hg : o.guard = none) (s x : Operand) (hop : o.op = Op.call { callee := Callee.builtin Builtin.append, args := #[s, x], argTypes := #[22, 22] })
    (B g c0 : Nat) (u : Value) (xs ys : List Int) (hs : a.eval s = .slice (some ⟨g, 0, none⟩) xs.length c0) (hx : a.eval x = u) (hown : Own B w (.slice (some ⟨g, 0, none⟩) xs.length c0) xs) (hrd : Rd w u ys) (hlen : xs.length + ys.length ≤ 1000000000) (hB : B ≤ w.heap.size)
    (hK : ∀ v' w', Own B w' v' (xs ++ ys) → Below B w w' → w.drawn ≤ w'.drawn → wpList Try.prog ops Q rest (a.put o.dst v') w') :
    wpList Try.prog ops Q (o :: rest) a w := by
  obtain ⟨i0, hi, hz0, hz1, hz2⟩ := info_parts Try.info3
  obtain ⟨ad, c, rfl, hlc, hcm, hn, hc⟩ := hrd
  have ow2 : w.ownsRow B 3 1 (.slice (some ⟨g, 0, none⟩) xs.length c0) xs.length (ints xs) := hown
  have fin : ∀ v' w', w'.ownsRow B 3 1 v' (xs.length + ys.length) (ints xs ++ ints ys) → w.grownBy w' (Value.slice (some ⟨g, 0, none⟩) xs.length c0).ownBlock → w.drawn ≤ w'.drawn → wpList Try.prog ops Q rest (a.put o.dst v') w' := by
    intro v' w' h1 h2 hd
    have h3 : Own B w' v' (xs ++ ys) := by
      unfold Own ints
      rw [List.length_append, List.map_append]
      exact h1
    exact hK v' w' h3 (below_grown h2 hB fun k hk => (hown.lt k hk).1) hd
  cases ad with
  | none =>
    obtain rfl := hn rfl
    have hy : ys = [] := List.eq_nil_of_length_eq_zero (by omega)
    subst hy
    refine wpList_append_own_none hg s x 22 hop B 3 i0 1 Try.underlying22 hi _ xs.length (ints xs) hs hown hx ?_
    exact fin _ w (by simpa [ints, Own] using hown) (World.grownBy.refl _ _) (Nat.le_refl _)
  | some x0 =>
    have hcells : ∀ j y, (ints ys)[j]? = some y → w.cell? (x0.add j) = some y := by
      intro j y hj
      rcases hc with rfl | ⟨b, off, h1, h2⟩
      · simp [ints] at hj
      · simp at h1
        subst h1
        have hjl : j < ys.length := by
          have := (List.getElem?_eq_some_iff.1 hj).1
          simpa [ints] using this
        rw [Addr.add_lit, h2 j hjl]
        simp [ints, List.getElem?_eq_getElem hjl] at hj
        simp [List.getD, List.getElem?_eq_getElem hjl, hj]
    obtain ⟨v', w', hr, h1, h2, _⟩ := run_append_own (P := Try.prog) w B 22 o.type 3 i0 (.int .i64 0) 1 8 Try.underlying22 hi hz0 hz1 hz2 rfl (by decide) _ xs.length (ints xs) ow2 x0 ys.length c (ints ys) (by simp [ints]) hcells (ints_oneCell _ _) (by unfold maxLen; omega) (by omega) hB
    have h3 := append_drawn (P := Try.prog) w B 22 o.type 3 i0 (.int .i64 0) 1 8 Try.underlying22 hi hz0 hz1 hz2 rfl (by decide) g c0 xs.length (ints xs) ow2 x0 ys.length c (ints ys) (by simp [ints]) hcells (ints_oneCell _ _) (by unfold maxLen; omega) (by omega) hB v' w' hr
    refine wpList_plain hg fun _ hK' => ?_
    unfold Oper.wp execOp
    simp only [hop, resolve, invoke, builtin, Sem.run_bind, Sem.run_pure, Result.andThen_ok, List.map_toArray, List.map_cons, List.map_nil, hs, hx, hr]
    exact hK' _ _ (fin v' w' h1 h2 h3)

def MadeD (w : World) (l : List Int) (e : Ending) (w' : World) : Prop := ∃ v, e = .returned v ∧ Own w.heap.size w' v l ∧ Below w.heap.size w w' ∧ w.drawn ≤ w'.drawn

set_option maxRecDepth 100000 in
set_option maxHeartbeats 1000000 in
theorem cloneD_any (b o n c : Nat) (l : List Int) (w : World) (h : Rd w (.slice (some ⟨b, o, none⟩) n c) l) (hl : l.length ≤ 1000000) :
    Calls Try.prog 180 #[.slice (some ⟨b, o, none⟩) n c] w (MadeD w l) := by
  have HO := Lib.hid (lit0W w.heap.size w (Nat.le_refl _))
  have HR := Lib.hid (h.below (Below.alloc1 w (.cells #[] 3)))
  have HL := Lib.hid hl
  clear h hl
  have q22 : ∀ (w : World) (a : Option Addr) (n c n' c' : Nat), (binOp .eql 22 (.slice a n c) (.slice none n' c')).run Try.prog w = .ok (.bool a.isNone) w := fun w a n c n' c' => Lib.run_eql_slice_nil w _ _ a n c n' c' Try.underlying22
  go_enter Try.func180, Try.ntmps180
  go_wp2_with (at_builtin; refine wp_appendD _ rfl _ _ rfl w.heap.size w.heap.size 0 _ [] l rfl rfl HO.out HR.out (by have := HL.out; simp; omega) (by simp) ?_; intro v' w2 hown2 hbel2 hd; obtain ⟨x1, y1, z1, rfl⟩ := hown2.form'; have HO2 := Lib.hid hown2; have HB2 := Lib.hid ((Below.alloc1 w (.cells #[] 3)).trans hbel2); have HD := Lib.hid hd; clear hown2 hbel2 hd)
  go_ret
  exact ⟨_, rfl, HO2.out, HB2.out, by have := HD.out; simpa using this⟩

set_option maxHeartbeats 1000000 in
theorem listD_any (a : List Int) (n : Nat) (w : World) (ha : a.length = 12) (hn : n ≤ 12) :
    Calls Try.prog 135 #[.agg (ptG a n).toArray] w (MadeD w (a.take n)) := by
  have hw : (w.alloc (.cells (ptG a n).toArray 70)).heap[w.heap.size]? = some (.cells (ptG a n).toArray 70 (0, 0)) := heap_alloc_new w _
  have hlast : (w.alloc (.cells (ptG a n).toArray 70)).cell? ⟨w.heap.size, 12, none⟩ = some (.int .i64 (n : Int)) := by
    rw [cell_of_row _ _ 12 _ _ _ hw, List.getElem?_toArray, ptG_last n ha]
  have hrd : Rd (w.alloc (.cells (ptG a n).toArray 70)) (.slice (some ⟨w.heap.size, 0, none⟩) n 12) (a.take n) := by
    have hl : (a.take n).length = n := by rw [List.length_take]; omega
    refine ⟨_, 12, by rw [hl], by omega, by unfold maxLen; omega, by simp, .inr ⟨w.heap.size, 0, rfl, fun k hk => ?_⟩⟩
    rw [Nat.zero_add, cell_of_row _ _ k _ _ _ hw, List.getElem?_toArray, ptG_get n ha k (by omega)]
    simp only [List.getD, List.getElem?_take]
    rw [if_pos (by omega)]
  have hsl := run_ats w.heap.size n (w.alloc (.cells (ptG a n).toArray 70)) hn
  have hcl := cloneD_any w.heap.size 0 n 12 (a.take n) _ hrd (by rw [List.length_take]; omega)
  have HC := Lib.hid hcl
  generalize a.take n = l at *
  generalize (ptG a n).toArray = C at *
  clear hw hrd hcl
  have hall := fun b w => run_ats b n w hn
  go_enter Try.func135, Try.ntmps135
  go_wp2_with (go_at_call 180; refine HC.out.mono ?_; rintro e w2 ⟨v2, rfl, hown, hb2, hd⟩)
  go_ret
  exact ⟨_, rfl, hown.mono (by simp), (Below.alloc1 w _).trans (hb2.mono (by simp)), by simpa using hd⟩
theorem listD_pts (l : List Int) (w : World) (hl : l.length ≤ 12) : Calls Try.prog 135 #[.agg (ptC l)] w (MadeD w l) := by
  have := listD_any (l ++ List.replicate (12 - l.length) 0) l.length w (by simp; omega) hl
  rw [← ptL_G, List.take_left' rfl] at this
  exact this

def loadPtF (x : Value) : Sem Value := Instr.loadAt 70 x
theorem loadPtF_eq (x : Value) : Instr.loadAt 70 x = loadPtF x := rfl
attribute [local go_sem ↓] loadPtF_eq
theorem run_loadPtF (w : World) (g : Nat) (l b : List Int) (hl : l.length ≤ 12) (hb : b.length = 12) (h : WdIn w g l b) : (loadPtF (.pointer (some ⟨g, 0, none⟩))).run Try.prog w = .ok (.agg (ptC l)) w := by
  refine run_loadAt_mid w g 0 70 (ptL l) _ (fun j v hj => ?_) Try.underlying70 rfl (by rw [pt_info, ptL_length hl])
  have hj13 : j < 13 := by have := (List.getElem?_eq_some_iff.1 hj).1; rwa [ptL_length hl] at this
  rw [Nat.zero_add, cell_of_row w g j _ _ _ h, wdC_left hl j hj13]
  simpa [ptC] using hj
def StW (W w1 : World) : Prop := Below W.heap.size W w1 ∧ W.drawn ≤ w1.drawn
theorem StW.next {W w1 w2 : World} (h : Hid (StW W w1)) (hb : Below w1.heap.size w1 w2) (hd : w1.drawn ≤ w2.drawn) : Hid (StW W w2) := ⟨Below.step h.out.1 hb, Nat.le_trans h.out.2 hd⟩

set_option maxHeartbeats 4000000 in
set_option maxRecDepth 100000 in
theorem compareWords_any (a b : List Int) (w : World) (ha : a.length ≤ 12) (hb : b.length ≤ 12) :
    Calls Try.prog 95 #[.agg (wdC a (idxW a)), .agg (wdC b (idxW b))] w fun e w' => e = .returned (.int .i64 (cmpL a b)) ∧ ∃ q os', w' = Go.Sort.grow (w.drewN q) os' := by
  have hs1 : WdIn ((w.alloc (.cells (wdC a (idxW a)) 72)).alloc (.cells (wdC b (idxW b)) 72)) w.heap.size a (idxW a) := WdIn.below (heap_alloc_new w _) (Below.alloc1 _ _)
  have hs2 : WdIn ((w.alloc (.cells (wdC a (idxW a)) 72)).alloc (.cells (wdC b (idxW b)) 72)) (w.heap.size + 1) b (idxW b) := by
    have := heap_alloc_new (w.alloc (.cells (wdC a (idxW a)) 72)) (.cells (wdC b (idxW b)) 72)
    rw [World.size_alloc] at this
    exact this
  have HB0 : Hid (Below w.heap.size w ((w.alloc (.cells (wdC a (idxW a)) 72)).alloc (.cells (wdC b (idxW b)) 72))) := Below.step (Below.alloc1 w _) (Below.alloc1 _ _)
  have HD0 : Hid (w.drawn ≤ ((w.alloc (.cells (wdC a (idxW a)) 72)).alloc (.cells (wdC b (idxW b)) 72)).drawn) := Nat.le_refl _
  have HLA := Lib.hid (fun w => listD_pts a w ha)
  have HLB := Lib.hid (fun w => listD_pts b w hb)
  have HW1 := Lib.hid hs1; have HW2 := Lib.hid hs2
  have HRL1 := Lib.hid (fun w2 (h : WdIn w2 w.heap.size a (idxW a)) => run_loadPtF w2 w.heap.size a (idxW a) ha (idxW_length a) h)
  have HRL2 := Lib.hid (fun w2 (h : WdIn w2 (w.heap.size + 1) b (idxW b)) => run_loadPtF w2 (w.heap.size + 1) b (idxW b) hb (idxW_length b) h)
  clear hs1 hs2
  go_enter Try.func95, Try.ntmps95
  go_wp2_with fail
  generalize ((w.alloc (.cells (wdC a (idxW a)) 72)).alloc (.cells (wdC b (idxW b)) 72)) = W at *
  have S0 : Hid (StW W W.drew) := ⟨Below.drew (Below.refl _ _), by simp⟩
  have z1 := HRL1.out W.drew (HW1.out.below (Below.drew (Below.refl _ _)))
  have z2 := HRL2.out W.drew (HW2.out.below (Below.drew (Below.refl _ _)))
  go_region_with (first
    | (go_at_call 135; ((with_reducible refine (HLA.out _).mono ?_); rintro e wA ⟨vA, rfl, hoA, hbA, hdA⟩; obtain ⟨a1, a2, a3, rfl⟩ := hoA.form'; have OA := Lib.hid hoA.rd; (try have OB := Lib.hid (Rd.below OB.out hbA)); have SA : Hid (StW W wA) := StW.next (by assumption) hbA hdA; have z3 := HRL1.out wA (HW1.out.below SA.out.1); have z4 := HRL2.out wA (HW2.out.below SA.out.1); clear hoA hbA hdA))
    | (go_at_call 135; ((with_reducible refine (HLB.out _).mono ?_); rintro e wB ⟨vB, rfl, hoB, hbB, hdB⟩; obtain ⟨b1, b2, b3, rfl⟩ := hoB.form'; have OB := Lib.hid hoB.rd; (try have OA := Lib.hid (Rd.below OA.out hbB)); have SB : Hid (StW W wB) := StW.next (by assumption) hbB hdB; have z5 := HRL1.out wB (HW1.out.below SB.out.1); have z6 := HRL2.out wB (HW2.out.below SB.out.1); clear hoB hbB hdB))
    | (go_at_call 51; refine (slicesCompare_any _ _ a b _ OA.out OB.out).mono ?_; rintro e wC ⟨rfl, rfl⟩))
  all_goals
    go_wp2
    go_ret
    first
      | exact ⟨rfl, grow_of (Below.trans HB0.out (SB.out.1.mono HB0.out.size)) (Nat.le_trans HD0.out SB.out.2)⟩
      | exact ⟨rfl, grow_of (Below.trans HB0.out (SA.out.1.mono HB0.out.size)) (Nat.le_trans HD0.out SA.out.2)⟩

end Go.Proofs.Yteeoepbbocdchaa
