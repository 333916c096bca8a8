/- The model's peMeander. -/
import Derived.Test.YtkohmdhjjnmfgabWdMate
import Derived.Test.YtkohmdhjjnmfgabWdPeO
import Derived.Test.YtkohmdhjjnmfgabMeander
import Derived.Test.YtkohmdhjjnmfgabWd
import Derived.Deep.OwnRows
import Derived.Deep.DeepCutAuto
namespace Go.Proofs.Ytkohmdhjjnmfgab
open Go.RowKit
set_option linter.unusedSimpArgs false
set_option linter.unusedVariables false

theorem run_mk (n : Nat) (hn : n ≤ 1000) (w : World) : (Instr.makeSlice 22 (.int .i64 (n : Int)) (.int .i64 (n : Int))).run Try.prog w = .ok (.slice (some ⟨w.heap.size, 0, none⟩) n n) (w.alloc (.cells (madeCells #[.int .i64 0] n) 3)) := by
  obtain ⟨i0, hi, hz0, hz1, hz2⟩ := info_parts Try.info3
  exact run_make_row 22 3 i0 (.int .i64 0) Try.underlying22 hi hz0 hz1 rfl .i64 .i64 n (by rw [hz2]; omega) (by omega) w

theorem own_blk {B g n : Nat} {w : World} (hB : B ≤ g) (hn : n ≤ 1000) (h : w.heap[g]? = some (.cells (madeCells #[.int .i64 0] n) 3 (0, 0))) : Own B w (.slice (some ⟨g, 0, none⟩) n n) (List.replicate n 0) := by
  have hz : (madeCells #[.int .i64 0] n).toList = ints (List.replicate n 0) := by have := made_zeros n; rw [Nat.mul_one] at this; exact this
  have hs : (madeCells #[.int .i64 0] n).size = n := by rw [← Array.length_toList, hz]; simp [ints]
  refine ⟨by simp [ints], .inr ⟨g, n, _, by rw [List.length_replicate], hB, h, by simp, by unfold maxLen; omega, by rw [hs]; omega, ?_⟩⟩
  rw [hz, List.length_replicate, Nat.mul_one]
  exact List.take_of_length_le (by simp [ints])

theorem chain4 (w : World) (O X Y V : Obj) : ((((w.alloc O).alloc X).alloc Y).alloc V).heap[w.heap.size]? = some O ∧ ((((w.alloc O).alloc X).alloc Y).alloc V).heap[w.heap.size + 1]? = some X ∧ ((((w.alloc O).alloc X).alloc Y).alloc V).heap[w.heap.size + 1 + 1]? = some Y ∧ ((((w.alloc O).alloc X).alloc Y).alloc V).heap[w.heap.size + 1 + 1 + 1]? = some V ∧ Below w.heap.size w ((((w.alloc O).alloc X).alloc Y).alloc V) := by
  have h1 := heap_alloc_new w O
  have h2 := heap_alloc_new (w.alloc O) X
  have h3 := heap_alloc_new ((w.alloc O).alloc X) Y
  have h4 := heap_alloc_new (((w.alloc O).alloc X).alloc Y) V
  have b2 := Below.alloc1 (w.alloc O) X
  have b3 := Below.alloc1 ((w.alloc O).alloc X) Y
  have b4 := Below.alloc1 (((w.alloc O).alloc X).alloc Y) V
  simp only [World.size_alloc] at h2 h3 h4 b2 b3 b4
  refine ⟨(b4.block _ (by omega)).trans ((b3.block _ (by omega)).trans ((b2.block _ (by omega)).trans h1)), (b4.block _ (by omega)).trans ((b3.block _ (by omega)).trans h2), (b4.block _ (by omega)).trans h3, h4, ?_⟩
  exact Below.step (Below.step (Below.step (Below.alloc1 w O) (Below.alloc1 _ X)) (Below.alloc1 _ Y)) (Below.alloc1 _ V)

structure PmIn (w0 w : World) (g1 g2 g4 n : Nat) (T B : List Int) : Prop where
  box : Box2 28 w g4 (.slice (some ⟨g1, 0, none⟩) n n) (.slice (some ⟨g2, 0, none⟩) n n)
  top : Own w0.heap.size w (.slice (some ⟨g1, 0, none⟩) n n) T
  bot : Own w0.heap.size w (.slice (some ⟨g2, 0, none⟩) n n) B
  res : Box2 28 w w0.heap.size (.slice none 0 0) (.slice none 0 0)
  below : Below w0.heap.size w0 w
  n12 : g1 ≠ g2
  n14 : g1 ≠ g4
  n24 : g2 ≠ g4
  l1 : w0.heap.size < g1
  l2 : w0.heap.size < g2
  l4 : w0.heap.size < g4
theorem PmIn.drew {w0 w : World} {g1 g2 g4 n : Nat} {T B : List Int} (h : PmIn w0 w g1 g2 g4 n T B) : PmIn w0 w.drew g1 g2 g4 n T B :=
  ⟨h.box, h.top, h.bot, h.res, Below.drew h.below, h.n12, h.n14, h.n24, h.l1, h.l2, h.l4⟩
theorem Own.otherBlk {B g k n : Nat} {w : World} {l : List Int} {i : Nat} {v : Value} (h : Own B w (.slice (some ⟨g, 0, none⟩) n n) l) (hne : g ≠ k) : Own B (w.setCell ⟨k, i, none⟩ v) (.slice (some ⟨g, 0, none⟩) n n) l :=
  Own.grown h (grownW_setCell (b := k)) (fun q hq e => by simp [Value.ownBlock] at hq e; omega)
theorem PmIn.setTop {w0 w : World} {g1 g2 g4 n : Nat} {T B : List Int} (h : PmIn w0 w g1 g2 g4 n T B) (i : Nat) (x : Int) : PmIn w0 (w.setCell ⟨g1, i, none⟩ (.int .i64 x)) g1 g2 g4 n (T.set i x) B :=
  ⟨h.box.grown grownW_setCell (by simp; exact Ne.symm h.n14), h.top.stored i x, h.bot.otherBlk (Ne.symm h.n12), h.res.grown grownW_setCell (by simp; have := h.l1; omega), h.below.setCell (p := ⟨g1, i, none⟩) (Nat.le_of_lt h.l1) _, h.n12, h.n14, h.n24, h.l1, h.l2, h.l4⟩
theorem PmIn.setBot {w0 w : World} {g1 g2 g4 n : Nat} {T B : List Int} (h : PmIn w0 w g1 g2 g4 n T B) (i : Nat) (x : Int) : PmIn w0 (w.setCell ⟨g2, i, none⟩ (.int .i64 x)) g1 g2 g4 n T (B.set i x) :=
  ⟨h.box.grown grownW_setCell (by simp; exact Ne.symm h.n24), h.top.otherBlk h.n12, h.bot.stored i x, h.res.grown grownW_setCell (by simp; have := h.l2; omega), h.below.setCell (p := ⟨g2, i, none⟩) (Nat.le_of_lt h.l2) _, h.n12, h.n14, h.n24, h.l1, h.l2, h.l4⟩
theorem pm_start {w0 w : World} {g1 g2 g4 n : Nat} (hn : n ≤ 1000) (h0 : w.heap[w0.heap.size]? = some (.cells #[.slice none 0 0, .slice none 0 0] 28 (0, 0))) (h1 : w.heap[g1]? = some (.cells (madeCells #[.int .i64 0] n) 3 (0, 0))) (h2 : w.heap[g2]? = some (.cells (madeCells #[.int .i64 0] n) 3 (0, 0))) (h4 : w.heap[g4]? = some (.cells #[.slice (some ⟨g1, 0, none⟩) n n, .slice (some ⟨g2, 0, none⟩) n n] 28 (0, 0)))
    (hb : Below w0.heap.size w0 w) (n12 : g1 ≠ g2) (n14 : g1 ≠ g4) (n24 : g2 ≠ g4) (l1 : w0.heap.size < g1) (l2 : w0.heap.size < g2) (l4 : w0.heap.size < g4) : PmIn w0 w g1 g2 g4 n (List.replicate n 0) (List.replicate n 0) :=
  ⟨h4, own_blk (Nat.le_of_lt l1) hn h1, own_blk (Nat.le_of_lt l2) hn h2, h0, hb, n12, n14, n24, l1, l2, l4⟩

theorem results_pem (tmps : Array Value) (w : World) (g : Nat) (v1 v2 : Value) (hg : Box2 28 w g v1 v2) (h2 : tmps.getD 2 undef = .pointer (some ⟨g, 0, none⟩)) :
    (results Try.f45 tmps).run Try.prog w = .ok (.agg #[v1, v2]) w :=
  results_cell_row (by kernel_rfl) tmps w g _ #[v1, v2] _ _ h2 hg Try.underlying28 rfl (by rw [mea_info]; rfl)

set_option maxHeartbeats 8000000 in
theorem peMeander_any (v : Value) (l : List Int) (w : World) (h : Rd w v l) (hw : wordB l = true) (hev : l.length % 2 = 0) (hpos : 2 ≤ l.length) :
    Calls Try.prog 45 #[v] w (MadeM w (mateL l 0) (mateL l 1)) := by
  have hl := word_len hw
  have h0 := h
  obtain ⟨bb, off, c, rfl, hlc, hcm, hcell⟩ := h.at (by omega)
  have hbb : bb < w.heap.size := World.block_lt_of_cell? w _ (hcell 0 (by omega))
  obtain ⟨n, hn⟩ : ∃ n, n = l.length := ⟨_, rfl⟩
  have hmk := run_mk n (by omega)
  have hnx := fun i (hi : i < l.length) => at_lt hw hi
  have hixo := fun i (hi : i < l.length) => ixN_of hw hi
  have hff := fun x (hx : x < l.length) => folN_facts hw hev hx
  have st0 := InvQ.start l 0 (fun x => ixN l x < 0) (fun x => by omega)
  have st1 := InvQ.start l 1 (fun x => ixN l x < 0) (fun x => by omega)
  rw [← hn] at hlc hl hcell hpos h0 hnx hixo hff st0 st1 ⊢
  unfold maxLen at hcm
  have HN := Lib.hid hn; have HC := Lib.hid hcell; have HW := Lib.hid hw; have HEV := Lib.hid hev; have HBB := Lib.hid hbb
  have HNX := Lib.hid hnx; have HIX := Lib.hid hixo; have HFF := Lib.hid hff; have HST0 := Lib.hid st0; have HST1 := Lib.hid st1
  have HP := Lib.hid (fun g1 g2 g4 wx => @pm_start w wx g1 g2 g4 n (by omega))
  have HCH := Lib.hid (fun X Y V => chain4 w (.cells #[.slice none 0 0, .slice none 0 0] 28) X Y V)
  have hev2 : n % 2 = 0 := by rw [hn]; exact hev
  obtain ⟨Z, hZ⟩ : ∃ Z, madeCells #[.int .i64 0] n = Z := ⟨_, rfl⟩
  rw [hZ] at hmk HP
  clear h h0 hcell hw hev hn hZ hbb hnx hixo hff st0 st1
  go_enter Try.func45, Try.ntmps45
  go_wp2_with fail
  go_cut [4] (fun s4 wx => ∃ (g1 g2 g4 : Nat), s4 = .pointer (some ⟨g4, 0, none⟩) ∧ Hid (PmIn w wx g1 g2 g4 n (List.replicate n 0) (List.replicate n 0)))
  case first =>
    go_region
    all_goals
      go_wp2_with fail
      go_meet
      case rel =>
        first
          | exact ⟨w.heap.size + 1, w.heap.size + 1 + 1, w.heap.size + 1 + 1 + 1, rfl, PmIn.drew (HP.out _ _ _ _ (HCH.out _ _ _).1 (HCH.out _ _ _).2.1 (HCH.out _ _ _).2.2.1 (HCH.out _ _ _).2.2.2.1 (HCH.out _ _ _).2.2.2.2 (by omega) (by omega) (by omega) (by omega) (by omega) (by omega))⟩
          | exact ⟨w.heap.size + 1, w.heap.size + 1 + 1 + 1, w.heap.size + 1 + 1, rfl, PmIn.drew (HP.out _ _ _ _ (HCH.out _ _ _).1 (HCH.out _ _ _).2.1 (HCH.out _ _ _).2.2.2.1 (HCH.out _ _ _).2.2.1 (HCH.out _ _ _).2.2.2.2 (by omega) (by omega) (by omega) (by omega) (by omega) (by omega))⟩
          | exact ⟨w.heap.size + 1 + 1, w.heap.size + 1, w.heap.size + 1 + 1 + 1, rfl, PmIn.drew (HP.out _ _ _ _ (HCH.out _ _ _).1 (HCH.out _ _ _).2.2.1 (HCH.out _ _ _).2.1 (HCH.out _ _ _).2.2.2.1 (HCH.out _ _ _).2.2.2.2 (by omega) (by omega) (by omega) (by omega) (by omega) (by omega))⟩
          | exact ⟨w.heap.size + 1 + 1 + 1, w.heap.size + 1, w.heap.size + 1 + 1, rfl, PmIn.drew (HP.out _ _ _ _ (HCH.out _ _ _).1 (HCH.out _ _ _).2.2.2.1 (HCH.out _ _ _).2.1 (HCH.out _ _ _).2.2.1 (HCH.out _ _ _).2.2.2.2 (by omega) (by omega) (by omega) (by omega) (by omega) (by omega))⟩
          | exact ⟨w.heap.size + 1 + 1, w.heap.size + 1 + 1 + 1, w.heap.size + 1, rfl, PmIn.drew (HP.out _ _ _ _ (HCH.out _ _ _).1 (HCH.out _ _ _).2.2.1 (HCH.out _ _ _).2.2.2.1 (HCH.out _ _ _).2.1 (HCH.out _ _ _).2.2.2.2 (by omega) (by omega) (by omega) (by omega) (by omega) (by omega))⟩
          | exact ⟨w.heap.size + 1 + 1 + 1, w.heap.size + 1 + 1, w.heap.size + 1, rfl, PmIn.drew (HP.out _ _ _ _ (HCH.out _ _ _).1 (HCH.out _ _ _).2.2.2.1 (HCH.out _ _ _).2.2.1 (HCH.out _ _ _).2.1 (HCH.out _ _ _).2.2.2.2 (by omega) (by omega) (by omega) (by omega) (by omega) (by omega))⟩
  case rest =>
    obtain ⟨g1, g2, g4, rfl, HPM⟩ := hcut
    clear hmk HP HCH
    go_wp2_with fail
    go_loopw [5] (fun iv wr => ∃ (m : Nat) (T B : List Int), m ≤ n ∧ m % 2 = 0 ∧ iv = .int .i64 m ∧ Hid (PmIn w wr g1 g2 g4 n T B) ∧ Hid (InvQ l 0 T (fun x => ixN l x < m)) ∧ Hid (InvQ l 1 B (fun x => ixN l x < m))) (fun iv _ => n - (intOf iv).toNat)
    case atStart => exact ⟨0, _, _, by omega, rfl, rfl, HPM, HST0, HST1⟩
    case round =>
      obtain ⟨m, T, B, hm, hm2, rfl, HPW, HT, HB⟩ := hrel
      clear HPM HST0 HST1
      have hwi1 : IntKind.i64.wrap ((m : Int) + 1) = (m : Int) + 1 := IntWalk.i64_in _ (by omega)
      have hwi2 : IntKind.i64.wrap ((m : Int) + 2) = (m : Int) + 2 := IntWalk.i64_in _ (by omega)
      have b0 := HPW.out.box.c0; have b1 := HPW.out.box.c1
      have n12 := HPW.out.n12; have n14 := HPW.out.n14; have n24 := HPW.out.n24
      have n21 := Ne.symm n12; have n41 := Ne.symm n14; have n42 := Ne.symm n24
      have nb1 : bb ≠ g1 := fun e => by have := HPW.out.l1; have := HBB.out; omega
      have nb2 : bb ≠ g2 := fun e => by have := HPW.out.l2; have := HBB.out; omega
      have hTl : T.length = n := HT.out.1.trans HN.out.symm
      have hBl : B.length = n := HB.out.1.trans HN.out.symm
      by_cases hlt : (m : Int) < (n : Int)
      · have hm1 : m + 1 < n := by omega
        have keep : ∀ k, k < n → wr.cell? ⟨bb, off + k, none⟩ = some (.int .i64 (l.getD k 0)) := fun k hk => (HPW.out.below.cell (p := ⟨bb, off + k, none⟩) (World.block_lt_of_cell? w _ (HC.out k hk))).trans (HC.out k hk)
        obtain ⟨q, hq⟩ : ∃ q, q = (m + 2) % n := ⟨_, rfl⟩
        have hql : q < n := by rw [hq]; exact Nat.mod_lt _ (by omega)
        have hrem : ((m : Int) + 2).tmod (n : Int) = (q : Int) := by
          rw [hq, Int.natCast_emod, Int.natCast_add]
          exact Int.tmod_eq_emod_of_nonneg (by omega)
        have e1 := keep m (by omega)
        have e2 := keep (m + 1) hm1
        have e3 := keep q hql
        obtain ⟨x0, hx0⟩ : ∃ x0 : Nat, x0 = (l.getD m 0).toNat := ⟨_, rfl⟩
        obtain ⟨y0, hy0⟩ : ∃ y0 : Nat, y0 = (l.getD (m + 1) 0).toNat := ⟨_, rfl⟩
        obtain ⟨z0, hz0⟩ : ∃ z0 : Nat, z0 = (l.getD q 0).toNat := ⟨_, rfl⟩
        have ax := HNX.out m (by omega); have ay := HNX.out (m + 1) hm1; have az := HNX.out q hql
        have ix := HIX.out m (by omega); have iy := HIX.out (m + 1) hm1
        rw [← hx0] at ax ix; rw [← hy0] at ay iy; rw [← hz0] at az
        rw [← ax.2] at e1; rw [← ay.2] at e2; rw [← az.2] at e3
        have fx : folN l x0 = y0 := by
          unfold folN
          rw [ix, ← HN.out, Nat.mod_eq_of_lt hm1, hy0]
        have fy : folN l y0 = z0 := by
          unfold folN
          rw [iy, ← HN.out, show m + 1 + 1 = m + 2 by omega, ← hq, hz0]
        have st0 := InvQ.step HW.out HEV.out HT.out (Q' := fun x => ixN l x < m + 2) x0 (by rw [← HN.out]; exact ax.1) (by rw [ix]; exact hm2) (fun x hx hs hlt2 => by
          by_cases e : ixN l x = m
          · right
            have h1 := (ixN_facts HW.out hx).2.1
            rw [e] at h1
            omega
          · left; omega)
        have st1 := InvQ.step HW.out HEV.out HB.out (Q' := fun x => ixN l x < m + 2) y0 (by rw [← HN.out]; exact ay.1) (by rw [iy]; omega) (fun x hx hs hlt2 => by
          by_cases e : ixN l x = m + 1
          · right
            have h1 := (ixN_facts HW.out hx).2.1
            rw [e] at h1
            omega
          · left; omega)
        rw [fx] at st0
        rw [fy] at st1
        have nxy : x0 ≠ y0 := fun e => by rw [← e, ix] at iy; omega
        have nyz : y0 ≠ z0 := fun e => by
          have h1 := HIX.out q hql
          rw [← hz0, ← e, iy] at h1
          have : (m + 2) % n ≠ m + 1 := by
            by_cases e2 : m + 2 < n
            · rw [Nat.mod_eq_of_lt e2]; omega
            · rw [show m + 2 = n by omega, Nat.mod_self]; omega
          omega
        have nyx := Ne.symm nxy; have nzy := Ne.symm nyz
        have d1 := HPW.out.top.cellAt x0 (by rw [hTl]; exact ax.1)
        have d2 := HPW.out.top.cellAt y0 (by rw [hTl]; exact ay.1)
        have d3 := HPW.out.bot.cellAt y0 (by rw [hBl]; exact ay.1)
        have d4 := HPW.out.bot.cellAt z0 (by rw [hBl]; exact az.1)
        have f1 := HPW.out.top.frozenAt x0; have f2 := HPW.out.top.frozenAt y0; have f3 := HPW.out.bot.frozenAt y0; have f4 := HPW.out.bot.frozenAt z0
        have hfin := (((HPW.out.setTop x0 (y0 : Int)).setTop y0 (x0 : Int)).setBot y0 (z0 : Int)).setBot z0 (y0 : Int)
        have HFIN := Lib.hid hfin; have ST0 := Lib.hid st0; have ST1 := Lib.hid st1
        generalize T.getD x0 0 = t1 at d1
        generalize T.getD y0 0 = t2 at d2
        generalize B.getD y0 0 = t3 at d3
        generalize B.getD z0 0 = t4 at d4
        have x0n := ax.1; have y0n := ay.1; have z0n := az.1
        have i1 : (0 : Int) ≤ (x0 : Int) := by omega
        have i2 : (x0 : Int) < (n : Int) := by omega
        have i3 : (0 : Int) ≤ (y0 : Int) := by omega
        have i4 : (y0 : Int) < (n : Int) := by omega
        have i5 : (0 : Int) ≤ (z0 : Int) := by omega
        have i6 : (z0 : Int) < (n : Int) := by omega
        have i7 : (0 : Int) ≤ (m : Int) := by omega
        have i8 : (m : Int) + 1 < (n : Int) := by omega
        have i9 : (0 : Int) ≤ (m : Int) + 1 := by omega
        have i10 : ((m : Int) + 1).toNat = m + 1 := by omega
        have i11 : (0 : Int) ≤ (q : Int) := by omega
        have i12 : (q : Int) < (n : Int) := by omega
        have i13 : (n : Int) ≠ 0 := by omega
        clear keep hq hx0 hy0 hz0 ax ay az ix iy fx fy st0 st1 hfin hTl hBl
        go_wp2_with fail
        go_region
        go_wp2_with fail
        go_region
        go_wp2_with fail
        go_region
        go_wp2_with fail
        go_region
        go_wp2_with fail
        go_roundw
        case rel => exact ⟨m + 2, _, _, by omega, by omega, by go_num, Lib.hid (HFIN.out.drew.drew.drew.drew), ST0, ST1⟩
        case measure => simp [intOf]; omega
      · obtain rfl : m = n := by omega
        have eT := InvQ.all HW.out HEV.out (by omega) HT.out (fun x hx _ => by rw [HN.out]; exact (ixN_facts HW.out hx).1)
        have eB := InvQ.all HW.out HEV.out (by omega) HB.out (fun x hx _ => by rw [HN.out]; exact (ixN_facts HW.out hx).1)
        subst eT eB
        have r0 := HPW.out.res.c0; have r1 := HPW.out.res.c1; have r2 := HPW.out.res.free 0; have r3 := HPW.out.res.free 1
        clear hTl hBl HT HB
        go_wp2
        have G1 : ∀ k, (Value.slice (some ⟨g1, 0, none⟩) m m).ownBlock = some k → (some w.heap.size : Option Nat) ≠ some k := fun k hk e => by have := (HPW.out.l1); simp [Value.ownBlock] at hk e; omega
        have G2 : ∀ k, (Value.slice (some ⟨g2, 0, none⟩) m m).ownBlock = some k → (some w.heap.size : Option Nat) ≠ some k := fun k hk e => by have := (HPW.out.l2); simp [Value.ownBlock] at hk e; omega
        exact bodyPost_ret (results_pem _ _ w.heap.size _ _ ((HPW.out.res.set0 _).set1 _) rfl) rfl ⟨_, _, rfl, HPW.out.top.grown (grownW_trans grownW_setCell grownW_setCell) G1, HPW.out.bot.grown (grownW_trans grownW_setCell grownW_setCell) G2, fun k hk hk' => by simp [Value.ownBlock] at hk hk'; omega, (HPW.out.below.setCell (p := ⟨w.heap.size, 0, none⟩) (Nat.le_refl _) _).setCell (p := ⟨w.heap.size, 1, none⟩) (Nat.le_refl _) _⟩

end Go.Proofs.Ytkohmdhjjnmfgab
