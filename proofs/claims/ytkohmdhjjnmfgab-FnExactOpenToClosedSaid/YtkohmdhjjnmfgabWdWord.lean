/- wordOf: the word of a meander. -/
import Derived.Test.YtkohmdhjjnmfgabWayOne
import Derived.Test.YtkohmdhjjnmfgabWalkW
import Derived.Test.YtkohmdhjjnmfgabComps
import Derived.Test.YtkohmdhjjnmfgabWdRun
import Derived.Test.YtkohmdhjjnmfgabWdV
namespace Go.Proofs.Ytkohmdhjjnmfgab
open Go.RowKit
set_option linter.unusedSimpArgs false
set_option linter.unusedVariables false

/-- what the visitor keeps: the word that is written, the counter, and the pair on its way -/
structure VisIn (w0 w : World) (gp gw gi : Nat) (t b L : List Int) (k : Nat) : Prop where
  pair : PairIn w gp t b
  word : WdIn w gw (atK L k) (idxK L k)
  cnt : w.heap[gi]? = some (.cells #[.int .i64 (k : Int)] 3 (0, 0))
  below : Below w0.heap.size w0 w

set_option maxHeartbeats 2000000 in
theorem visitWd_any (w0 w : World) (gp gw gi k x : Nat) (t b L : List Int) (h : VisIn w0 w gp gw gi t b L k) (hl : L.length ≤ 12) (hk : k < L.length) (hx : L.getD k 0 = (x : Int)) (hx12 : x < 12)
    (h1 : gp ≠ gw) (h2 : gp ≠ gi) (h3 : gw ≠ gi) (hw : w0.heap.size ≤ gw) (hi : w0.heap.size ≤ gi) :
    Calls Try.prog 63 #[.int .i64 (x : Int), .pointer (some ⟨gw, 0, none⟩), .pointer (some ⟨gi, 0, none⟩)] w
      fun e w' => e = .returned (.tuple #[]) ∧ VisIn w0 w' gp gw gi t b L (k + 1) := by
  have c1 : w.cell? ⟨gi, 0, none⟩ = some (.int .i64 (k : Int)) := by rw [cell_of_row w gi _ _ _ _ h.cnt]; rfl
  have hput := put_any gw k x (atK L k) (idxK L k) w h.word (by rw [atK_length]; exact hl) (idxK_length _ _) (by rw [atK_length]; exact hk) hx12
  have e1 : (atK L k).set k (x : Int) = atK L (k + 1) := by rw [← hx]; rfl
  have e2 : (idxK L k).set x (k : Int) = idxK L (k + 1) := by rw [idxK, hx, Int.toNat_natCast]
  rw [e1, e2] at hput
  have hwk : IntKind.i64.wrap ((k : Int) + 1) = (k : Int) + 1 := IntWalk.i64_in _ (by omega)
  have H := Lib.hid h; have HP := Lib.hid hput
  clear h hput e1 e2 hx
  go_enter Try.func63, Try.ntmps63
  go_wp2_with (go_at_call 64; refine HP.out.mono ?_; rintro e w2 ⟨rfl, hw2, hg2⟩; have hn2 : w2.heap[gi]? = some (.cells #[.int .i64 (k : Int)] 3 (0, 0)) := (hg2.block gi (Array.getElem?_eq_some_iff.1 H.out.cnt).1 (by simp; omega)).trans H.out.cnt; have c2 : w2.cell? ⟨gi, 0, none⟩ = some (.int .i64 (k : Int)) := (cell_of_row w2 gi _ _ _ _ hn2).trans rfl; have f2 : w2.frozen? ⟨gi, 0, none⟩ = false := frozen_of_row w2 gi 0 _ _ hn2; have HW2 := Lib.hid hw2; have HG2 := Lib.hid hg2; have HN2 := Lib.hid hn2; clear hw2 hg2 hn2)
  go_end0
  have hp2 : PairIn w2 gp t b := H.out.pair.grown HG2.out (by simp; omega)
  refine ⟨rfl, hp2.setOther h2, HW2.out.other h3, ?_, ((H.out.below.grown HG2.out H.out.below.size (by intro k hk; simp at hk; omega)).setCell (p := ⟨gi, 0, none⟩) hi _)⟩
  have := heap_setCell_same w2 gi 0 _ _ (.int .i64 ((k : Int) + 1)) HN2.out
  exact this

theorem results_wo (tmps : Array Value) (w : World) (g : Nat) (p b : List Int) (ok : Bool) (hl : p.length ≤ 12) (hb : b.length = 12) (hg : WdIn w g p b) (h2 : tmps.getD 2 undef = .pointer (some ⟨g, 0, none⟩)) (h3 : tmps.getD 3 undef = .bool ok) :
    (results Try.f39 tmps).run Try.prog w = .ok (.tuple #[.agg (wdC p b), .bool ok]) w := by
  have h2' : tmps[2]?.getD undef = .pointer (some ⟨g, 0, none⟩) := by simpa using h2
  have h3' : tmps[3]?.getD undef = .bool ok := by simpa using h3
  have hr : Try.f39.results = #[.cell 2 53, .tmp 3] := by kernel_rfl
  simp [results, hr, h2', h3', asAddr, run_loadWd w g p b hl hb hg]

/-- is it a meander -/
def oneB (t b : List Int) : Bool := pairOk t b && decide (compsL t b = 1)
/-- its word -/
def wordM (t b : List Int) : List Int := wayV (par t) (par b) t.length 0
theorem one_facts {t b : List Int} (h : oneB t b = true) : pairOk t b = true ∧ (wordM t b).length = t.length ∧ wordB (wordM t b) = true ∧ t.length ≤ 12 ∧ (wayN (par t) (par b) t.length 0).length = t.length ∧ 0 < t.length := by
  unfold oneB at h
  simp only [Bool.and_eq_true, decide_eq_true_eq] at h
  obtain ⟨q1, q2, q3⟩ := pairOk_facts h.1
  have pb := good_paired q2
  rw [← q3] at pb
  have hn := good_len' q1
  have hc : cntN (par t) (par b) t.length = 1 := h.2
  obtain ⟨a1, a2, a3⟩ := wayV_one (good_paired q1) pb hn hc
  exact ⟨h.1, a1, a2, hn, a3, one_pos hc⟩
theorem wordM_get {t b : List Int} {d r : List Nat} {x : Nat} (h : d ++ x :: r = wayN (par t) (par b) t.length 0) : d.length < (wordM t b).length ∧ (wordM t b).getD d.length 0 = (x : Int) := by
  unfold wordM wayV
  rw [← h]
  constructor
  · simp
  · simp [List.getD, List.getElem?_append_right]

set_option maxHeartbeats 4000000 in
theorem wordOf_yes (t b : List Int) (w : World) (u1 u2 : Value) (h1 : Rd w u1 t) (h2 : Rd w u2 b) (ho : oneB t b = true) :
    Calls Try.prog 39 #[.agg #[u1, u2]] w (WdOut w (wordM t b) (idxW (wordM t b)) true) := by
  obtain ⟨hpo, hL, hW, hn12, hN, hpos⟩ := one_facts ho
  have hA := Box2.new 28 w u1 u2
  have B1 : Below w.heap.size w (w.alloc (.cells #[u1, u2] 28)) := Below.alloc1 w _
  have hz0 := wd_new0 (w.alloc (.cells #[u1, u2] 28))
  rw [World.size_alloc] at hz0
  have B2 := Below.step B1 (Below.alloc1 _ (.cells #[.int .i64 0, .int .i64 0, .int .i64 0, .int .i64 0, .int .i64 0, .int .i64 0, .int .i64 0, .int .i64 0, .int .i64 0, .int .i64 0, .int .i64 0, .int .i64 0, .int .i64 0, .int .i64 0, .int .i64 0, .int .i64 0, .int .i64 0, .int .i64 0, .int .i64 0, .int .i64 0, .int .i64 0, .int .i64 0, .int .i64 0, .int .i64 0, .int .i64 0] 53))
  have hA2 := hA.below (Below.alloc1 _ (.cells #[.int .i64 0, .int .i64 0, .int .i64 0, .int .i64 0, .int .i64 0, .int .i64 0, .int .i64 0, .int .i64 0, .int .i64 0, .int .i64 0, .int .i64 0, .int .i64 0, .int .i64 0, .int .i64 0, .int .i64 0, .int .i64 0, .int .i64 0, .int .i64 0, .int .i64 0, .int .i64 0, .int .i64 0, .int .i64 0, .int .i64 0, .int .i64 0, .int .i64 0] 53))
  have k0 := hA2.c0; have k1 := hA2.c1
  have hrd := readPair_any t b _ u1 u2 (h1.below B2) (h2.below B2)
  rw [hpo] at hrd
  obtain ⟨q1, q2, q3⟩ := pairOk_facts hpo
  have hone : compsL t b = 1 := by unfold oneB at ho; simp only [Bool.and_eq_true, decide_eq_true_eq] at ho; exact ho.2
  have hm := fun w => isMeander_any t b q1 q2 q3 w
  rw [decide_eq_true hone] at hm
  have hsz := fun w => pairSize_any t b w
  have pb := good_paired q2
  rw [← q3] at pb
  have hwk := fun w p1 p2 I h0 hP hV => walk_word t b (par t) (par b) t.length 0 (good_paired q1) pb hn12 hpos (fun k hk => good_cell q1 k hk) (fun k hk => good_cell q2 k (by omega)) w p1 p2 I h0 hP hV
  have hget := fun d x r h => @wordM_get t b d r x h
  have hlt := fun x (h : x ∈ wayN (par t) (par b) t.length 0) => wayN_lt (good_paired q1) pb hpos x h
  have hat := atK_all (wordM t b)
  have hlw : (wordM t b).length ≤ 12 := by omega
  have hidx : idxW (wordM t b) = idxK (wordM t b) t.length := by unfold idxW; rw [hL]
  rw [hidx]
  rw [hL] at hat
  have hrep : atK (wordM t b) 0 = List.replicate t.length 0 := by rw [atK, hL]
  have HR := Lib.hid hrd; have HM := Lib.hid hm; have HSZ := Lib.hid hsz; have HWK := Lib.hid hwk; have HGET := Lib.hid hget; have HAT := Lib.hid hat; have HLW := Lib.hid hlw; have HL := Lib.hid hL; have HN := Lib.hid hN; have HREP := Lib.hid hrep; have HLT := Lib.hid hlt
  have HZ := Lib.hid hz0; have HB := Lib.hid B2
  have hzl := zero12_length
  generalize wordM t b = L at *
  obtain ⟨n, hn⟩ : ∃ n, n = t.length := ⟨_, rfl⟩
  rw [← hn] at HSZ HWK HAT HL HN HREP hn12 hpos HGET HLT ⊢
  generalize wayN (par t) (par b) n 0 = W at *
  clear hrd hm hsz hwk hget hat hlw hL hN hrep hA B1 B2 hA2 hz0 h1 h2 hpo hone q1 q2 q3 pb ho hW hidx hn hlt
  go_enter Try.func39, Try.ntmps39
  go_wp2_with fail
  refine HR.out.mono ?_
  rintro e w1 ⟨rfl, hb1⟩
  have HZ1 := Lib.hid (HZ.out.below hb1); have HB1 := Lib.hid (Below.step HB.out hb1)
  clear hb1 k0 k1
  simp only [if_true]
  go_wp2_with (first
    | ((with_reducible refine wp_storePairN rfl (.tmp 4) (.tmp 11) rfl t b rfl rfl ?_); intro w2 hs2 hb2; have HS2 := Lib.hid hs2; have HZ2 := Lib.hid (HZ1.out.below hb2); have HB2 := Lib.hid (Below.step HB1.out hb2); clear hs2 hb2)
    | (with_reducible refine wp_loadPairG (.tmp 4) rfl w1.heap.size t b rfl HS2.out (by with_unfolding_all rfl) ?_)
    | (go_at_call 60; ((with_reducible refine (HM.out _).mono ?_); rintro e w3 ⟨rfl, hb3⟩; have HS3 := Lib.hid (HS2.out.below hb3); have HZ3 := Lib.hid (HZ2.out.below hb3); have HB3 := Lib.hid (Below.step HB2.out hb3); clear hb3))
    | (with_reducible refine wp_loadPair rfl (.tmp 4) rfl w1.heap.size t b rfl HS3.out ?_)
    | (go_at_call 61; ((with_reducible refine (HSZ.out _).mono ?_); rintro e w4 ⟨rfl, hb4⟩; have HS4 := Lib.hid (HS3.out.below hb4); have HZ4 := Lib.hid (HZ3.out.below hb4); have HB4 := Lib.hid (Below.step HB3.out hb4); have HW4 := Lib.hid (wd_new0 w4); clear hb4))
    | (refine wp_storeWdN rfl (.tmp 6) (.tmp 24) rfl w4.heap.size n hn12 rfl rfl HW4.out ?_; intro w5 hs5 hg5; have HW5 := Lib.hid hs5; have HB5 := Lib.hid ((Below.alloc1 w4 (.cells #[.int .i64 0, .int .i64 0, .int .i64 0, .int .i64 0, .int .i64 0, .int .i64 0, .int .i64 0, .int .i64 0, .int .i64 0, .int .i64 0, .int .i64 0, .int .i64 0, .int .i64 0, .int .i64 0, .int .i64 0, .int .i64 0, .int .i64 0, .int .i64 0, .int .i64 0, .int .i64 0, .int .i64 0, .int .i64 0, .int .i64 0, .int .i64 0, .int .i64 0] 53)).grown hg5 (by simp) (by intro k hk; simp at hk; omega)); have HS5 := Lib.hid (HS4.out.below HB5.out); have HS6 := Lib.hid (HS5.out.below (Below.alloc1 w5 (.cells #[.int .i64 0] 3))); have HZ5 := Lib.hid (HZ4.out.below HB5.out); have hn5 := HW5.out.lt; clear hs5 hg5)
    | (with_reducible refine wp_loadPair rfl (.tmp 4) rfl w1.heap.size t b rfl HS6.out ?_))
  have hgn : w4.heap.size < w5.heap.size := HW5.out.lt
  have hB6 : Below w4.heap.size w4 (w5.alloc (.cells #[.int .i64 0] 3)) := Below.step HB5.out (Below.alloc1 w5 _)
  refine (HWK.out _ _ _ (fun d w' => VisIn w4 w' (w5.heap.size + 1) w4.heap.size w5.heap.size t b L d.length) ?_ ?_ ?_).mono ?_
  · show VisIn w4 _ (w5.heap.size + 1) w4.heap.size w5.heap.size t b L 0
    refine ⟨?_, ?_, ?_, Below.step hB6 (Below.alloc1 _ _)⟩
    · have := PairIn.new (w5.alloc (.cells #[.int .i64 0] 3)) t b
      rw [World.size_alloc] at this
      exact this
    · rw [HREP.out]
      exact (HW5.out.below (Below.alloc1 w5 _)).below (Below.alloc1 _ _)
    · have h0 := heap_alloc_new w5 (.cells #[.int .i64 0] 3)
      exact ((Below.alloc1 (w5.alloc (.cells #[.int .i64 0] 3)) (.cells (pairC t b) 72)).block w5.heap.size (by simp)).trans h0
  · intro d w' h
    have := h.pair
    rw [World.size_alloc]
    exact this
  · intro d x w' h hx hpre
    obtain ⟨r, hr⟩ := hpre
    obtain ⟨g1, g2⟩ := HGET.out d x r hr
    rw [List.length_append]
    exact visitWd_any w4 w' (w5.heap.size + 1) w4.heap.size w5.heap.size d.length x t b L h HLW.out g1 g2 (by omega) (by omega) (by omega) (by omega) (Nat.le_refl _) (by omega)
  · rintro e w6 ⟨rfl, hv⟩
    rw [HN.out] at hv
    have hW6 := hv.word
    rw [HAT.out] at hW6
    have HW6 := Lib.hid hW6
    have HZ6 := Lib.hid (HZ4.out.below hv.below)
    have HB6 := Lib.hid (Below.step HB4.out hv.below)
    have HI : Hid ((idxK L n).length = 12) := idxK_length _ _
    clear hv hW6 hB6
    go_wp2_with (first
      | (with_reducible refine wp_loadWd rfl (.tmp 6) rfl w4.heap.size L (idxK L n) HLW.out HI.out rfl HW6.out ?_)
      | (refine wp_storeWd rfl (.tmp 2) (.tmp 28) rfl (w.heap.size + 1) L (idxK L n) [] zero12 HLW.out HI.out (Nat.zero_le _) hzl rfl rfl HZ6.out ?_; intro w7 hs7 hg7))
    exact bodyPost_ret (results_wo _ _ (w.heap.size + 1) L (idxK L n) true HLW.out HI.out hs7 rfl rfl) rfl ⟨rfl, HB6.out.grown hg7 HB6.out.size (by intro k hk; simp at hk; omega)⟩

set_option maxHeartbeats 4000000 in
theorem wordOf_no (t b : List Int) (w : World) (u1 u2 : Value) (h1 : Rd w u1 t) (h2 : Rd w u2 b) (ho : oneB t b = false) :
    Calls Try.prog 39 #[.agg #[u1, u2]] w (WdOut w [] zero12 false) := by
  have hA := Box2.new 28 w u1 u2
  have B1 : Below w.heap.size w (w.alloc (.cells #[u1, u2] 28)) := Below.alloc1 w _
  have hz0 := wd_new0 (w.alloc (.cells #[u1, u2] 28))
  rw [World.size_alloc] at hz0
  have B2 := Below.step B1 (Below.alloc1 _ (.cells #[.int .i64 0, .int .i64 0, .int .i64 0, .int .i64 0, .int .i64 0, .int .i64 0, .int .i64 0, .int .i64 0, .int .i64 0, .int .i64 0, .int .i64 0, .int .i64 0, .int .i64 0, .int .i64 0, .int .i64 0, .int .i64 0, .int .i64 0, .int .i64 0, .int .i64 0, .int .i64 0, .int .i64 0, .int .i64 0, .int .i64 0, .int .i64 0, .int .i64 0] 53))
  have hA2 := hA.below (Below.alloc1 _ (.cells #[.int .i64 0, .int .i64 0, .int .i64 0, .int .i64 0, .int .i64 0, .int .i64 0, .int .i64 0, .int .i64 0, .int .i64 0, .int .i64 0, .int .i64 0, .int .i64 0, .int .i64 0, .int .i64 0, .int .i64 0, .int .i64 0, .int .i64 0, .int .i64 0, .int .i64 0, .int .i64 0, .int .i64 0, .int .i64 0, .int .i64 0, .int .i64 0, .int .i64 0] 53))
  have k0 := hA2.c0; have k1 := hA2.c1
  have hrd := readPair_any t b _ u1 u2 (h1.below B2) (h2.below B2)
  have HZ := Lib.hid hz0; have HB := Lib.hid B2
  have hzl := zero12_length
  clear hA B1 B2 hA2 hz0 h1 h2
  cases hpo : pairOk t b with
  | false =>
    rw [hpo] at hrd
    simp only [Bool.false_eq_true, if_false] at hrd
    have HR := Lib.hid hrd
    clear hrd ho hpo
    go_enter Try.func39, Try.ntmps39
    go_wp2_with fail
    refine HR.out.mono ?_
    rintro e w1 ⟨rfl, hb1⟩
    have HZ1 := Lib.hid (HZ.out.below hb1); have HB1 := Lib.hid (Below.step HB.out hb1)
    clear hb1 k0 k1
    go_wp2_with (first
      | ((with_reducible refine wp_storePairN rfl (.tmp 4) (.tmp 11) rfl [] [] rfl rfl ?_); intro w2 hs2 hb2; have HZ2 := Lib.hid (HZ1.out.below hb2); have HB2 := Lib.hid (Below.step HB1.out hb2); clear hs2 hb2)
      | (refine wp_storeWd0 rfl (.tmp 2) (.tmp 20) rfl (w.heap.size + 1) [] zero12 (Nat.zero_le _) hzl rfl rfl HZ2.out ?_; intro w3 hs3 hg3))
    exact bodyPost_ret (results_wo _ _ (w.heap.size + 1) [] zero12 false (by simp) hzl hs3 rfl rfl) rfl ⟨rfl, HB2.out.grown hg3 HB2.out.size (by intro k hk; simp at hk; omega)⟩
  | true =>
    obtain ⟨q1, q2, q3⟩ := pairOk_facts hpo
    have hm := fun w => isMeander_any t b q1 q2 q3 w
    have hone : decide (compsL t b = 1) = false := by unfold oneB at ho; rw [hpo, Bool.true_and] at ho; exact ho
    rw [hone] at hm
    rw [hpo] at hrd
    simp only [if_true] at hrd
    have HR := Lib.hid hrd; have HM := Lib.hid hm
    clear hrd ho hpo hm hone q1 q2 q3
    go_enter Try.func39, Try.ntmps39
    go_wp2_with fail
    refine HR.out.mono ?_
    rintro e w1 ⟨rfl, hb1⟩
    have HZ1 := Lib.hid (HZ.out.below hb1); have HB1 := Lib.hid (Below.step HB.out hb1)
    clear hb1 k0 k1
    go_wp2_with (first
      | ((with_reducible refine wp_storePairN rfl (.tmp 4) (.tmp 11) rfl t b rfl rfl ?_); intro w2 hs2 hb2; have HS2 := Lib.hid hs2; have HZ2 := Lib.hid (HZ1.out.below hb2); have HB2 := Lib.hid (Below.step HB1.out hb2); clear hs2 hb2)
      | (with_reducible refine wp_loadPairG (.tmp 4) rfl w1.heap.size t b rfl HS2.out (by with_unfolding_all rfl) ?_)
      | (go_at_call 60; ((with_reducible refine (HM.out _).mono ?_); rintro e w3 ⟨rfl, hb3⟩; have HZ3 := Lib.hid (HZ2.out.below hb3); have HB3 := Lib.hid (Below.step HB2.out hb3); clear hb3))
      | (refine wp_storeWd0 rfl (.tmp 2) (.tmp 20) rfl (w.heap.size + 1) [] zero12 (Nat.zero_le _) hzl rfl rfl HZ3.out ?_; intro w4 hs4 hg4))
    exact bodyPost_ret (results_wo _ _ (w.heap.size + 1) [] zero12 false (by simp) hzl hs4 rfl rfl) rfl ⟨rfl, HB3.out.grown hg4 HB3.out.size (by intro k hk; simp at hk; omega)⟩

def wsel (t b : List Int) : List Int := selL (oneB t b) (wordM t b)
def wseli (t b : List Int) : List Int := selI (oneB t b) (wordM t b)
theorem wordOf_any (t b : List Int) (w : World) (u1 u2 : Value) (h1 : Rd w u1 t) (h2 : Rd w u2 b) :
    Calls Try.prog 39 #[.agg #[u1, u2]] w (WdOut w (wsel t b) (wseli t b) (oneB t b)) := by
  unfold wsel wseli
  cases h : oneB t b with
  | true => exact wordOf_yes t b w u1 u2 h1 h2 h
  | false => exact wordOf_no t b w u1 u2 h1 h2 h
theorem wsel_len (t b : List Int) : (wsel t b).length ≤ 12 := by
  unfold wsel
  cases h : oneB t b with
  | true => obtain ⟨_, hL, _, hn, _⟩ := one_facts h; rw [selL_yes]; omega
  | false => exact Nat.zero_le _
theorem wseli_len (t b : List Int) : (wseli t b).length = 12 := by
  unfold wseli
  cases h : oneB t b with
  | true => exact idxK_length _ _
  | false => exact zero12_length

end Go.Proofs.Ytkohmdhjjnmfgab
