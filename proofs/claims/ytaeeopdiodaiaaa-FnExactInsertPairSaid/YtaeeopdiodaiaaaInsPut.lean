/- InsertPair: the model's siPut; the program's 'with'. -/
import Derived.Test.YtaeeopdiodaiaaaInsMath
import Derived.Test.YtaeeopdiodaiaaaJoinSys
import Derived.Test.YtaeeopdiodaiaaaCutSp
namespace Go.Proofs.Ytaeeopdiodaiaaa
open Go.RowKit
set_option linter.unusedSimpArgs false
set_option linter.unusedVariables false

def preK (p : List Int) (a : Nat) (q : List Int) : Nat → List Int
  | 0 => []
  | k + 1 => insK p a q k ++ [widen a q.length (p.getD k 0)]
theorem insK_pre (p : List Int) (a : Nat) (q : List Int) (k : Nat) : insK p a q k = preK p a q k ++ if a = k then q.map (· + (a : Int)) else [] := by
  cases k with
  | zero => rw [insK, preK, List.nil_append]
  | succ k => rw [insK, preK, List.append_assoc]; rfl
theorem preK_len (p : List Int) (a : Nat) (q : List Int) (k : Nat) : (preK p a q k).length ≤ k + q.length := by
  cases k with
  | zero => simp [preK]
  | succ k => rw [preK, List.length_append, insK_length]; split <;> simp <;> omega
theorem insK_len (p : List Int) (a : Nat) (q : List Int) (k : Nat) : (insK p a q k).length ≤ k + q.length := by rw [insK_length]; split <;> omega
theorem setsL_eq (f : Int → Int) (l o : List Int) : ∀ k, setsL f l o k = drawL f l o k
  | 0 => rfl
  | k + 1 => by rw [setsL, drawL, setsL_eq f l o k]
theorem ins_drawn {p q : List Int} (hp : goodB p = true) (hq : goodB q = true) {i : Nat} (hi : i ≤ p.length) (hl : p.length + q.length ≤ 12) :
    drawL (shiftTo (i : Int) ((p.length : Int) + (q.length : Int))) (drawL (widen i q.length) (List.replicate (p.length + q.length) 0) p p.length) q q.length = insL p i q := by
  rw [← ins_draw hp hq hi hl, insDraw, ← setsL_eq, ← setsL_eq]
  rfl
theorem take_mapS (q : List Int) (a : Int) (j : Nat) (h : j < q.length) : (q.map (· + a)).take (j + 1) = (q.map (· + a)).take j ++ [q.getD j 0 + a] := by
  rw [List.take_add_one]
  simp [List.getD, h]

set_option maxRecDepth 100000 in
set_option maxHeartbeats 4000000 in
theorem siPut_any (p q : List Int) (a : Nat) (ha : a ≤ p.length) (hl : p.length + q.length ≤ 12) (hrp : ∀ k, k < p.length → 0 ≤ p.getD k 0 ∧ p.getD k 0 < 12) (hrq : ∀ k, k < q.length → 0 ≤ q.getD k 0 ∧ q.getD k 0 < 12) (w : World) (u v : Value) (hu : Rd w u p) (hv : Rd w v q) :
    Calls Try.prog 58 #[u, .int .i64 (a : Int), v] w (Made w (insL p a q)) := by
  obtain ⟨a1, c1, rfl, hc1, hm1, _, hd1⟩ := hu
  obtain ⟨a2, c2, rfl, hc2, hm2, _, hd2⟩ := hv
  unfold maxLen at hm1 hm2
  have HPL := Lib.hid (fun k => preK_len p a q k)
  have HPR := Lib.hid (fun k => insK_pre p a q k)
  have HNX : Hid (∀ k, preK p a q (k + 1) = insK p a q k ++ [widen a q.length (p.getD k 0)]) := fun k => rfl
  have HTM := Lib.hid (fun j h => take_mapS q (a : Int) j h)
  have HIL := Lib.hid (fun k => insK_len p a q k)
  have hE : insL p a q = insK p a q p.length := rfl
  have hP0 : preK p a q 0 = [] := rfl
  have hML : (q.map (· + (a : Int))).length = q.length := List.length_map _
  rw [hE]
  have HD1 := Lib.hid hd1; have HD2 := Lib.hid hd2; have HRP := Lib.hid hrp; have HRQ := Lib.hid hrq
  clear hd1 hd2 hrp hrq hE
  generalize insK p a q = IK at *
  generalize preK p a q = PK at *
  generalize q.map (· + (a : Int)) = QM at *
  generalize hn : p.length = n at *
  generalize hm : q.length = m at *
  have HN := Lib.hid hn; have HM := Lib.hid hm; have HML := Lib.hid hML
  clear hn hm hML
  go_enter Try.func58, Try.ntmps58
  go_wp2
  go_loopw [7, 8] (fun o i wr => ∃ k : Nat, k ≤ n ∧ i = .int .i64 (k : Int) ∧ Own w.heap.size wr o (PK k) ∧ Below w.heap.size w wr) (fun _ i _ => n - (intOf i).toNat)
  case atStart => exact ⟨0, by omega, rfl, by rw [hP0]; exact Own.nil _ _, Below.refl _ _⟩
  case round =>
    obtain ⟨k, hk, rfl, hown, hbel⟩ := hrel
    have hsz := hbel.size
    have hpl := HPL.out k
    have hpr := HPR.out k
    have hil := HIL.out k
    have hnx := HNX.out k
    by_cases hka : a = k
    · subst hka
      rw [if_pos rfl] at hpr
      generalize PK a = S at *
      have HO := Lib.hid hown; have HBE := Lib.hid hbel; have HPK := Lib.hid hpr; have HNX1 := Lib.hid hnx; have HSL := Lib.hid hpl; have HIL1 := Lib.hid hil
      clear hown hbel hpr hnx hpl hil
      go_wp2_with fail
      go_loopw [7, 23] (fun o x wx => ∃ j : Nat, j ≤ m ∧ x = .int .i64 (j : Int) ∧ Own w.heap.size wx o (S ++ QM.take j) ∧ Below w.heap.size w wx) (fun _ x _ => m - (intOf x).toNat)
      case atStart => exact ⟨0, by omega, rfl, by simpa using HO.out, HBE.out⟩
      case round =>
        obtain ⟨j, hj, rfl, hown, hbel⟩ := hrel
        clear HO HBE
        generalize wr = wx at *
        have hsz := hbel.size
        by_cases hjt : j < m
        · rcases HD2.out with h0 | ⟨g2, o2, rfl, hcell2⟩
          · exfalso; have := HM.out; rw [h0] at this; simp at this; omega
          have hsrc : wx.cell? ⟨g2, o2 + j, none⟩ = some (.int .i64 (q.getD j 0)) := by
            have := hcell2 j (by omega)
            exact (hbel.cell (p := ⟨g2, o2 + j, none⟩) (World.block_lt_of_cell? w _ this)).trans this
          have hx := HRQ.out j hjt
          have htk := HTM.out j hjt
          have hln : (S ++ QM.take j).length ≤ 100 := by rw [List.length_append, List.length_take]; have := HSL.out; omega
          generalize q.getD j 0 = x at *
          have HTK := Lib.hid (show S ++ QM.take (j + 1) = (S ++ QM.take j) ++ [x + (a : Int)] by rw [htk, List.append_assoc]); have HL := Lib.hid hln
          clear htk hcell2 hln
          generalize S ++ QM.take j = R at *
          go_wp2_with (at_builtin; refine wp_append _ rfl _ _ rfl w.heap.size _ _ R [x + (a : Int)] rfl rfl (Own.below hown (Below.alloc1 _ _)) (Own.rd (Own.lit1 _ _ _ (Nat.le_refl _))) (by have := HL.out; simp; omega) (by simp; omega) ?_; intro v' w2 hown2 hgr hbel2; rw [← HTK.out] at hown2; have hbel3 := (hbel.alloc hsz _).trans hbel2; clear hgr hbel2)
          go_roundw
          case rel => exact ⟨j + 1, by omega, by go_num, hown2, hbel3⟩
          case measure => simp [intOf]; omega
        · obtain rfl : j = m := by omega
          rw [List.take_of_length_le (by rw [HML.out]; exact Nat.le_refl _), ← HPK.out] at hown
          have hnx := HNX1.out; have hil := HIL1.out
          clear HNX1 HIL1 HPK HSL
          by_cases hkn : a = n
          · subst hkn
            go_wp2
            go_ret
            exact ⟨_, rfl, hown, hbel⟩
          · have hnb : ((a : Int) == (n : Int)) = false := by simp; omega
            have hnb2 : (a == n) = false := by simp; omega
            rcases HD1.out with h0 | ⟨g1, o1, rfl, hcell1⟩
            · exfalso; have := HN.out; rw [h0] at this; simp at this; omega
            have hsrc : wx.cell? ⟨g1, o1 + a, none⟩ = some (.int .i64 (p.getD a 0)) := by
              have := hcell1 a (by omega)
              exact (hbel.cell (p := ⟨g1, o1 + a, none⟩) (World.block_lt_of_cell? w _ this)).trans this
            have hx := HRP.out a (by omega)
            generalize p.getD a 0 = x at *
            clear hcell1
            have HL := Lib.hid hil
            clear hil
            generalize IK a = R at *
            by_cases hxa : (a : Int) ≤ x
            · have hw : widen a j x = x + (j : Int) := by unfold widen; rw [if_pos hxa]
              rw [hw] at hnx
              have HNX2 := Lib.hid hnx; clear hnx hw
              have hxd : decide ((a : Int) ≤ x) = true := decide_eq_true hxa
              go_wp2_with (at_builtin; refine wp_append _ rfl _ _ rfl w.heap.size _ _ R [x + (j : Int)] rfl rfl (Own.below hown (Below.alloc1 _ _)) (Own.rd (Own.lit1 _ _ _ (Nat.le_refl _))) (by have := HL.out; simp; omega) (by simp; omega) ?_; intro v' w2 hown2 hgr hbel2; rw [← HNX2.out] at hown2; have hbel3 := (hbel.alloc hsz _).trans hbel2; clear hgr hbel2)
              go_roundw
              case rel => exact ⟨a + 1, by omega, by go_num, hown2, hbel3⟩
              case measure => simp [intOf]; omega
            · have hw : widen a j x = x := by unfold widen; rw [if_neg hxa]
              rw [hw] at hnx
              have HNX2 := Lib.hid hnx; clear hnx hw
              have hxd : decide ((a : Int) ≤ x) = false := decide_eq_false hxa
              go_wp2_with (at_builtin; refine wp_append _ rfl _ _ rfl w.heap.size _ _ R [x] rfl rfl (Own.below hown (Below.alloc1 _ _)) (Own.rd (Own.lit1 _ _ _ (Nat.le_refl _))) (by have := HL.out; simp; omega) (by simp; omega) ?_; intro v' w2 hown2 hgr hbel2; rw [← HNX2.out] at hown2; have hbel3 := (hbel.alloc hsz _).trans hbel2; clear hgr hbel2)
              go_roundw
              case rel => exact ⟨a + 1, by omega, by go_num, hown2, hbel3⟩
              case measure => simp [intOf]; omega
    · rw [if_neg hka, List.append_nil] at hpr
      rw [← hpr] at hown
      have hkb : ((k : Int) == (a : Int)) = false := by simp; omega
      have hkb2 : (k == a) = false := by simp; omega
      have hkb3 : ¬ k = a := fun e => hka e.symm
      clear hpr hpl
      by_cases hkn : k = n
      · subst hkn
        go_wp2
        go_ret
        exact ⟨_, rfl, hown, hbel⟩
      · have hnb : ((k : Int) == (n : Int)) = false := by simp; omega
        have hnb2 : (k == n) = false := by simp; omega
        rcases HD1.out with h0 | ⟨g1, o1, rfl, hcell1⟩
        · exfalso; have := HN.out; rw [h0] at this; simp at this; omega
        have hsrc : wr.cell? ⟨g1, o1 + k, none⟩ = some (.int .i64 (p.getD k 0)) := by
          have := hcell1 k (by omega)
          exact (hbel.cell (p := ⟨g1, o1 + k, none⟩) (World.block_lt_of_cell? w _ this)).trans this
        have hx := HRP.out k (by omega)
        generalize p.getD k 0 = x at *
        clear hcell1
        have HL := Lib.hid hil
        clear hil
        generalize IK k = R at *
        by_cases hxa : (a : Int) ≤ x
        · have hw : widen a m x = x + (m : Int) := by unfold widen; rw [if_pos hxa]
          rw [hw] at hnx
          have HNX2 := Lib.hid hnx; clear hnx hw
          have hxd : decide ((a : Int) ≤ x) = true := decide_eq_true hxa
          go_wp2_with (at_builtin; refine wp_append _ rfl _ _ rfl w.heap.size _ _ R [x + (m : Int)] rfl rfl (Own.below hown (Below.alloc1 _ _)) (Own.rd (Own.lit1 _ _ _ (Nat.le_refl _))) (by have := HL.out; simp; omega) (by simp; omega) ?_; intro v' w2 hown2 hgr hbel2; rw [← HNX2.out] at hown2; have hbel3 := (hbel.alloc hsz _).trans hbel2; clear hgr hbel2)
          go_roundw
          case rel => exact ⟨k + 1, by omega, by go_num, hown2, hbel3⟩
          case measure => simp [intOf]; omega
        · have hw : widen a m x = x := by unfold widen; rw [if_neg hxa]
          rw [hw] at hnx
          have HNX2 := Lib.hid hnx; clear hnx hw
          have hxd : decide ((a : Int) ≤ x) = false := decide_eq_false hxa
          go_wp2_with (at_builtin; refine wp_append _ rfl _ _ rfl w.heap.size _ _ R [x] rfl rfl (Own.below hown (Below.alloc1 _ _)) (Own.rd (Own.lit1 _ _ _ (Nat.le_refl _))) (by have := HL.out; simp; omega) (by simp; omega) ?_; intro v' w2 hown2 hgr hbel2; rw [← HNX2.out] at hown2; have hbel3 := (hbel.alloc hsz _).trans hbel2; clear hgr hbel2)
          go_roundw
          case rel => exact ⟨k + 1, by omega, by go_num, hown2, hbel3⟩
          case measure => simp [intOf]; omega

/-- what the closure of 'with' reads: a number and the size of a system -/
def Cap (w : World) (gi gs : Nat) (a m : Int) : Prop := w.cell? ⟨gi, 0, none⟩ = some (.int .i64 a) ∧ w.cell? ⟨gs, 12, none⟩ = some (.int .i64 m)
theorem Cap.below {w w' : World} {gi gs : Nat} {a m : Int} (h : Cap w gi gs a m) (hb : Below w.heap.size w w') : Cap w' gi gs a m :=
  ⟨(hb.cell (p := ⟨gi, 0, none⟩) (World.block_lt_of_cell? w _ h.1)).trans h.1, (hb.cell (p := ⟨gs, 12, none⟩) (World.block_lt_of_cell? w _ h.2)).trans h.2⟩
theorem Cap.grown {w w' : World} {gi gs b : Nat} {a m : Int} (h : Cap w gi gs a m) (hg : w.grownBy w' (some b)) (h1 : gi ≠ b) (h2 : gs ≠ b) : Cap w' gi gs a m :=
  ⟨by rw [World.cell?_of_block (a := ⟨gi, 0, none⟩) (hg.block gi (World.block_lt_of_cell? w _ h.1) (by simp; exact h1))]; exact h.1, by rw [World.cell?_of_block (a := ⟨gs, 12, none⟩) (hg.block gs (World.block_lt_of_cell? w _ h.2) (by simp; exact h2))]; exact h.2⟩
theorem Cap.set {w : World} {gi gs b j : Nat} {a m : Int} (h : Cap w gi gs a m) (h1 : gi ≠ b) (h2 : gs ≠ b) (v : Value) : Cap (w.setCell ⟨b, j, none⟩ v) gi gs a m :=
  ⟨by rw [World.cell?_of_block (a := ⟨gi, 0, none⟩) (heap_setCell_other w ⟨b, j, none⟩ gi v h1)]; exact h.1, by rw [World.cell?_of_block (a := ⟨gs, 12, none⟩) (heap_setCell_other w ⟨b, j, none⟩ gs v h2)]; exact h.2⟩
set_option maxHeartbeats 1000000 in
theorem with1_any (i : Int) (a m : Nat) (gi gs : Nat) (w : World) (h : Cap w gi gs (a : Int) (m : Int)) (hi0 : 0 ≤ i) (hi1 : i ≤ 100) (hm : m ≤ 100) :
    Calls Try.prog 77 #[.int .i64 i, .pointer (some ⟨gi, 0, none⟩), .pointer (some ⟨gs, 0, none⟩)] w (IntOut w (widen a m i)) := by
  obtain ⟨c1, c2⟩ := h
  unfold widen
  by_cases hx : (a : Int) ≤ i
  · rw [if_pos hx]
    have hd : decide ((a : Int) ≤ i) = true := decide_eq_true hx
    go_enter Try.func77, Try.ntmps77
    go_wp2
    go_ret
    exact ⟨rfl, Below.refl _ _⟩
  · rw [if_neg hx]
    have hd : decide ((a : Int) ≤ i) = false := decide_eq_false hx
    go_enter Try.func77, Try.ntmps77
    go_wp2
    go_ret
    exact ⟨rfl, Below.refl _ _⟩
set_option maxHeartbeats 2000000 in
theorem draw_with (b : Nat) (gi gs : Nat) (a m : Int) (f : Int → Int) (l o : List Int) (w : World) (hcap : Cap w gi gs a m) (hne1 : gi ≠ b) (hne2 : gs ≠ b) (h : SysIn w b l) (hl : l.length ≤ 12) (ho : o.length ≤ 12)
    (hp : 0 < o.length → ∀ (i : Int) (w : World), 0 ≤ i → i < 12 → Cap w gi gs a m → Calls Try.prog 77 #[.int .i64 i, .pointer (some ⟨gi, 0, none⟩), .pointer (some ⟨gs, 0, none⟩)] w (IntOut w (f i)))
    (hr : ∀ k, k < o.length → 0 ≤ o.getD k 0 ∧ o.getD k 0 < 12) (hf : ∀ k : Nat, k < o.length → 0 ≤ f (k : Int) ∧ f (k : Int) < l.length) :
    Calls Try.prog 76 #[.pointer (some ⟨b, 0, none⟩), .agg (sysC o), .func (.func 77) #[] #[.pointer (some ⟨gi, 0, none⟩), .pointer (some ⟨gs, 0, none⟩)]] w (TurnedJ w b (drawL f l o o.length)) := by
  have hbw := h.lt
  have hlast := sysC_last ho
  obtain ⟨n, hn⟩ : ∃ n, n = o.length := ⟨_, rfl⟩
  rw [← hn] at hlast ho hr hf hp ⊢
  have hbox : SysIn (w.alloc (.cells (sysC o) 54)) w.heap.size o := heap_alloc_new w _
  have h1 : SysIn (w.alloc (.cells (sysC o) 54)) b l := h.below (Below.alloc1 _ _)
  have hg1 : w.grownBy (w.alloc (.cells (sysC o) 54)) (some b) := World.grownBy_alloc w _ _
  have HC0 := Lib.hid (hcap.below (Below.alloc1 w (.cells (sysC o) 54)))
  have HN := Lib.hid hn; have HR := Lib.hid hr; have HF := Lib.hid hf; have HBX := Lib.hid hbox; have H1 := Lib.hid h1; have HG1 := Lib.hid hg1; have HL := Lib.hid hl; have HP := Lib.hid hp; have HB := Lib.hid hbw
  have hal := fun b w => run_mates b n w ho
  clear hn hr hf hbox h1 hg1 h hl hp hbw hcap
  go_enter Try.func76, Try.ntmps76
  go_wp2
  clear hal
  go_loopw [13] (fun i wr => ∃ k : Nat, k ≤ n ∧ i = .int .i64 k ∧ SysIn wr b (drawL f l o k) ∧ SysIn wr w.heap.size o ∧ w.grownBy wr (some b) ∧ Cap wr gi gs a m) (fun i _ => n - (intOf i).toNat)
  case atStart => exact ⟨0, by omega, rfl, H1.out, HBX.out, HG1.out, HC0.out⟩
  case round =>
    obtain ⟨k, hk, rfl, hsys, hbx, hgr, hcap⟩ := hrel
    by_cases hlt : k < n
    · have hc := hbx.cell (by rw [← HN.out]; exact ho) k (by omega)
      have hx := HR.out k hlt
      have hf1 := HF.out k hlt
      have hLL := Lib.hid (drawL_length f l o k)
      have hp1 := fun w hc => HP.out (by omega) (k : Int) w (by omega) (by omega) hc
      have hp2 := fun w hc => HP.out (by omega) (o.getD k 0) w hx.1 hx.2 hc
      have hnext : drawL f l o (k + 1) = (drawL f l o k).set (f (k : Int)).toNat (f (o.getD k 0)) := rfl
      generalize f (o.getD k 0) = y at hp2 hnext
      generalize o.getD k 0 = x at hc hx hp2
      obtain ⟨j, hj⟩ := Int.eq_ofNat_of_zero_le hf1.1
      rw [hj] at hp1 hnext hf1
      rw [Int.toNat_natCast] at hnext
      have hj12 : j < 12 := by have := HL.out; omega
      have HJ : Hid (j < (drawL f l o k).length) := by show j < _; rw [hLL.out]; omega
      have HP1 := Lib.hid hp1; have HP2 := Lib.hid hp2; have HNX := Lib.hid hnext
      clear hp1 hp2 hnext hj hf1
      have HBX := Lib.hid hbx; have HGR := Lib.hid hgr; have HCP := Lib.hid (show Cap wr.drew gi gs a m from hcap); clear hbx hgr hcap HC0
      go_wp2
      generalize wr = wr0 at *
      have hcap := HCP.out
      go_region_with (first
        | (go_at_call 77; ((with_reducible refine (HP1.out _ (by assumption)).mono ?_); rintro e w' ⟨rfl, hb'⟩; have hs' : SysIn w' b (drawL f l o k) := SysIn.below (by assumption) hb'; have c' := hs'.cell (by rw [hLL.out]; exact HL.out) j hj12; have f' := hs'.free j; have hcap' : Cap w' gi gs a m := Cap.below (by assumption) hb'))
        | (go_at_call 77; ((with_reducible refine (HP2.out _ (by assumption)).mono ?_); rintro e w' ⟨rfl, hb'⟩; have hs' : SysIn w' b (drawL f l o k) := SysIn.below (by assumption) hb'; have c' := hs'.cell (by rw [hLL.out]; exact HL.out) j hj12; have f' := hs'.free j; have hcap' : Cap w' gi gs a m := Cap.below (by assumption) hb')))
      obtain ⟨wm, hb0, hb2⟩ : ∃ wm, Below wr0.drew.heap.size wr0.drew wm ∧ Below wm.heap.size wm w' := ⟨_, (by assumption), hb'⟩
      have hb1 : Below wr0.heap.size wr0 wm := ((Below.refl _ wr0).drew).trans hb0
      have HG2 := Lib.hid (next_grown HGR.out hb1 hb2 (j := j) (v := .int .i64 y))
      have HX2 := Lib.hid (next_box (SysIn.below HBX.out (Below.step hb1 hb2)) HB.out (j := j) (v := .int .i64 y))
      have HS2 := Lib.hid (hs'.stored j y HJ.out)
      rw [← HNX.out] at HS2
      have HC2 := Lib.hid (Cap.set hcap' hne1 hne2 (j := j) (.int .i64 y))
      go_wp2
      go_roundw
      case rel => exact ⟨k + 1, by omega, by go_num, HS2.out, HX2.out, HG2.out, HC2.out⟩
      case measure => simp [intOf]; omega
    · obtain rfl : k = n := by omega
      go_wp2
      go_end0
      exact ⟨rfl, hsys, hgr⟩

theorem results_with (tmps : Array Value) (w : World) (g : Nat) (l : List Int) (hl : l.length ≤ 12) (hg : SysIn w g l) (h6 : tmps.getD 6 undef = .pointer (some ⟨g, 0, none⟩)) :
    (results Try.f59 tmps).run Try.prog w = .ok (.agg (sysC l)) w := by
  have h6' : tmps[6]?.getD undef = .pointer (some ⟨g, 0, none⟩) := by simpa using h6
  have hr : Try.f59.results = #[.cell 6 54] := by kernel_rfl
  simp [results, hr, h6', asAddr, run_loadSys w g l hl hg]
structure WithS (w : World) (p q : List Int) (a : Int) (W : World) : Prop where
  fst : SysIn W w.heap.size p
  snd : SysIn W (w.heap.size + 1) q
  num : W.cell? ⟨w.heap.size + 1 + 1, 0, none⟩ = some (.int .i64 a)
  res : SysIn W (w.heap.size + 1 + 1 + 1) []
  bel : Below w.heap.size w W
theorem WithS.below {w W W' : World} {p q : List Int} {a : Int} (h : WithS w p q a W) (hb : Below W.heap.size W W') : WithS w p q a W' :=
  ⟨h.fst.below hb, h.snd.below hb, (hb.cell (p := ⟨w.heap.size + 1 + 1, 0, none⟩) (World.block_lt_of_cell? W _ h.num)).trans h.num, h.res.below hb, Below.step h.bel hb⟩
theorem WithS.grown {w W W' : World} {p q : List Int} {a : Int} {b : Nat} (h : WithS w p q a W) (hg : W.grownBy W' (some b)) (hb : w.heap.size + 1 + 1 + 1 < b) : WithS w p q a W' :=
  ⟨h.fst.grown hg (by omega), h.snd.grown hg (by omega), by rw [World.cell?_of_block (a := ⟨w.heap.size + 1 + 1, 0, none⟩) (hg.block _ (World.block_lt_of_cell? W _ h.num) (by simp; omega))]; exact h.num, h.res.grown hg (by omega), h.bel.grown hg h.bel.size (by intro k hk; simp at hk; omega)⟩
theorem WithS.new (w : World) (p q : List Int) (a : Int) : WithS w p q a ((((w.alloc (.cells (sysC p) 54)).alloc (.cells (sysC q) 54)).alloc (.cells #[.int .i64 a] 3)).alloc (.cells #[.int .i64 0, .int .i64 0, .int .i64 0, .int .i64 0, .int .i64 0, .int .i64 0, .int .i64 0, .int .i64 0, .int .i64 0, .int .i64 0, .int .i64 0, .int .i64 0, .int .i64 0] 54)) := by
  have b1 := Below.alloc1 w (.cells (sysC p) 54)
  have b2 := Below.alloc1 (w.alloc (.cells (sysC p) 54)) (.cells (sysC q) 54)
  have b3 := Below.alloc1 ((w.alloc (.cells (sysC p) 54)).alloc (.cells (sysC q) 54)) (.cells #[.int .i64 a] 3)
  have b4 := Below.alloc1 (((w.alloc (.cells (sysC p) 54)).alloc (.cells (sysC q) 54)).alloc (.cells #[.int .i64 a] 3)) (.cells #[.int .i64 0, .int .i64 0, .int .i64 0, .int .i64 0, .int .i64 0, .int .i64 0, .int .i64 0, .int .i64 0, .int .i64 0, .int .i64 0, .int .i64 0, .int .i64 0, .int .i64 0] 54)
  have s1 : SysIn (w.alloc (.cells (sysC p) 54)) w.heap.size p := heap_alloc_new w _
  have s2 : SysIn ((w.alloc (.cells (sysC p) 54)).alloc (.cells (sysC q) 54)) (w.alloc (.cells (sysC p) 54)).heap.size q := heap_alloc_new _ _
  have s3 := heap_alloc_new ((w.alloc (.cells (sysC p) 54)).alloc (.cells (sysC q) 54)) (.cells #[.int .i64 a] 3)
  have s4 : SysIn ((((w.alloc (.cells (sysC p) 54)).alloc (.cells (sysC q) 54)).alloc (.cells #[.int .i64 a] 3)).alloc (.cells (sysC []) 54)) (((w.alloc (.cells (sysC p) 54)).alloc (.cells (sysC q) 54)).alloc (.cells #[.int .i64 a] 3)).heap.size [] := heap_alloc_new _ _
  have s3' : (((w.alloc (.cells (sysC p) 54)).alloc (.cells (sysC q) 54)).alloc (.cells #[.int .i64 a] 3)).cell? ⟨((w.alloc (.cells (sysC p) 54)).alloc (.cells (sysC q) 54)).heap.size, 0, none⟩ = some (.int .i64 a) := by rw [cell_of_row _ _ 0 _ _ _ s3]; rfl
  simp only [World.size_alloc] at s2 s3' s4
  exact ⟨((s1.below b2).below b3).below b4, (s2.below b3).below b4, (b4.cell (p := ⟨w.heap.size + 1 + 1, 0, none⟩) (World.block_lt_of_cell? _ _ s3')).trans s3', s4, Below.step (Below.step (Below.step b1 b2) b3) b4⟩
set_option maxRecDepth 100000 in
set_option maxHeartbeats 8000000 in
theorem with_any (p q : List Int) (a : Nat) (gp : goodB p = true) (gq : goodB q = true) (ha : a ≤ p.length) (hl : p.length + q.length ≤ 12) (w : World) :
    Calls Try.prog 59 #[.agg (sysC p), .agg (sysC q), .int .i64 (a : Int)] w (SysOut w (insL p a q)) := by
  have hrg : ∀ l : List Int, goodB l = true → ∀ k, k < l.length → 0 ≤ l.getD k 0 ∧ l.getD k 0 < 12 := fun l h k hk => by have := (good_facts h).2.2.1 k hk; have := good_len' h; omega
  have hrp := hrg p gp; have hrq := hrg q gq
  have hdr := ins_drawn gp gq ha hl
  have hfp : ∀ k : Nat, k < p.length → 0 ≤ widen a q.length (k : Int) ∧ widen a q.length (k : Int) < (List.replicate (p.length + q.length) (0 : Int)).length := by
    intro k hk
    rw [List.length_replicate]
    unfold widen
    split <;> omega
  have hl1 : ((drawL (widen a q.length) (List.replicate (p.length + q.length) 0) p p.length)).length = p.length + q.length := by rw [drawL_length, List.length_replicate]
  have hfq : ∀ k : Nat, k < q.length → 0 ≤ shiftTo (a : Int) ((p.length : Int) + (q.length : Int)) (k : Int) ∧ shiftTo (a : Int) ((p.length : Int) + (q.length : Int)) (k : Int) < ((drawL (widen a q.length) (List.replicate (p.length + q.length) 0) p p.length)).length := by
    intro k hk
    rw [hl1]
    have := shiftTo_in (a : Int) ((p.length : Int) + (q.length : Int)) (k : Int) (by omega)
    omega
  have hpl1 : ∀ (gi gs : Nat) (i : Int) (w : World), 0 ≤ i → i < 12 → Cap w gi gs (a : Int) ((q.length : Nat) : Int) → Calls Try.prog 77 #[.int .i64 i, .pointer (some ⟨gi, 0, none⟩), .pointer (some ⟨gs, 0, none⟩)] w (IntOut w (widen a q.length i)) :=
    fun gi gs i w h0 h1 hc => with1_any i a q.length gi gs w hc h0 (by omega) (by omega)
  have hpl2 : 0 < q.length → ∀ (i : Int) (w : World), 0 ≤ i → i < 12 → Calls Try.prog 78 #[.agg #[.int .i64 (a : Int), .int .i64 ((p.length : Int) + (q.length : Int))], .int .i64 i] w (IntOut w (shiftTo (a : Int) ((p.length : Int) + (q.length : Int)) i)) :=
    fun h0 i w h1 h2 => shift_place (a : Int) ((p.length : Int) + (q.length : Int)) i w (by omega) (by omega) (by omega) (by omega) h1 (by omega)
  have hil := insL_length (p := p) (i := a) q ha
  have LP : Hid (p.length ≤ 12) := by show _ ≤ _; omega
  have LQ : Hid (q.length ≤ 12) := by show _ ≤ _; omega
  have HW := Lib.hid (WithS.new w p q (a : Int))
  have z0 := (WithS.new w p q (a : Int)).fst.size LP.out; have z1 := (WithS.new w p q (a : Int)).snd.size LQ.out
  generalize insL p a q = L at *
  generalize hD : drawL (widen a q.length) (List.replicate (p.length + q.length) 0) p p.length = D at *
  have HDD := Lib.hid hD; have HDR := Lib.hid hdr; have HFP := Lib.hid hfp; have HFQ := Lib.hid hfq; have HP1 := Lib.hid hpl1; have HP2 := Lib.hid hpl2
  have HRP := Lib.hid hrp; have HRQ := Lib.hid hrq
  have HDL : Hid (D.length ≤ 12) := by show _ ≤ _; omega
  have HLL : Hid (L.length ≤ 12) := by show _ ≤ _; omega
  have hD1 := hl1
  clear hrg hrp hrq hdr hfp hfq hpl1 hpl2 hl1 hil hD gp gq
  obtain ⟨n, hn⟩ : ∃ n, n = p.length := ⟨_, rfl⟩
  obtain ⟨m, hm⟩ : ∃ m, m = q.length := ⟨_, rfl⟩
  have HDE : Hid ((D.length : Int) = (n : Int) + (m : Int)) := by show (D.length : Int) = _; omega
  rw [← hn] at HDD HDR HFP HFQ HP2 z0 ha hl HRP
  rw [← hm] at HDD HDR HFP HFQ HP1 HP2 z1 hl HRQ
  have HN := Lib.hid hn; have HM := Lib.hid hm
  clear hn hm hD1
  have hbl := SysIn.blank ((((w.alloc (.cells (sysC p) 54)).alloc (.cells (sysC q) 54)).alloc (.cells #[.int .i64 (a : Int)] 3)).alloc (.cells #[.int .i64 0, .int .i64 0, .int .i64 0, .int .i64 0, .int .i64 0, .int .i64 0, .int .i64 0, .int .i64 0, .int .i64 0, .int .i64 0, .int .i64 0, .int .i64 0, .int .i64 0] 54)) (n + m) ((n : Int) + (m : Int)) (by omega) (by omega)
  simp only [World.size_alloc] at hbl
  have HW5 := Lib.hid (HW.out.below (Below.alloc1 _ (.cells #[.int .i64 0, .int .i64 0, .int .i64 0, .int .i64 0, .int .i64 0, .int .i64 0, .int .i64 0, .int .i64 0, .int .i64 0, .int .i64 0, .int .i64 0, .int .i64 0, .int .i64 ((n : Int) + (m : Int))] 54)))
  have HBL := Lib.hid hbl
  have hsz5 := HW5.out.res.lt
  clear hbl HW
  have HCAP : Hid (Cap ((((((w.alloc (.cells (sysC p) 54)).alloc (.cells (sysC q) 54)).alloc (.cells #[.int .i64 (a : Int)] 3)).alloc (.cells #[.int .i64 0, .int .i64 0, .int .i64 0, .int .i64 0, .int .i64 0, .int .i64 0, .int .i64 0, .int .i64 0, .int .i64 0, .int .i64 0, .int .i64 0, .int .i64 0, .int .i64 0] 54)).alloc (.cells #[.int .i64 0, .int .i64 0, .int .i64 0, .int .i64 0, .int .i64 0, .int .i64 0, .int .i64 0, .int .i64 0, .int .i64 0, .int .i64 0, .int .i64 0, .int .i64 0, .int .i64 ((n : Int) + (m : Int))] 54))) (w.heap.size + 1 + 1) (w.heap.size + 1) (a : Int) ((m : Nat) : Int)) := ⟨HW5.out.num, by have := HW5.out.snd.size LQ.out; rw [← HM.out] at this; exact this⟩
  have HRL : Hid ((List.replicate (n + m) (0 : Int)).length ≤ 12) := by show (List.replicate (n + m) (0 : Int)).length ≤ 12; simp; omega
  have HFP2 : Hid (∀ k : Nat, k < p.length → 0 ≤ widen a m (k : Int) ∧ widen a m (k : Int) < (List.replicate (n + m) (0 : Int)).length) := by rw [← HN.out]; exact HFP
  have HRP2 : Hid (∀ k, k < p.length → 0 ≤ p.getD k 0 ∧ p.getD k 0 < 12) := by rw [← HN.out]; exact HRP
  have HFQ2 : Hid (∀ k : Nat, k < q.length → 0 ≤ shiftTo (a : Int) ((n : Int) + (m : Int)) (k : Int) ∧ shiftTo (a : Int) ((n : Int) + (m : Int)) (k : Int) < D.length) := by rw [← HM.out]; exact HFQ
  have HRQ2 : Hid (∀ k, k < q.length → 0 ≤ q.getD k 0 ∧ q.getD k 0 < 12) := by rw [← HM.out]; exact HRQ
  clear HFP HRP HFQ HRQ
  go_enter Try.func59, Try.ntmps59
  go_wp2_with (first
    | (with_reducible refine wp_loadSys rfl (.tmp 3) rfl w.heap.size p LP.out rfl HW5.out.fst ?_)
    | (go_at_call_of 76 (Value.agg (sysC p)); ((with_reducible refine (draw_with _ _ _ _ _ (widen a m) _ p _ HCAP.out (by omega) (by omega) HBL.out HRL.out LP.out (fun _ => HP1.out _ _) HRP2.out HFP2.out).mono ?_); rintro e w6 ⟨rfl, hs6, hg6⟩; rw [← HN.out, HDD.out] at hs6; have HW6 := Lib.hid (HW5.out.grown hg6 (by omega)); have HS6 := Lib.hid hs6; have z5 := HW6.out.num; have z6 : w6.cell? ⟨w.heap.size + 1 + 1 + 1 + 1, 12, none⟩ = some (.int .i64 ((n : Int) + (m : Int))) := (by rw [← HDE.out]; exact hs6.size HDL.out); clear hs6 hg6))
    | (with_reducible refine wp_loadSys rfl (.tmp 4) rfl (w.heap.size + 1) q LQ.out rfl HW6.out.snd ?_)
    | (go_at_call_of 76 (Value.agg (sysC q)); ((with_reducible refine (draw_shift _ (shiftTo (a : Int) ((n : Int) + (m : Int))) _ D q _ HS6.out HDL.out LQ.out (fun h0 => HP2.out (by rw [HM.out]; exact h0)) HRQ2.out HFQ2.out).mono ?_); rintro e w7 ⟨rfl, hs7, hg7⟩; rw [← HM.out, HDR.out] at hs7; have HW7 := Lib.hid (HW6.out.grown hg7 (by omega)); have HS7 := Lib.hid hs7; clear hs7 hg7))
    | (with_reducible refine wp_loadSys rfl (.tmp 7) rfl (w.heap.size + 1 + 1 + 1 + 1) L HLL.out rfl HS7.out ?_)
    | ((with_reducible refine wp_storeSys rfl (.tmp 6) (.tmp 24) rfl (w.heap.size + 1 + 1 + 1) L [] HLL.out (Nat.zero_le _) rfl rfl HW7.out.res ?_); intro w8 hs8 hg8))
  exact bodyPost_ret (results_with _ _ (w.heap.size + 1 + 1 + 1) L HLL.out hs8 rfl) rfl ⟨rfl, HW7.out.bel.grown hg8 HW7.out.bel.size (by intro k hk; simp at hk; omega)⟩

end Go.Proofs.Ytaeeopdiodaiaaa
