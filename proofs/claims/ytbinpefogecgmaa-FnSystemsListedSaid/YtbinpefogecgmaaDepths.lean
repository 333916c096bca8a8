/- DepthsOf. -/
import Derived.Test.YtbinpefogecgmaaPoints
import Derived.Test.YtbinpefogecgmaaEnum
import Derived.Test.YtbinpefogecgmaaJoin
namespace Go.Proofs.Ytbinpefogecgmaa
open Go.RowKit
set_option linter.unusedSimpArgs false
set_option linter.unusedVariables false

/-- how many arches are over each, by the points where they begin -/
def depthsI (l : List Int) : List Int := (whereL (beginsB l) l.length).map fun i => (overN l i i.toNat : Int)
def depthOver (l : List Int) : Nat → Int
  | 0 => 0
  | k + 1 => if (k : Int) < l.getD k 0 then depthOver l k + 1 else depthOver l k - 1
def depthS (l : List Int) : Nat → List Int
  | 0 => []
  | k + 1 => if (k : Int) < l.getD k 0 then depthS l k ++ [depthOver l k] else depthS l k
theorem depthOver_in (l : List Int) : ∀ k : Nat, -(k : Int) ≤ depthOver l k ∧ depthOver l k ≤ (k : Int)
  | 0 => by simp [depthOver]
  | k + 1 => by have := depthOver_in l k; unfold depthOver; split <;> omega
theorem depthS_len (l : List Int) : ∀ k, (depthS l k).length ≤ k
  | 0 => Nat.le_refl _
  | k + 1 => by have := depthS_len l k; unfold depthS; split <;> simp <;> omega
def depthCheck (l : List Int) : Bool := depthS l l.length == depthsI l
theorem depthCheck0 : (sysAll 0).all depthCheck = true := by kernel_rfl
theorem depthCheck1 : (sysAll 1).all depthCheck = true := by kernel_rfl
theorem depthCheck2 : (sysAll 2).all depthCheck = true := by kernel_rfl
theorem depthCheck3 : (sysAll 3).all depthCheck = true := by kernel_rfl
theorem depthCheck4 : (sysAll 4).all depthCheck = true := by kernel_rfl
theorem depthCheck5 : (sysAll 5).all depthCheck = true := by kernel_rfl
theorem depthCheck6 : (sysAll 6).all depthCheck = true := by kernel_rfl

theorem whereL_mem (c : Int → Bool) : ∀ k x, x ∈ whereL c k → 0 ≤ x ∧ x < (k : Int)
  | 0, x, h => by simp [whereL] at h
  | k + 1, x, h => by
    simp only [whereL, List.mem_append] at h
    rcases h with h | h
    · have := whereL_mem c k x h; omega
    · split at h
      · simp at h; omega
      · simp at h

def res_DepthsOf (l : List Int) : List Int := if goodB l then depthsI l else []
def ok_DepthsOf (l : List Int) : Bool := goodB l
theorem len_DepthsOf (l : List Int) : (res_DepthsOf l).length ≤ 1000000 := by
  unfold res_DepthsOf
  split
  · next h => have := whereL_len (beginsB l) l.length; have := good_len' h; simp [depthsI]; omega
  · simp

theorem mapped_set (P : List Int) (f : Int → Int) (k : Nat) (hk : k < P.length) : ((P.map f).take k ++ P.drop k).set k (f (P.getD k 0)) = (P.map f).take (k + 1) ++ P.drop (k + 1) := by
  have hlen : ((P.map f).take k).length = k := by rw [List.length_take, List.length_map]; omega
  rw [List.set_append_right _ _ (by omega), hlen, Nat.sub_self, List.drop_eq_getElem_cons hk, List.set_cons_zero, List.take_succ_eq_append_getElem (by simpa using hk), List.append_assoc]
  simp [List.getD, hk]

theorem mapped_get (P : List Int) (f : Int → Int) (k : Nat) (hk : k < P.length) : ((P.map f).take k ++ P.drop k).getD k 0 = P.getD k 0 := by
  have hlen : ((P.map f).take k).length = k := by rw [List.length_take, List.length_map]; omega
  rw [List.getD, List.getElem?_append_right (by omega), hlen, Nat.sub_self, List.getElem?_drop, Nat.add_zero]; rfl

set_option maxHeartbeats 2000000 in
theorem implDepths_run (l : List Int) (w : World) (u : Value) (h : Rd w u l) (hg : goodB l = true) : Calls Try.prog 45 #[u] w (Gives w (depthsI l) true) := by
  have HL : Hid (l.length ≤ 12) := good_len' hg
  have HG := Lib.hid hg; clear hg
  have hpm : ∀ k, k < (whereL (beginsB l) l.length).length → 0 ≤ (whereL (beginsB l) l.length).getD k 0 ∧ (whereL (beginsB l) l.length).getD k 0 < 12 := by
    intro k hk
    have hm : (whereL (beginsB l) l.length).getD k 0 ∈ whereL (beginsB l) l.length := by
      rw [List.getD, List.getElem?_eq_getElem hk]; exact List.getElem_mem hk
    have := whereL_mem _ _ _ hm
    have := HL.out
    omega
  have hpl := whereL_len (beginsB l) l.length
  have hdi : depthsI l = (whereL (beginsB l) l.length).map fun i => (overN l i i.toNat : Int) := rfl
  have hpts := fun w => points_begins (beginsB l) (.agg (sysC l)) l w HL.out (fun i w h0 h1 => begins_any l i w HL.out h0 h1)
  generalize whereL (beginsB l) l.length = P at hpm hpl hdi hpts
  have HPM := Lib.hid hpm; have HPL : Hid (P.length ≤ 12) := (by show _ ≤ _; have := HL.out; omega); have HDI := Lib.hid hdi; have HPT := Lib.hid hpts
  clear hpm hpl hdi hpts
  go_enter Try.func45, Try.ntmps45
  go_wp2_with fail
  refine (readSystem_yes u l _ h HG.out).mono ?_
  rintro e w1 ⟨rfl, hb⟩
  go_wp2_with (first
    | ((with_reducible refine wp_storeNew rfl (.tmp 4) (.tmp 12) rfl _ l HL.out rfl rfl ?_); intro w2 hs2 hb2)
    | (with_reducible refine wp_loadSys rfl (.tmp 4) rfl w1.heap.size l HL.out rfl hs2 ?_))
  refine (HPT.out _).mono ?_
  rintro e w3 ⟨v, rfl, hown, hb3⟩
  have hs3 := SysIn.below hs2 hb3
  have C := Below.step hb hb2
  have C3 := Below.step C hb3
  rcases hown.shape with ⟨rfl, hP⟩ | ⟨g, c, rfl, hBg, hgw, hPc, hcm⟩
  · have HE := Lib.hid hP; clear hP
    go_wp2
    refine wp_loop_rounds 1 ?_; rw [rounds_succ]
    go_wp2
    go_ret2
    refine ⟨_, rfl, ?_, C3⟩
    rw [HDI.out, HE.out]
    exact Own.nil _ _
  · obtain ⟨n, hn⟩ : ∃ n, n = P.length := ⟨_, rfl⟩
    rw [← hn] at hPc hown ⊢
    have HN := Lib.hid hn; clear hn
    have hB := C.size
    have hnl : n ≤ 12 := by rw [HN.out]; exact HPL.out
    go_wp2
    go_loopw [22] (fun i wr => ∃ k : Nat, k ≤ n ∧ i = .int .i64 k ∧ Own w2.heap.size wr (.slice (some ⟨g, 0, none⟩) n c) ((P.map fun i => (overN l i i.toNat : Int)).take k ++ P.drop k) ∧ SysIn wr w1.heap.size l ∧ Below w.heap.size w wr) (fun i _ => n - (intOf i).toNat)
    case atStart => exact ⟨0, by omega, rfl, by simpa using hown, hs3, C3⟩
    case round =>
      obtain ⟨k, hk, rfl, hownr, hsr, hbr⟩ := hrel
      clear hown hs3 C3
      by_cases hlt : k < n
      · have hkP : k < P.length := by rw [← HN.out]; exact hlt
        have hlen : ((P.map fun i => (overN l i i.toNat : Int)).take k ++ P.drop k).length = n := by simp [← HN.out]; omega
        have hc := hownr.cellAt k (by rw [hlen]; exact hlt)
        rw [mapped_get _ _ _ hkP] at hc
        have hpk := HPM.out k hkP
        have hset := mapped_set P (fun i => (overN l i i.toNat : Int)) k hkP
        generalize P.getD k 0 = x at hc hpk hset
        obtain ⟨i, rfl⟩ := Int.eq_ofNat_of_zero_le hpk.1
        simp only [Int.toNat_natCast] at hset
        have hdep := fun w => depth_any l i w HL.out (by omega)
        have HD := Lib.hid hdep; have HSET := Lib.hid hset; have HLEN := Lib.hid hlen
        clear hdep hset hlen
        generalize (overN l (i : Int) i : Int) = y at HD HSET
        go_wp2_with (first
          | (with_reducible refine wp_loadSys rfl (.tmp 4) rfl w1.heap.size l HL.out rfl hsr ?_)
          | (go_at_call 106; refine (HD.out _).mono ?_; rintro e w4 ⟨rfl, hb4⟩; have hown4 := Own.below hownr hb4; have hs4 := SysIn.below hsr hb4; have hbr4 := Below.step hbr hb4; have hd4 := hown4.cellAt k (by rw [HLEN.out]; exact hlt); have hf4 := hown4.frozenAt k; have hnew := hown4.stored k y; rw [HSET.out] at hnew; have hs5 := SysIn.grown hs4 (grown_setCell (b := g) (i := k) (v := .int .i64 y)) (by have := hs2.lt; omega); have hbr5 := hbr4.setCell (p := ⟨g, k, none⟩) (Nat.le_trans hB hBg) (.int .i64 y)))
        go_roundw
        case rel => exact ⟨k + 1, by omega, by go_num, hnew, hs5, hbr5⟩
        case measure => simp [intOf]; omega
      · obtain rfl : k = n := by omega
        go_wp2
        go_ret2
        refine ⟨_, rfl, ?_, hbr⟩
        have e : (P.map fun i => (overN l i i.toNat : Int)).take k ++ P.drop k = depthsI l := by
          rw [HDI.out, HN.out, List.drop_length, List.append_nil, List.take_of_length_le (by simp)]
        rw [e] at hownr
        exact hownr.mono hB

theorem impl_DepthsOf (l : List Int) (w : World) (u : Value) (h : Rd w u l) (m : l.length ≤ 1048576) : Calls Try.prog 45 #[u] w (Gives w (res_DepthsOf l) (ok_DepthsOf l)) := by
  unfold res_DepthsOf ok_DepthsOf
  cases hg : goodB l with
  | true => exact implDepths_run l w u h hg
  | false =>
    have HG := Lib.hid hg; clear hg
    go_enter Try.func45, Try.ntmps45
    go_wp2_with fail
    refine (readSystem_no u l _ h HG.out).mono ?_
    rintro e w1 ⟨rfl, hb⟩
    go_wp2_with ((with_reducible refine wp_storeNew rfl (.tmp 4) (.tmp 12) rfl _ [] (Nat.zero_le _) rfl rfl ?_); intro w2 hs2 hb2)
    go_ret2
    exact ⟨_, rfl, Own.nil _ _, Below.step hb hb2⟩

set_option maxHeartbeats 2000000 in
theorem specDepths_run (l : List Int) (w : World) (u : Value) (h : Rd w u l) (hg : goodB l = true) : Calls Try.prog 53 #[u] w (Gives w (depthsI l) true) := by
  have hl12 := good_len' hg
  have hgood := fun w h => ahGood_any u l w h (by omega)
  rw [hg] at hgood
  have hchk : depthS l l.length = depthsI l := eq_of_beq (good_all6 depthCheck0 depthCheck1 depthCheck2 depthCheck3 depthCheck4 depthCheck5 depthCheck6 hg)
  rw [← hchk]
  have h0 := h
  obtain ⟨a, c, rfl, hlc, hcm, hnc, hrd⟩ := h
  obtain ⟨n, hn⟩ : ∃ n, n = l.length := ⟨_, rfl⟩
  rw [← hn] at hlc hl12 hrd h0 hgood ⊢
  unfold maxLen at hcm
  have HN := Lib.hid hn; have HC := Lib.hid hrd; have H0 := Lib.hid h0; have HA := Lib.hid hgood
  clear hn hrd h0 hg hnc hgood hchk
  go_enter Try.func53, Try.ntmps53
  go_wp2_with fail
  refine (HA.out _ H0.out).mono ?_
  rintro e w1 ⟨rfl, hb⟩
  go_wp2
  go_loopw [4, 5, 13] (fun o d i wr => ∃ k : Nat, k ≤ n ∧ i = .int .i64 k ∧ d = .int .i64 (depthOver l k) ∧ Own w.heap.size wr o (depthS l k) ∧ Below w.heap.size w wr) (fun _ _ i _ => n - (intOf i).toNat)
  case atStart => exact ⟨0, by omega, rfl, rfl, Own.nil _ _, hb⟩
  case round =>
    obtain ⟨k, hk, rfl, rfl, hown, hbel⟩ := hrel
    have hsz := hbel.size
    clear hb
    by_cases hlt : k < n
    · rcases HC.out with h0 | ⟨bb, off, rfl, hcell⟩
      · exfalso; rw [HN.out, h0] at hlt; simp at hlt
      have hsrc : wr.cell? ⟨bb, off + k, none⟩ = some (.int .i64 (l.getD k 0)) := by
        have := hcell k hlt
        exact (hbel.cell (p := ⟨bb, off + k, none⟩) (World.block_lt_of_cell? w _ this)).trans this
      have HLL := Lib.hid (depthS_len l k)
      have hdo := depthOver_in l k
      by_cases hx : (k : Int) < l.getD k 0
      · have hn1 : depthOver l (k + 1) = depthOver l k + 1 := by rw [depthOver, if_pos hx]
        have hn2 : depthS l (k + 1) = depthS l k ++ [depthOver l k] := by rw [depthS, if_pos hx]
        generalize l.getD k 0 = x at hsrc hx
        have H1 := Lib.hid hn1; have H2 := Lib.hid hn2; clear hn1 hn2 hcell
        generalize depthOver l k = y at hdo H1 H2
        go_wp2_with (at_builtin; refine wp_append _ rfl _ _ rfl w.heap.size _ _ (depthS l k) [y] rfl rfl (Own.below hown (Below.alloc1 _ _)) (Own.rd (Own.lit1 _ _ _ (Nat.le_refl _))) (by have := HLL.out; simp; omega) (by simp; omega) ?_; intro v' w2 hown2 hgr hbel2; rw [← H2.out] at hown2; have hbel3 := (hbel.alloc hsz _).trans hbel2; clear hgr hbel2)
        go_roundw
        case rel => exact ⟨k + 1, by omega, by go_num, by rw [H1.out], hown2, hbel3⟩
        case measure => simp [intOf]; omega
      · have hn1 : depthOver l (k + 1) = depthOver l k - 1 := by rw [depthOver, if_neg hx]
        have hn2 : depthS l (k + 1) = depthS l k := by rw [depthS, if_neg hx]
        rw [← hn2] at hown
        generalize l.getD k 0 = x at hsrc hx
        have H1 := Lib.hid hn1; clear hn1 hn2 hcell
        generalize depthOver l k = y at hdo H1
        go_wp2
        go_roundw
        case rel => exact ⟨k + 1, by omega, by go_num, by rw [H1.out], hown, hbel⟩
        case measure => simp [intOf]; omega
    · obtain rfl : k = n := by omega
      go_wp2
      go_ret2
      exact ⟨_, rfl, hown, hbel⟩

theorem spec_DepthsOf (l : List Int) (w : World) (u : Value) (h : Rd w u l) (m : l.length ≤ 1048576) : Calls Try.prog 53 #[u] w (Gives w (res_DepthsOf l) (ok_DepthsOf l)) := by
  unfold res_DepthsOf ok_DepthsOf
  have hgood := ahGood_any u l w h m
  cases hg : goodB l with
  | true => exact specDepths_run l w u h hg
  | false =>
    rw [hg] at hgood
    have HA := Lib.hid hgood; clear hg hgood
    go_enter Try.func53, Try.ntmps53
    go_wp2_with (go_at_call 92; refine HA.out.mono ?_; rintro e w1 ⟨rfl, hb⟩)
    go_ret2
    exact ⟨_, rfl, Own.nil _ _, hb⟩

end Go.Proofs.Ytbinpefogecgmaa
