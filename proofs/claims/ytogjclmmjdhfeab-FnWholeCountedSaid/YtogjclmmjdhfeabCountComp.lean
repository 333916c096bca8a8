/- pairsOf, CountByComponents: the program's functions and the model's. -/
import Derived.Test.YtogjclmmjdhfeabAmong
namespace Go.Proofs.Ytogjclmmjdhfeab
open Go.RowKit
set_option linter.unusedSimpArgs false
set_option linter.unusedVariables false

def upJ (L M : List (List Int)) : List (List Int × List Int) := L.flatMap (fun p => M.map (fun q => (p, q)))
theorem upJ_len (L M : List (List Int)) : (upJ L M).length = L.length * M.length := by
  induction L with
  | nil => simp [upJ]
  | cons a r ih =>
    unfold upJ at ih ⊢
    simp only [List.flatMap_cons, List.length_append, List.length_map, ih, List.length_cons]
    rw [Nat.succ_mul]; omega
theorem upJ_succ (L M : List (List Int)) (k : Nat) (hk : k < L.length) : upJ (L.take (k + 1)) M = upJ (L.take k) M ++ M.map (fun q => (L.getD k [], q)) := by
  unfold upJ
  rw [List.take_add_one, List.flatMap_append]
  simp [List.getElem?_eq_getElem hk, List.getD]
def pairsN (n : Nat) : List (List Int × List Int) := upJ (allL n) (allL n)
def incL (c : List Int) (p : List Int × List Int) : List Int := c.set (compsL p.1 p.2) (c.getD (compsL p.1 p.2) 0 + 1)
def cntP (c : List Int) (ps : List (List Int × List Int)) : List Int := ps.foldl incL c
theorem cntP_len : ∀ (ps : List (List Int × List Int)) (c : List Int), (cntP c ps).length = c.length
  | [], _ => rfl
  | p :: r, c => by
    show (cntP (incL c p) r).length = _
    rw [cntP_len r, incL, List.length_set]
theorem cntP_snoc (c : List Int) (ps : List (List Int × List Int)) (p : List Int × List Int) : cntP c (ps ++ [p]) = incL (cntP c ps) p := by simp [cntP]
theorem incL_bd (c : List Int) (B : Int) (p : List Int × List Int) (h : ∀ j, 0 ≤ c.getD j 0 ∧ c.getD j 0 ≤ B) (j : Nat) : 0 ≤ (incL c p).getD j 0 ∧ (incL c p).getD j 0 ≤ B + 1 := by
  unfold incL
  have h1 := h j
  have h2 := h (compsL p.1 p.2)
  generalize compsL p.1 p.2 = i at *
  by_cases hj : j < c.length
  · by_cases e : i = j
    · subst e
      have : (c.set i (c.getD i 0 + 1)).getD i 0 = c.getD i 0 + 1 := by simp [List.getD, hj]
      rw [this]; omega
    · have : (c.set i (c.getD i 0 + 1)).getD j 0 = c.getD j 0 := by simp [List.getD, e]
      rw [this]; omega
  · have : (c.set i (c.getD i 0 + 1)).getD j 0 = 0 := by simp [List.getD, hj]
    rw [this]; omega
theorem cntP_bd : ∀ (ps : List (List Int × List Int)) (c : List Int) (B : Int), (∀ j, 0 ≤ c.getD j 0 ∧ c.getD j 0 ≤ B) → ∀ j, 0 ≤ (cntP c ps).getD j 0 ∧ (cntP c ps).getD j 0 ≤ B + ps.length
  | [], c, B, h, j => by have := h j; simpa [cntP] using this
  | p :: r, c, B, h, j => by
    have := cntP_bd r (incL c p) (B + 1) (incL_bd c B p h) j
    show 0 ≤ (cntP (incL c p) r).getD j 0 ∧ (cntP (incL c p) r).getD j 0 ≤ _
    rw [List.length_cons]
    omega
theorem zero_bd (n j : Nat) : 0 ≤ (List.replicate n (0 : Int)).getD j 0 ∧ (List.replicate n (0 : Int)).getD j 0 ≤ 0 := by
  by_cases h : j < n <;> simp [List.getD, h]
theorem cnt_bd (n : Nat) (ps : List (List Int × List Int)) (j : Nat) : 0 ≤ (cntP (List.replicate n 0) ps).getD j 0 ∧ (cntP (List.replicate n 0) ps).getD j 0 ≤ ps.length := by
  have := cntP_bd ps (List.replicate n 0) 0 (zero_bd n) j
  omega

theorem comps_check : (List.range 5).all (fun n => (allL n).all (fun p => (allL n).all (fun q => decide (compsL p q ≤ n)))) = true := by kernel_rfl
theorem comps_le {n : Nat} (hn : n ≤ 4) {p q : List Int} (hp : p ∈ allL n) (hq : q ∈ allL n) : compsL p q ≤ n := by
  have h1 := List.all_eq_true.1 comps_check n (List.mem_range.2 (by omega))
  have h2 := List.all_eq_true.1 (List.all_eq_true.1 h1 p hp) q hq
  simpa using h2
theorem allL_mem {n k : Nat} (hk : k < (allL n).length) : (allL n).getD k [] ∈ allL n := by simp [List.getD, hk]
theorem mem_good {n : Nat} (hn : n ≤ 6) {p : List Int} (hp : p ∈ allL n) : goodB p = true ∧ p.length = 2 * n := by
  obtain ⟨j, hj, e⟩ := List.getElem_of_mem hp
  have h := allL_good hn hj
  have e2 : (allL n).getD j [] = p := by rw [← e]; simp [List.getD, hj]
  rw [e2] at h
  exact h
theorem pairsN_mem {n : Nat} {p : List Int × List Int} (h : p ∈ pairsN n) : p.1 ∈ allL n ∧ p.2 ∈ allL n := by
  simp only [pairsN, upJ, List.mem_flatMap, List.mem_map] at h
  obtain ⟨a, ha, b, hb, rfl⟩ := h
  exact ⟨ha, hb⟩
theorem pairsN_at {n k : Nat} (hk : k < (pairsN n).length) : (pairsN n).getD k ([], []) ∈ pairsN n := by simp [List.getD, hk]
theorem allL_14 {n : Nat} (hn : n ≤ 4) : (allL n).length ≤ 14 := by rw [allL_length (by omega)]; exact (show ∀ m, m < 5 → catN m ≤ 14 by decide) n (by omega)
theorem allL_42 {n : Nat} (hn : n ≤ 5) : (allL n).length ≤ 42 := by rw [allL_length (by omega)]; exact (show ∀ m, m < 6 → catN m ≤ 42 by decide) n (by omega)
theorem pairsN_len5 {n : Nat} (hn : n ≤ 5) : (pairsN n).length ≤ 1764 := by
  unfold pairsN
  rw [upJ_len]
  have := allL_42 hn
  exact Nat.le_trans (Nat.mul_le_mul this this) (by omega)
theorem pairsN_len {n : Nat} (hn : n ≤ 4) : (pairsN n).length ≤ 196 := by
  unfold pairsN
  rw [upJ_len]
  have := allL_14 hn
  exact Nat.le_trans (Nat.mul_le_mul this this) (by omega)

def ok_CountByComponents (x : Int) : Bool := inB x 0 4
def res_CountByComponents (x : Int) : List Int := if inB x 0 4 then cntP (List.replicate (x.toNat + 1) 0) (pairsN x.toNat) else []
theorem len_CountByComponents (x : Int) : (res_CountByComponents x).length ≤ 1000000 := by
  unfold res_CountByComponents
  split
  · next h =>
    have := inB_iff.1 h
    rw [cntP_len, List.length_replicate]; omega
  · simp



set_option maxRecDepth 100000 in
set_option maxHeartbeats 2000000 in
theorem pairsOf5_any (n : Nat) (hn : n ≤ 5) (w : World) : Calls Try.prog 148 #[.int .i64 (n : Int)] w (MadeP w (pairsN n)) := by
  have h14 := allL_42 hn
  have hN := allL_length (n := n) (by omega)
  have hct : ∀ w, Calls Try.prog 153 #[.int .i64 (n : Int)] w (fun e w' => e = .returned (.int .i64 ((allL n).length : Int)) ∧ w = w') := fun w => by rw [hN]; exact catalan_N n (by omega) w
  have hsr : ∀ k, k < (allL n).length → ∀ w, Calls Try.prog 202 #[.int .i64 (n : Int), .int .i64 (k : Int)] w (SysOut w ((allL n).getD k [])) := by
    intro k hk w
    rw [allL_get (by omega) (by omega)]
    exact systemRanked_any n k w (by omega) (by omega)
  have hpu : ∀ k, k < (allL n).length → ∀ w, Calls Try.prog 201 #[.agg (sysC ((allL n).getD k []))] w (MadeP w ((allL n).map (fun q => ((allL n).getD k [], q)))) := by
    intro k hk w
    have h := mem_good (by omega) (allL_mem hk)
    have := pairsUnder_any ((allL n).getD k []) h.1 w
    unfold underL at this
    rw [h.2, Nat.mul_div_cancel_left _ (by omega)] at this
    exact this
  have hpos : 0 < (allL n).length := by rw [hN]; exact (show ∀ m, m < 6 → 0 < catN m by decide) n (by omega)
  have hfull : pairsN n = upJ ((allL n).take (allL n).length) (allL n) := by rw [List.take_length]; rfl
  rw [hfull]
  have HSU := Lib.hid (fun k => upJ_succ (allL n) (allL n) k)
  have HUL : Hid (∀ k, (upJ ((allL n).take k) (allL n)).length ≤ 1764) := by
    intro k
    rw [upJ_len, List.length_take]
    exact Nat.le_trans (Nat.mul_le_mul (Nat.le_trans (Nat.min_le_right _ _) h14) h14) (by omega)
  generalize allL n = L at *
  have HCT := Lib.hid hct; have HSR := Lib.hid hsr; have HPU := Lib.hid hpu
  clear hct hsr hpu hN hfull
  go_enter Try.func148, Try.ntmps148
  go_wp2_with (go_at_call 153; ((with_reducible refine (HCT.out _).mono ?_); rintro e w1 ⟨rfl, rfl⟩))
  go_loopw [3, 7] (fun o i wr => ∃ k : Nat, k ≤ L.length ∧ i = .int .i64 (k : Int) ∧ OwnP w.heap.size wr o (upJ (L.take k) L) ∧ Below w.heap.size w wr) (fun _ i _ => L.length - (intOf i).toNat)
  case atStart => exact ⟨0, by omega, rfl, OwnP.nil _ _, Below.refl _ _⟩
  case round =>
    obtain ⟨k, hk, rfl, hown, hbel⟩ := hrel
    generalize wr = wc at *
    by_cases hlt : k < L.length
    · have hsuc := HSU.out k hlt
      have hle := HUL.out k
      have hs := HSR.out k hlt
      have hp := HPU.out k hlt
      generalize upJ (L.take k) L = S at *
      generalize L.getD k [] = q at *
      have hqn : (L.map (fun r => (q, r))).length = L.length := List.length_map _
      generalize L.map (fun r => (q, r)) = Q at *
      have HS := Lib.hid hs; have HP := Lib.hid hp; have HO := Lib.hid hown; have HBE := Lib.hid hbel; have HSC := Lib.hid hsuc; have HQN := Lib.hid hqn
      have hsz := hbel.size
      clear hs hp hown hbel hsuc hqn
      go_wp2_with (first
        | (go_at_call 202; ((with_reducible refine (HS.out _).mono ?_); rintro e w5 ⟨rfl, hb5⟩; have HB5 := Lib.hid hb5; clear hb5))
        | (go_at_call 201; ((with_reducible refine (HP.out _).mono ?_); rintro e w6 ⟨pv, rfl, hop, hb6⟩; have HB6 := Lib.hid (Below.step HB5.out hb6); clear hb6; obtain ⟨pa, pc, rfl, hp1, hp2⟩ := hop.form; obtain ⟨g, rfl, hy1, hy2, hy3, hy4, hy5⟩ := hop.at (by rw [HQN.out]; exact hpos); have HOP := Lib.hid hop; clear hop hy1 hy2 hy3 hy4 hy5))
        | (at_builtin; refine wp_appendPs _ rfl (.tmp 10) (.tmp 14) rfl w.heap.size g Q.length pc _ S Q rfl rfl rfl (fun j hj => World.ownsRow.cellAt HOP.out j hj) (HO.out.below HB6.out) (by have := HQN.out; omega) (by have := HB6.out.size; omega) ?_; intro o' w7 ho7 hg7 hb7 hw7; have HO7 := Lib.hid ho7; have HB7 := Lib.hid ((HBE.out.trans (HB6.out.mono hsz)).trans hb7); clear ho7 hg7 hb7 hw7))
      go_roundw
      case rel => exact ⟨k + 1, by omega, by go_num, by rw [HSC.out]; exact HO7.out, HB7.out⟩
      case measure => simp [intOf]; omega
    · obtain rfl : k = L.length := by omega
      obtain ⟨a5, c5, rfl, _⟩ := hown.form
      have HOQ := Lib.hid hown; have HBE := Lib.hid hbel
      clear hown hbel
      go_wp2_with fail
      go_ret
      exact ⟨_, rfl, HOQ.out, HBE.out⟩
theorem pairsOf_any (n : Nat) (hn : n ≤ 4) (w : World) : Calls Try.prog 148 #[.int .i64 (n : Int)] w (MadeP w (pairsN n)) := pairsOf5_any n (by omega) w

end Go.Proofs.Ytogjclmmjdhfeab
