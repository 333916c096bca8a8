/- The tables of the pairs: program and model. -/
import Derived.Test.YtgaaddfipkdlaabMade
import Derived.Test.YtgaaddfipkdlaabTab3
import Derived.Test.YtgaaddfipkdlaabMeCol
import Derived.Test.YtgaaddfipkdlaabAhAll
namespace Go.Proofs.Ytgaaddfipkdlaab
open Go.RowKit
set_option linter.unusedSimpArgs false
set_option linter.unusedVariables false

def cE (p q : List Int) : Int := (compsL p q : Nat)
def cX (x : Int) (p q : List Int) : Int := x ^ compsL p q
def tabF (F : List Int → List Int → Int) (n : Nat) : List (List Int) := (allL n).map (fun p => (allL n).map (fun q => F p q))
theorem tab_eq (F : List Int → List Int → Int) (n : Nat) : (tblP n).map (rowM F) = tabF F n := by
  unfold tblP tabF
  rw [List.map_map]
  congr 1
  funext p
  simp [rowM, rowP, Function.comp]
theorem tab_len (F : List Int → List Int → Int) (n : Nat) : (tabF F n).length = (allL n).length := by simp [tabF]
theorem tab_row (F : List Int → List Int → Int) (n k : Nat) (h : k < (allL n).length) : (tabF F n).getD k [] = (allL n).map (fun q => F ((allL n).getD k []) q) := by
  simp [tabF, List.getD, h]
theorem tbl_len (n : Nat) : (tblP n).length = (allL n).length := by simp [tblP]
theorem tbl_row {n k : Nat} (h : k < (allL n).length) : (tblP n).getD k [] = rowP (allL n) ((allL n).getD k []) := by simp [tblP, List.getD, h]
theorem row_at {L : List (List Int)} {p : List Int} {c : Nat} (h : c < L.length) : pAt (rowP L p) c = (p, L.getD c []) := by simp [pAt, rowP, List.getD, h]
theorem rowP_len (L : List (List Int)) (p : List Int) : (rowP L p).length = L.length := by simp [rowP]
theorem pow_bd {x : Int} (h1 : -3 ≤ x) (h2 : x ≤ 3) {i : Nat} (hi : i ≤ 4) : -81 ≤ x ^ i ∧ x ^ i ≤ 81 := by
  have h3 : i = 0 ∨ i = 1 ∨ i = 2 ∨ i = 3 ∨ i = 4 := by omega
  rcases x_cases h1 h2 with rfl | rfl | rfl | rfl | rfl | rfl | rfl <;> rcases h3 with rfl | rfl | rfl | rfl | rfl <;> decide
theorem tab_bd {F : List Int → List Int → Int} {n : Nat} (hn : n ≤ 4) (hF : ∀ p ∈ allL n, ∀ q ∈ allL n, -81 ≤ F p q ∧ F p q ≤ 81) : (∀ k j, k < (tabF F n).length → j < ((tabF F n).getD k []).length → -81 ≤ ((tabF F n).getD k []).getD j 0 ∧ ((tabF F n).getD k []).getD j 0 ≤ 81) := by
  intro k j hk hj
  rw [tab_len] at hk
  rw [tab_row F n k hk] at hj ⊢
  rw [List.length_map] at hj
  have : ((allL n).map (fun q => F ((allL n).getD k []) q)).getD j 0 = F ((allL n).getD k []) ((allL n).getD j []) := by simp [List.getD, hj]
  rw [this]
  exact hF _ (allL_mem hk) _ (allL_mem hj)
theorem tab_rows {F : List Int → List Int → Int} {n : Nat} : ∀ k, k < (tabF F n).length → ((tabF F n).getD k []).length = (allL n).length := by
  intro k hk
  rw [tab_len] at hk
  rw [tab_row F n k hk, List.length_map]

theorem expTable_any (n : Nat) (hn : n ≤ 4) (w : World) (lo hi : Nat) (v : Value) (vs : List Value) (hown : OwnPP lo hi w v vs (tblP n)) :
    Calls Try.prog 45 #[v, .func (.func 47) #[] #[]] w (MadeLL w (tabF cE n)) := by
  have h14 := allL_14 hn
  have h := made_components cE (tblP n) (by rw [tbl_len]; exact h14) (fun k hk => by rw [tbl_len] at hk; rw [tbl_row hk, rowP_len]; exact h14) w (fun k c hk hc W hb => by
    rw [tbl_len] at hk
    rw [tbl_row hk] at hc ⊢
    rw [rowP_len] at hc
    rw [row_at hc]
    have g1 := mem_good (n := n) (by omega) (allL_mem hk)
    have g2 := mem_good (n := n) (by omega) (allL_mem hc)
    exact components_any _ _ g1.1 g2.1 (by rw [g1.2, g2.2]) W) lo hi v vs hown
  rwa [tab_eq] at h
def PwS (w1 : World) (gx g : Nat) (x : Int) (t b : List Int) (W : World) : Prop := Below w1.heap.size w1 W ∧ W.cell? ⟨gx, 0, none⟩ = some (.int .i64 x) ∧ PairIn W g t b
attribute [local go_sem ↓] loadPm_eq
theorem PwS.to {w1 : World} {gx g : Nat} {x : Int} {t b : List Int} {W : World} (h : PwS w1 gx g x t b W) : Hid (PwS w1 gx g x t b W) ∧ W.cell? ⟨gx, 0, none⟩ = some (.int .i64 x) ∧ (loadPm (.pointer (some ⟨g, 0, none⟩))).run Try.prog W = .ok (.agg (pairC t b)) W := ⟨h, h.2.1, run_loadPm W g t b h.2.2⟩
theorem PwS.keep {w1 : World} {gx g : Nat} {x : Int} {t b : List Int} {W W' : World} (h : Hid (PwS w1 gx g x t b W) ∧ W.cell? ⟨gx, 0, none⟩ = some (.int .i64 x) ∧ (loadPm (.pointer (some ⟨g, 0, none⟩))).run Try.prog W = .ok (.agg (pairC t b)) W) (hb : Below W.heap.size W W') :
    Hid (PwS w1 gx g x t b W') ∧ W'.cell? ⟨gx, 0, none⟩ = some (.int .i64 x) ∧ (loadPm (.pointer (some ⟨g, 0, none⟩))).run Try.prog W' = .ok (.agg (pairC t b)) W' :=
  PwS.to ⟨h.1.out.1.trans (hb.mono h.1.out.1.size), (hb.cell (World.block_lt_of_cell? W _ h.2.1)).trans h.2.1, h.1.out.2.2.below hb⟩
theorem PwS.bel {w1 : World} {gx g : Nat} {x : Int} {t b : List Int} {W : World} (h : Hid (PwS w1 gx g x t b W) ∧ W.cell? ⟨gx, 0, none⟩ = some (.int .i64 x) ∧ (loadPm (.pointer (some ⟨g, 0, none⟩))).run Try.prog W = .ok (.agg (pairC t b)) W) : Below w1.heap.size w1 W := h.1.out.1
set_option maxHeartbeats 2000000 in
set_option maxRecDepth 100000 in
theorem powCl_any (x : Int) (gx : Nat) (t b : List Int) (gt : goodB t = true) (gb : goodB b = true) (hl : t.length = b.length) (h1 : -3 ≤ x) (h2 : x ≤ 3) (hc : compsL t b ≤ 4) (w : World) (hx : w.cell? ⟨gx, 0, none⟩ = some (.int .i64 x)) :
    Calls Try.prog 68 #[.agg (pairC t b), .pointer (some ⟨gx, 0, none⟩)] w fun e w' => e = .returned (.int .i64 (cX x t b)) ∧ Below w.heap.size w w' := by
  have HC := Lib.hid (fun w => components_any t b gt gb hl w)
  have HP := Lib.hid (fun w => power_any x (compsL t b) w (by omega) (fun i hi => by have := pow_bd h1 h2 (i := i) (by omega); omega))
  have B1 := Below.alloc1 w (.cells (pairC t b) 52)
  have hxl := World.block_lt_of_cell? w _ hx
  have hx1 : (w.alloc (.cells (pairC t b) 52)).cell? ⟨gx, 0, none⟩ = some (.int .i64 x) := (B1.cell hxl).trans hx
  have hS : Hid (PwS (w.alloc (.cells (pairC t b) 52)) gx w.heap.size x t b (w.alloc (.cells (pairC t b) 52)).drew) ∧ (w.alloc (.cells (pairC t b) 52)).drew.cell? ⟨gx, 0, none⟩ = some (.int .i64 x) ∧ (loadPm (.pointer (some ⟨w.heap.size, 0, none⟩))).run Try.prog (w.alloc (.cells (pairC t b) 52)).drew = .ok (.agg (pairC t b)) (w.alloc (.cells (pairC t b) 52)).drew := PwS.to ⟨(Below.refl _ _).drew, hx1, PairIn.new w t b⟩
  have HB := Lib.hid B1
  unfold cX
  clear B1 hx gt gb hl hc h1 h2 hxl hx1
  generalize compsL t b = cc at *
  go_enter Try.func68, Try.ntmps68
  go_wp2_with fail
  generalize (w.alloc (.cells (pairC t b) 52)) = w1 at *
  generalize w.heap.size = g at hS ⊢
  go_region_held3 (fun w' => Hid (PwS w1 gx g x t b w') ∧ w'.cell? ⟨gx, 0, none⟩ = some (.int .i64 x) ∧ (loadPm (.pointer (some ⟨g, 0, none⟩))).run Try.prog w' = .ok (.agg (pairC t b)) w')
    (first | assumption | exact PwS.keep (by assumption) (by assumption))
    (first
      | (go_at_call 47; ((with_reducible refine (HC.out _).mono ?_); rintro e' w' ⟨rfl, hb'⟩; have hX2 := PwS.keep (by assumption) hb'))
      | (go_at_call 69; ((with_reducible refine (HP.out _).mono ?_); rintro e' w'' ⟨rfl, rfl⟩)))
  all_goals
    go_wp2_with fail
    go_ret
    exact ⟨rfl, Below.step HB.out (PwS.bel (by assumption))⟩
set_option maxHeartbeats 2000000 in
theorem powerTable_any (n : Nat) (hn : n ≤ 4) (x : Int) (h1 : -3 ≤ x) (h2 : x ≤ 3) (w : World) :
    Calls Try.prog 42 #[.int .i64 (n : Int), .int .i64 x] w (MadeLL w (tabF (cX x) n)) := by
  have h14 := allL_14 hn
  have hmk : ∀ (W : World) (gx lo hi : Nat) (v : Value) (vs : List Value), W.cell? ⟨gx, 0, none⟩ = some (.int .i64 x) → OwnPP lo hi W v vs (tblP n) → Calls Try.prog 45 #[v, .func (.func 68) #[] #[.pointer (some ⟨gx, 0, none⟩)]] W (MadeLL W (tabF (cX x) n)) := by
    intro W gx lo hi v vs hx hown
    have h := made_power (cX x) gx (tblP n) (by rw [tbl_len]; exact h14) (fun k hk => by rw [tbl_len] at hk; rw [tbl_row hk, rowP_len]; exact h14) W (fun k c hk hc W' hb => by
      rw [tbl_len] at hk
      rw [tbl_row hk] at hc ⊢
      rw [rowP_len] at hc
      rw [row_at hc]
      have g1 := mem_good (n := n) (by omega) (allL_mem hk)
      have g2 := mem_good (n := n) (by omega) (allL_mem hc)
      exact powCl_any x gx _ _ g1.1 g2.1 (by rw [g1.2, g2.2]) h1 h2 (Nat.le_trans (comps_le hn (allL_mem hk) (allL_mem hc)) hn) W' ((hb.cell (World.block_lt_of_cell? W _ hx)).trans hx)) lo hi v vs hown
    rwa [tab_eq] at h
  have HMK := Lib.hid hmk
  have HAP := Lib.hid (fun w => allPairs_any n hn w)
  have B1 := Below.alloc1 w (.cells #[.int .i64 x] 3)
  have hx0 := cell_lit1 w (.int .i64 x) 3
  have hlt := World.block_lt_of_cell? _ _ hx0
  have HB := Lib.hid B1; have HX := Lib.hid hx0; have HLT := Lib.hid hlt
  clear hmk B1 hx0 hlt h14
  generalize tabF (cX x) n = T at *
  go_enter Try.func42, Try.ntmps42
  go_wp2_with (first
    | (go_at_call 46; ((with_reducible refine (HAP.out _).mono ?_); rintro e w1 ⟨v1, vs1, rfl, ho1, hb1⟩; have HO1 := Lib.hid ho1; have HB1 := Lib.hid (Below.step HB.out hb1); have HX1 := Lib.hid ((hb1.cell HLT.out).trans HX.out); obtain ⟨a1, c1, rfl, _⟩ := ho1.form; clear ho1 hb1))
    | (go_at_call 45; ((refine (HMK.out _ _ _ _ _ vs1 HX1.out HO1.out).mono ?_); rintro e w2 ⟨v2, vs2, rfl, ho2, hb2⟩; have HO2 := Lib.hid ho2; have HB2 := Lib.hid (Below.step HB1.out hb2); have HZ := Lib.hid HB1.out.size; clear ho2 hb2)))
  go_ret
  exact ⟨_, vs2, rfl, HO2.out.mono HZ.out (Nat.le_refl _) (Nat.le_refl _), HB2.out⟩
end Go.Proofs.Ytgaaddfipkdlaab
