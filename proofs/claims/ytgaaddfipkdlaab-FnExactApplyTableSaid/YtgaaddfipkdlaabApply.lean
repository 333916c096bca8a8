/- ApplyTable: program and model. -/
import Derived.Test.YtgaaddfipkdlaabGridR
import Derived.RegionTactic
import Derived.Deep.RegionWith
namespace Go.Proofs.Ytgaaddfipkdlaab
open Go.RowKit
set_option linter.unusedSimpArgs false
set_option linter.unusedVariables false

def dotN (v row : List Int) : Nat → Int
  | 0 => 0
  | c + 1 => dotN v row c + row.getD c 0 * v.getD c 0
def dotR (v row : List Int) : Int := dotN v row row.length
def factB (v : List Int) : Bool := allFrom (fun i => inB (v.getD i 0) (-1000) 1000) 0 v.length
def ok_ApplyTable (ls : List (List Int)) (v : List Int) : Bool := rowsB ls && (decide (v.length = ls.length) && factB v)
def res_ApplyTable (ls : List (List Int)) (v : List Int) : List Int := if ok_ApplyTable ls v = true then ls.map (dotR v) else []
def baseD (v : List Int) (ls : List (List Int)) (k : Nat) : List Int := (ls.take k).map (dotR v) ++ List.replicate (ls.length - k) 0
theorem baseD_len (v : List Int) (ls : List (List Int)) (k : Nat) (h : k ≤ ls.length) : (baseD v ls k).length = ls.length := by simp [baseD]; omega
theorem baseD_zero (v : List Int) (ls : List (List Int)) : baseD v ls 0 = List.replicate ls.length 0 := by simp [baseD]
theorem baseD_all (v : List Int) (ls : List (List Int)) : baseD v ls ls.length = ls.map (dotR v) := by simp [baseD]
theorem baseD_put (v : List Int) (ls : List (List Int)) (k : Nat) (x : Int) (h : k < ls.length) : (baseD v ls k).set k x = (ls.take k).map (dotR v) ++ x :: List.replicate (ls.length - (k + 1)) 0 := by
  unfold baseD
  rw [List.set_append_right _ _ (by rw [List.length_map, List.length_take]; omega), List.length_map, List.length_take, Nat.min_eq_left (by omega), Nat.sub_self, show ls.length - k = (ls.length - (k + 1)) + 1 by omega, List.replicate_succ, List.set_cons_zero]
theorem baseD_start (v : List Int) (ls : List (List Int)) (k : Nat) (h : k < ls.length) : (baseD v ls k).set k 0 = baseD v ls k := by
  rw [baseD_put v ls k 0 h]
  unfold baseD
  rw [show ls.length - k = (ls.length - (k + 1)) + 1 by omega, List.replicate_succ]
theorem baseD_set (v : List Int) (ls : List (List Int)) (k : Nat) (h : k < ls.length) : (baseD v ls k).set k (dotR v (ls.getD k [])) = baseD v ls (k + 1) := by
  rw [baseD_put v ls k _ h]
  unfold baseD
  rw [List.take_add_one, List.map_append, List.append_assoc]
  simp [List.getD, h]
theorem prod_bd {x y : Int} (hx : -100 ≤ x ∧ x ≤ 100) (hy : -1000 ≤ y ∧ y ≤ 1000) : -100000 ≤ x * y ∧ x * y ≤ 100000 := by
  have h : (x * y).natAbs ≤ 100 * 1000 := by rw [Int.natAbs_mul]; exact Nat.mul_le_mul (by omega) (by omega)
  omega
theorem dotN_bd (v row : List Int) (n : Nat) (hr : ∀ c, c < n → -100 ≤ row.getD c 0 ∧ row.getD c 0 ≤ 100) (hv : ∀ c, c < n → -1000 ≤ v.getD c 0 ∧ v.getD c 0 ≤ 1000) : ∀ c, c ≤ n → -(100000 * (c : Int)) ≤ dotN v row c ∧ dotN v row c ≤ 100000 * (c : Int)
  | 0, _ => by simp [dotN]
  | c + 1, h => by
    have h1 := dotN_bd v row n hr hv c (by omega)
    have h2 := prod_bd (hr c (by omega)) (hv c (by omega))
    simp only [dotN]
    omega
/-- what rows and factors that are accepted keep to -/
structure ApplyIn (ls : List (List Int)) (v : List Int) : Prop where
  n14 : ls.length ≤ 14
  len : v.length = ls.length
  row : ∀ k, k < ls.length → (ls.getD k []).length = ls.length
  ent : ∀ k, k < ls.length → ∀ c, c < ls.length → -100 ≤ (ls.getD k []).getD c 0 ∧ (ls.getD k []).getD c 0 ≤ 100
  fac : ∀ c, c < ls.length → -1000 ≤ v.getD c 0 ∧ v.getD c 0 ≤ 1000
theorem inB_out {n lo hi : Int} (h : inB n lo hi = true) : lo ≤ n ∧ n ≤ hi := by simpa [inB] using h
theorem limR_le (n : Nat) : limR n ≤ 100 := by unfold limR; split <;> omega
theorem rowsB_facts {ls : List (List Int)} (h : rowsB ls = true) : 1 ≤ ls.length ∧ ls.length ≤ 14 ∧ (∀ k, k < ls.length → (ls.getD k []).length = ls.length) ∧ ∀ k, k < ls.length → ∀ c, c < ls.length → -100 ≤ (ls.getD k []).getD c 0 ∧ (ls.getD k []).getD c 0 ≤ 100 := by
  unfold rowsB sqB wiB at h
  simp only [Bool.and_eq_true, decide_eq_true_eq, allFrom_iff] at h
  obtain ⟨⟨h1, h2⟩, h3, h4⟩ := h
  have hrow : ∀ k, k < ls.length → (ls.getD k []).length = ls.length := fun k hk => by have := h3 k (by omega) (by omega); simpa [sqR] using this
  refine ⟨h1, h2, hrow, fun k hk c hc => ?_⟩
  have h5 := h4 k (by omega) (by omega)
  unfold wiR at h5
  rw [allFrom_iff] at h5
  have h6 := inB_out (h5 c (by omega) (by rw [hrow k hk]; omega))
  have := limR_le ls.length
  omega
theorem ApplyIn.of {ls : List (List Int)} {v : List Int} (h : rowsB ls = true) (hl : v.length = ls.length) (hf : factB v = true) : ApplyIn ls v := by
  obtain ⟨h1, h2, h3, h4⟩ := rowsB_facts h
  unfold factB at hf
  rw [allFrom_iff] at hf
  exact ⟨h2, hl, h3, h4, fun c hc => inB_out (hf c (by omega) (by omega))⟩

set_option maxHeartbeats 2000000 in
set_option maxRecDepth 100000 in
theorem impl_ApplyTable (lo hi : Nat) (u : Value) (vs : List Value) (ls : List (List Int)) (w : World) (h : OwnLL lo hi w u vs ls) (u2 : Value) (v : List Int) (hv : Rd w u2 v) :
    Calls Try.prog 25 #[u, u2] w (Gives w (res_ApplyTable ls v) (ok_ApplyTable ls v)) := by
  obtain ⟨a1, c1, rfl, h2, h3⟩ := h.form
  unfold maxLen at h3
  have hrr := fun W (hb : Below w.heap.size w W) => readRows_any lo hi (.slice a1 ls.length c1) vs ls W (h.below hb)
  obtain ⟨a2, c2, rfl, h4, h5, _, hrd⟩ := hv
  unfold maxLen at h5
  unfold res_ApplyTable
  obtain ⟨R, hR⟩ : ∃ R, ok_ApplyTable ls v = R := ⟨_, rfl⟩
  rw [hR]
  obtain ⟨L, hL⟩ : ∃ L, (if R = true then ls.map (dotR v) else []) = L := ⟨_, rfl⟩
  rw [hL]
  have HLL := Lib.hid hL
  clear hL
  unfold ok_ApplyTable at hR
  have HRR := Lib.hid hrr; have HO := Lib.hid h
  cases hro : rowsB ls with
  | false =>
    rw [hro, Bool.false_and] at hR
    subst hR
    rw [hro] at HRR
    clear hrr h hro hrd
    go_enter Try.func25, Try.ntmps25
    go_wp2_with (go_at_call 51; ((with_reducible refine (HRR.out _ (Below.refl _ _)).mono ?_); rintro e w1 ⟨⟨u3, rfl, -⟩, hb⟩; have HB := Lib.hid hb; clear hb))
    go_ret2
    exact ⟨_, rfl, by rw [← HLL.out]; exact Own.nil _ _, HB.out⟩
  | true =>
    rw [hro, Bool.true_and] at hR
    rw [hro] at HRR
    by_cases hl : v.length = ls.length
    · rw [decide_eq_true hl, Bool.true_and] at hR
      have hin := fun hf => ApplyIn.of hro hl hf
      obtain ⟨h1, h14, -, -⟩ := rowsB_facts hro
      obtain ⟨off2, b2, rfl, hcell⟩ : ∃ off b, a2 = some ⟨b, off, none⟩ ∧ ∀ k, k < v.length → w.cell? ⟨b, off + k, none⟩ = some (.int .i64 (v.getD k 0)) := by
        rcases hrd with h0 | ⟨b, off, e, hc⟩
        · rw [h0] at hl; simp at hl; omega
        · exact ⟨off, b, e, hc⟩
      have hF : allFrom (fun i => inB (v.getD i 0) (-1000) 1000) 0 ls.length = R := by rw [← hl]; exact hR
      unfold factB at hin
      rw [hl] at hin hcell h4
      rw [hl]
      have HC := Lib.hid (fun W (hb : Below w.heap.size w W) k hk => (hb.cell (World.block_lt_of_cell? w _ (hcell k hk))).trans (hcell k hk))
      have HF := Lib.hid hF; have HIN := Lib.hid hin
      have HWI := Lib.hid (fun x w => isWithin_any x 1000 w (by omega) (by omega))
      clear hrr h hro hrd hR hl hcell hF hin
      go_enter Try.func25, Try.ntmps25
      go_wp2_with (go_at_call 51; ((with_reducible refine (HRR.out _ (Below.refl _ _)).mono ?_); rintro e w1 ⟨⟨u3, rfl, hu3⟩, hb⟩; obtain rfl := hu3 rfl; have HB := Lib.hid hb; clear hb hu3))
      go_loop [31] (fun i => ∃ k : Nat, k ≤ ls.length ∧ i = .int .i64 k ∧ Hid (allFrom (fun i => inB (v.getD i 0) (-1000) 1000) k (ls.length - k) = R)) (fun i => ls.length - (intOf i).toNat)
      case atStart => exact ⟨0, by omega, rfl, HF.out⟩
      case round =>
        obtain ⟨k, hk, rfl, HK⟩ := hrel
        by_cases hlt : k < ls.length
        · have hc := HC.out w1 HB.out k hlt
          have hK := HK.out
          rw [show ls.length - k = (ls.length - (k + 1)) + 1 by omega] at hK
          clear HK
          cases hb : inB (v.getD k 0) (-1000) 1000 with
          | true =>
            have HK := Lib.hid (allFrom_yes hK hb)
            have HBX := Lib.hid hb
            clear hK hb
            generalize v.getD k 0 = x at hc HBX
            go_wp2_with (go_at_call 52; ((with_reducible refine (HWI.out _ _).mono ?_); rintro e w2 ⟨rfl, rfl⟩; rw [HBX.out]))
            go_round
            case rel => exact ⟨k + 1, by omega, by go_num, HK.out⟩
            case measure => simp [intOf]; omega
          | false =>
            have HK := Lib.hid (allFrom_no hK hb)
            have HBX := Lib.hid hb
            clear hK hb
            generalize v.getD k 0 = x at hc HBX
            go_wp2_with (go_at_call 52; ((with_reducible refine (HWI.out _ _).mono ?_); rintro e w2 ⟨rfl, rfl⟩; rw [HBX.out]))
            go_ret2
            have hLL := HLL.out
            rw [HK.out] at hLL ⊢
            rw [if_neg (by simp)] at hLL
            subst hLL
            exact ⟨_, rfl, Own.nil _ _, HB.out⟩
        · obtain rfl : k = ls.length := by omega
          have hK := HK.out
          rw [Nat.sub_self] at hK
          have hR2 : true = R := hK
          subst hR2
          have hap := HIN.out (by have := HF.out; exact this)
          have HAP := Lib.hid hap
          have HZ := Lib.hid (baseD_zero v ls); have HAL := Lib.hid (baseD_all v ls); have HST := Lib.hid (baseD_set v ls); have HSR := Lib.hid (baseD_start v ls); have HLN := Lib.hid (baseD_len v ls)
          clear hK HK HF HIN hap hlt hk
          go_wp2_with (at_make; refine wp_make w1 rfl _ _ rfl ls.length _ _ rfl rfl rfl rfl (by omega) ?_; intro w2 ho2 hb2 hs2; rw [← HZ.out] at ho2; have HO2 := Lib.hid (Own.mono ho2 HB.out.size); have HB2 := Lib.hid (Below.step HB.out hb2); clear ho2 hb2 hs2)
          have HG := Lib.hid HB.out.size
          generalize w1.heap.size = g at *
          go_loopw [44] (fun i wr => ∃ (k : Nat), k ≤ ls.length ∧ i = .int .i64 (k : Int) ∧ Hid (Own w.heap.size wr (.slice (some ⟨g, 0, none⟩) ls.length ls.length) (baseD v ls k)) ∧ Hid (Below w.heap.size w wr)) (fun i _ => ls.length - (intOf i).toNat)
          case atStart => exact ⟨0, by omega, rfl, HO2, HB2⟩
          case round =>
            clear HO2 HB2
            obtain ⟨k, hk, rfl, HOW, HBE⟩ := hrel
            generalize wr = wc at *
            by_cases hlt : k < ls.length
            · have hd := HO.out.below HBE.out
              obtain ⟨g1, rfl, _, _, hrow, _⟩ := hd.at (by omega)
              have hr := hrow k hlt
              have hpp := fun W (hb : Below w.heap.size w W) => (HO.out.below hb).own k hlt
              obtain ⟨p1, p3, hpv, hp1, hp2⟩ := (hpp wc HBE.out).form
              rw [hpv] at hr
              simp only [hpv] at hpp
              have hrl := HAP.out.row k hlt
              rw [hrl] at hp1 hr
              unfold maxLen at hp2
              have HP := Lib.hid hpp
              have HEN := Lib.hid (HAP.out.ent k hlt)
              have HBD := Lib.hid (dotN_bd v (ls.getD k []) ls.length HEN.out HAP.out.fac)
              have HS1 := Lib.hid (HST.out k hlt); have HS0 := Lib.hid (HSR.out k hlt); have HL0 := Lib.hid (HLN.out k hk)
              have HRL := Lib.hid hrl
              clear hd hrow hpp hpv hrl
              unfold dotR at HS1
              rw [HRL.out] at HS1 HP
              generalize ls.getD k [] = l at *
              generalize baseD v ls k = B0 at *
              go_wp2_with fail
              go_loopw [51] (fun i wr => ∃ (c : Nat), c ≤ ls.length ∧ i = .int .i64 (c : Int) ∧ Hid (Own w.heap.size wr (.slice (some ⟨g, 0, none⟩) ls.length ls.length) (B0.set k (dotN v l c))) ∧ Hid (Below w.heap.size w wr)) (fun i _ => ls.length - (intOf i).toNat)
              case atStart => exact ⟨0, by omega, rfl, by show Hid (Own _ _ _ (B0.set k 0)); rw [HS0.out]; exact HOW, HBE⟩
              case round =>
                clear HOW HBE
                obtain ⟨c, hc, rfl, HOW, HBE⟩ := hrel
                generalize wr = wd at *
                by_cases hcl : c < ls.length
                · have hp := HP.out wd HBE.out
                  obtain ⟨gr, rfl, -, -, hr3⟩ := OwnLL.elem (hi := 0) hp c (by rw [HRL.out]; exact hcl)
                  have hv3 := HC.out wd HBE.out c hcl
                  have hd3 := HOW.out.cellAt k (by rw [List.length_set, HL0.out]; exact hlt)
                  rw [show (B0.set k (dotN v l c)).getD k 0 = dotN v l c by simp [List.getD, HL0.out, hlt]] at hd3
                  have hf3 := HOW.out.frozenAt k
                  have hbd := HBD.out c hc
                  have hpr := prod_bd (HEN.out c hcl) (HAP.out.fac c hcl)
                  have hnew := HOW.out.stored k (dotN v l c + l.getD c 0 * v.getD c 0)
                  rw [List.set_set] at hnew
                  have HN := Lib.hid (show Own w.heap.size (wd.setCell ⟨g, k, none⟩ (.int .i64 (dotN v l c + l.getD c 0 * v.getD c 0))) (.slice (some ⟨g, 0, none⟩) ls.length ls.length) (B0.set k (dotN v l (c + 1))) from hnew)
                  have HBN := Lib.hid (HBE.out.setCell (p := ⟨g, k, none⟩) HG.out (.int .i64 (dotN v l c + l.getD c 0 * v.getD c 0)))
                  clear hp hnew HP HOW HBE
                  generalize dotN v l c = x at *
                  generalize l.getD c 0 = y at *
                  generalize v.getD c 0 = z at *
                  have k1 : IntKind.i64.wrap (y * z) = y * z := IntWalk.i64_in _ (by omega)
                  have k2 : IntKind.i64.wrap (x + y * z) = x + y * z := IntWalk.i64_in _ (by omega)
                  have i1 : (0 : Int) ≤ (k : Int) := by omega
                  have i2 : (k : Int) < (ls.length : Int) := by omega
                  have i3 : (0 : Int) ≤ (c : Int) := by omega
                  have i4 : (c : Int) < (ls.length : Int) := by omega
                  go_wp2_with fail
                  go_region_with fail
                  all_goals
                    go_wp2_with fail
                    go_roundw
                    · exact ⟨c + 1, by omega, by go_num, HN, by first | exact HBN | exact Lib.hid HBN.out.drew⟩
                    · simp [intOf]; omega
                · obtain rfl : c = ls.length := by omega
                  rw [HS1.out] at HOW
                  go_wp2_with fail
                  go_roundw
                  case rel => exact ⟨k + 1, by omega, by go_num, HOW, HBE⟩
                  case measure => simp [intOf]; omega
            · obtain rfl : k = ls.length := by omega
              rw [HAL.out] at HOW
              go_wp2_with fail
              go_ret2
              have hLL : ls.map (dotR v) = L := by have := HLL.out; simpa using this
              exact ⟨_, rfl, by rw [← hLL]; exact HOW.out, HBE.out⟩
    · rw [decide_eq_false hl, Bool.false_and] at hR
      subst hR
      clear hrr h hro hrd
      go_enter Try.func25, Try.ntmps25
      go_wp2_with (go_at_call 51; ((with_reducible refine (HRR.out _ (Below.refl _ _)).mono ?_); rintro e w1 ⟨⟨u3, rfl, hu3⟩, hb⟩; obtain rfl := hu3 rfl; have HB := Lib.hid hb; clear hb hu3))
      go_ret2
      exact ⟨_, rfl, by rw [← HLL.out]; exact Own.nil _ _, HB.out⟩
end Go.Proofs.Ytgaaddfipkdlaab
