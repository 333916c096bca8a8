/- BetweenSystems on both sides. -/
import Derived.Test.YtfcjgcbjiongpabExDist
import Derived.Test.YtfcjgcbjiongpabSemis2
namespace Go.Proofs.Ytfcjgcbjiongpab
open Go.RowKit
set_option linter.unusedSimpArgs false
set_option linter.unusedVariables false

def btwB (t b s : List Int) : Bool := decide (distL t s + distL s b = distL t b)
def fewB (t b : List Int) : Bool := pairOk t b && decide (t.length ≤ 10)
def ok_BetweenSystems (t b : List Int) : Bool := fewB t b
def res_BetweenSystems (t b : List Int) : List (List Int) := if fewB t b then (allL (t.length / 2)).filter (btwB t b) else []
theorem few_good {t b : List Int} (h : fewB t b = true) : goodB t = true ∧ goodB b = true ∧ t.length = b.length ∧ t.length ≤ 10 := by
  unfold fewB at h
  simp only [Bool.and_eq_true, decide_eq_true_eq] at h
  have := pairOk_facts h.1
  exact ⟨this.1, this.2.1, this.2.2, h.2⟩
theorem allL_facts {n : Nat} (hn : n ≤ 6) (p : List Int → Bool) : ((allL n).filter p).length ≤ 1000 ∧ ∀ k, k < ((allL n).filter p).length → (((allL n).filter p).getD k []).length ≤ 12 := by
  refine ⟨Nat.le_trans (List.length_filter_le _ _) (ahL_short (by omega) (by omega)), fun k hk => ?_⟩
  have hm : ((allL n).filter p).getD k [] ∈ (allL n).filter p := by simp [List.getD, hk]
  obtain ⟨j, hj, e⟩ := List.mem_iff_getElem.1 (List.mem_filter.1 hm).1
  have := allL_good hn hj
  rw [show (allL n).getD j [] = (allL n)[j] by simp [List.getD, hj], e] at this
  omega
theorem len_BetweenSystems (t b : List Int) : tot (res_BetweenSystems t b) ≤ 1000000 ∧ ∀ i, i < (res_BetweenSystems t b).length → ((res_BetweenSystems t b).getD i []).length ≤ 1000000 := by
  unfold res_BetweenSystems
  split
  · next h =>
    have hf := allL_facts (n := t.length / 2) (by have := (few_good h).2.2.2; omega) (btwB t b)
    have := tot_le (K := 12) hf.2
    exact ⟨by omega, fun i hi => Nat.le_trans (hf.2 i hi) (by omega)⟩
  · exact ⟨by simp [tot], fun i hi => by simp at hi⟩
theorem distL_bd (t b : List Int) (h : t.length ≤ 12) : -12 ≤ distL t b ∧ distL t b ≤ 6 := by
  have := compsL_le t b
  unfold distL
  omega

structure BS (w : World) (t b s : List Int) (W : World) : Prop where
  p : PairIn W w.heap.size t b
  q : SysIn W (w.heap.size + 1) s
  bel : Below w.heap.size w W
  len : t.length ≤ 12 ∧ b.length ≤ 12 ∧ s.length ≤ 12
theorem BS.below {w W W' : World} {t b s : List Int} (h : BS w t b s W) (hb : Below W.heap.size W W') : BS w t b s W' := ⟨h.p.below hb, h.q.below hb, Below.step h.bel hb, h.len⟩
attribute [local go_sem ↓] lQ_eqD
def loadE (v : Value) : Sem Value := Instr.loadAt 53 v
theorem lS_eqE (v : Value) : Instr.loadAt 53 v = loadE v := rfl
attribute [local go_sem ↓] lS_eqE
theorem thirteen {j : Nat} (h : j < 13) : j = 0 ∨ j = 1 ∨ j = 2 ∨ j = 3 ∨ j = 4 ∨ j = 5 ∨ j = 6 ∨ j = 7 ∨ j = 8 ∨ j = 9 ∨ j = 10 ∨ j = 11 ∨ j = 12 := by omega
theorem rg_top {W : World} {g : Nat} {t b : List Int} (h : PairIn W g t b) : W.rangeAt g 0 [sysV t 0, sysV t 1, sysV t 2, sysV t 3, sysV t 4, sysV t 5, sysV t 6, sysV t 7, sysV t 8, sysV t 9, sysV t 10, sysV t 11, sysV t 12] := by
  intro j v hj
  have hlt : j < 13 := (List.getElem?_eq_some_iff.1 hj).1
  rw [Nat.zero_add, cell_of_row _ _ j _ _ _ h]
  rcases thirteen hlt with rfl | rfl | rfl | rfl | rfl | rfl | rfl | rfl | rfl | rfl | rfl | rfl | rfl <;> (simp at hj; subst hj; rfl)
theorem rg_bot {W : World} {g : Nat} {t b : List Int} (h : PairIn W g t b) : W.rangeAt g 13 [sysV b 0, sysV b 1, sysV b 2, sysV b 3, sysV b 4, sysV b 5, sysV b 6, sysV b 7, sysV b 8, sysV b 9, sysV b 10, sysV b 11, sysV b 12] := by
  intro j v hj
  have hlt : j < 13 := (List.getElem?_eq_some_iff.1 hj).1
  rw [cell_of_row _ _ (13 + j) _ _ _ h]
  rcases thirteen hlt with rfl | rfl | rfl | rfl | rfl | rfl | rfl | rfl | rfl | rfl | rfl | rfl | rfl <;> (simp at hj; subst hj; rfl)
theorem rg_sys {W : World} {g : Nat} {s : List Int} (hl : s.length ≤ 12) (h : SysIn W g s) : W.rangeAt g 0 [sysV s 0, sysV s 1, sysV s 2, sysV s 3, sysV s 4, sysV s 5, sysV s 6, sysV s 7, sysV s 8, sysV s 9, sysV s 10, sysV s 11, sysV s 12] := by
  intro j v hj
  have hlt : j < 13 := (List.getElem?_eq_some_iff.1 hj).1
  rw [Nat.zero_add, sys_cell hl h j hlt]
  rcases thirteen hlt with rfl | rfl | rfl | rfl | rfl | rfl | rfl | rfl | rfl | rfl | rfl | rfl | rfl <;> (simp at hj; subst hj; rfl)
theorem run_E (W : World) (g off : Nat) (s : List Int) (h : W.rangeAt g off [sysV s 0, sysV s 1, sysV s 2, sysV s 3, sysV s 4, sysV s 5, sysV s 6, sysV s 7, sysV s 8, sysV s 9, sysV s 10, sysV s 11, sysV s 12]) : (loadE (.pointer (some ⟨g, off, none⟩))).run Try.prog W = .ok (.agg #[sysV s 0, sysV s 1, sysV s 2, sysV s 3, sysV s 4, sysV s 5, sysV s 6, sysV s 7, sysV s 8, sysV s 9, sysV s 10, sysV s 11, sysV s 12]) W :=
  run_loadAt_mid W g off 53 _ _ h Try.underlying53 rfl (by rw [sys_info]; rfl)
def BSL (w : World) (t b s : List Int) (W : World) : Prop := Hid (BS w t b s W) ∧ (loadD (.pointer (some ⟨w.heap.size, 0, none⟩))).run Try.prog W = .ok (.agg (pairC t b)) W ∧ (loadE (.pointer (some ⟨w.heap.size, 0, none⟩))).run Try.prog W = .ok (.agg #[sysV t 0, sysV t 1, sysV t 2, sysV t 3, sysV t 4, sysV t 5, sysV t 6, sysV t 7, sysV t 8, sysV t 9, sysV t 10, sysV t 11, sysV t 12]) W ∧ (loadE (.pointer (some ⟨w.heap.size, 13, none⟩))).run Try.prog W = .ok (.agg #[sysV b 0, sysV b 1, sysV b 2, sysV b 3, sysV b 4, sysV b 5, sysV b 6, sysV b 7, sysV b 8, sysV b 9, sysV b 10, sysV b 11, sysV b 12]) W ∧ (loadE (.pointer (some ⟨w.heap.size + 1, 0, none⟩))).run Try.prog W = .ok (.agg #[sysV s 0, sysV s 1, sysV s 2, sysV s 3, sysV s 4, sysV s 5, sysV s 6, sysV s 7, sysV s 8, sysV s 9, sysV s 10, sysV s 11, sysV s 12]) W
theorem BS.to {w W : World} {t b s : List Int} (h : BS w t b s W) : Hid (BS w t b s W) ∧ (loadD (.pointer (some ⟨w.heap.size, 0, none⟩))).run Try.prog W = .ok (.agg (pairC t b)) W ∧ (loadE (.pointer (some ⟨w.heap.size, 0, none⟩))).run Try.prog W = .ok (.agg #[sysV t 0, sysV t 1, sysV t 2, sysV t 3, sysV t 4, sysV t 5, sysV t 6, sysV t 7, sysV t 8, sysV t 9, sysV t 10, sysV t 11, sysV t 12]) W ∧ (loadE (.pointer (some ⟨w.heap.size, 13, none⟩))).run Try.prog W = .ok (.agg #[sysV b 0, sysV b 1, sysV b 2, sysV b 3, sysV b 4, sysV b 5, sysV b 6, sysV b 7, sysV b 8, sysV b 9, sysV b 10, sysV b 11, sysV b 12]) W ∧ (loadE (.pointer (some ⟨w.heap.size + 1, 0, none⟩))).run Try.prog W = .ok (.agg #[sysV s 0, sysV s 1, sysV s 2, sysV s 3, sysV s 4, sysV s 5, sysV s 6, sysV s 7, sysV s 8, sysV s 9, sysV s 10, sysV s 11, sysV s 12]) W :=
  ⟨h, run_loadAt_mid W w.heap.size 0 55 (pairC t b).toList _ (row_atP h.p) Try.underlying55 rfl (by rw [pair_info]; rfl), run_E W _ 0 t (rg_top h.p), run_E W _ 13 b (rg_bot h.p), run_E W _ 0 s (rg_sys h.len.2.2 h.q)⟩
set_option maxHeartbeats 8000000 in
set_option maxRecDepth 100000 in
theorem hasBetween_any (t b s : List Int) (gt : goodB t = true) (gb : goodB b = true) (gs : goodB s = true) (hl : t.length = b.length) (hs : s.length = t.length) (w : World) :
    Calls Try.prog 53 #[.agg (pairC t b), .agg (sysC s)] w (Tells w (btwB t b s)) := by
  have l1 := good_len' gt; have l2 := good_len' gb; have l3 := good_len' gs
  have d1 := distL_bd t s l1; have d2 := distL_bd s b l3; have d3 := distL_bd t b l1
  have HD1 := Lib.hid (fun w => distance_any t s gt gs hs.symm w)
  have HD2 := Lib.hid (fun w => distance_any s b gs gb (by omega) w)
  have HD3 := Lib.hid (fun w => distance_any t b gt gb hl w)
  have hS0 : BS w t b s ((w.alloc (.cells (pairC t b) 55)).alloc (.cells (sysC s) 53)) := by
    have hq : SysIn ((w.alloc (.cells (pairC t b) 55)).alloc (.cells (sysC s) 53)) (w.alloc (.cells (pairC t b) 55)).heap.size s := heap_alloc_new _ _
    rw [World.size_alloc] at hq
    exact ⟨(PairIn.new w t b).below (Below.alloc1 _ _), hq, Below.step (Below.alloc1 _ _) (Below.alloc1 _ _), l1, l2, l3⟩
  have hS := (hS0.below (Below.refl _ _).drew).to
  have hbt : btwB t b s = (distL t s + distL s b == distL t b) := by unfold btwB; rw [Bool.eq_iff_iff]; simp
  rw [hbt]
  generalize distL t s = x at *
  generalize distL s b = y at *
  generalize distL t b = z at *
  have hw : IntKind.i64.wrap (x + y) = x + y := IntWalk.i64_in _ (by omega)
  clear hS0 hbt gt gb gs hl hs d1 d2 d3
  go_enter Try.func53, Try.ntmps53
  go_wp2_with fail
  go_region_held3 (fun W => Hid (BS w t b s W) ∧ (loadD (.pointer (some ⟨w.heap.size, 0, none⟩))).run Try.prog W = .ok (.agg (pairC t b)) W ∧ (loadE (.pointer (some ⟨w.heap.size, 0, none⟩))).run Try.prog W = .ok (.agg #[sysV t 0, sysV t 1, sysV t 2, sysV t 3, sysV t 4, sysV t 5, sysV t 6, sysV t 7, sysV t 8, sysV t 9, sysV t 10, sysV t 11, sysV t 12]) W ∧ (loadE (.pointer (some ⟨w.heap.size, 13, none⟩))).run Try.prog W = .ok (.agg #[sysV b 0, sysV b 1, sysV b 2, sysV b 3, sysV b 4, sysV b 5, sysV b 6, sysV b 7, sysV b 8, sysV b 9, sysV b 10, sysV b 11, sysV b 12]) W ∧ (loadE (.pointer (some ⟨w.heap.size + 1, 0, none⟩))).run Try.prog W = .ok (.agg #[sysV s 0, sysV s 1, sysV s 2, sysV s 3, sysV s 4, sysV s 5, sysV s 6, sysV s 7, sysV s 8, sysV s 9, sysV s 10, sysV s 11, sysV s 12]) W)
    (first | assumption | exact ((by assumption : Hid (BS w t b s _) ∧ _).1.out.below (by assumption)).to)
    (first
      | (go_at_call_of 75 (Value.agg #[sysV t 0, sysV t 1, sysV t 2, sysV t 3, sysV t 4, sysV t 5, sysV t 6, sysV t 7, sysV t 8, sysV t 9, sysV t 10, sysV t 11, sysV t 12, sysV s 0, sysV s 1, sysV s 2, sysV s 3, sysV s 4, sysV s 5, sysV s 6, sysV s 7, sysV s 8, sysV s 9, sysV s 10, sysV s 11, sysV s 12]); ((refine (HD1.out _).mono ?_); rintro e w5 ⟨rfl, hb5⟩; have HBB := Lib.hid ((by assumption : Hid (BS w t b s _) ∧ _).1.out.below hb5).bel))
      | (go_at_call_of 75 (Value.agg #[sysV s 0, sysV s 1, sysV s 2, sysV s 3, sysV s 4, sysV s 5, sysV s 6, sysV s 7, sysV s 8, sysV s 9, sysV s 10, sysV s 11, sysV s 12, sysV b 0, sysV b 1, sysV b 2, sysV b 3, sysV b 4, sysV b 5, sysV b 6, sysV b 7, sysV b 8, sysV b 9, sysV b 10, sysV b 11, sysV b 12]); ((refine (HD2.out _).mono ?_); rintro e w5 ⟨rfl, hb5⟩; have HBB := Lib.hid ((by assumption : Hid (BS w t b s _) ∧ _).1.out.below hb5).bel))
      | (go_at_call_of 75 (Value.agg (pairC t b)); ((refine (HD3.out _).mono ?_); rintro e w5 ⟨rfl, hb5⟩; have HBB := Lib.hid ((by assumption : Hid (BS w t b s _) ∧ _).1.out.below hb5).bel)))
  all_goals
    go_wp2
    go_ret
    exact ⟨rfl, HBB.out⟩

set_option maxHeartbeats 2000000 in
set_option maxRecDepth 100000 in
theorem chosenBtw_any (t b : List Int) (gt : goodB t = true) (gb : goodB b = true) (hl : t.length = b.length) (ls : List (List Int)) (hgd : ∀ k, k < ls.length → goodB (ls.getD k []) = true) (hlen : ∀ k, k < ls.length → (ls.getD k []).length = t.length) (hn : ls.length ≤ 20000) (B : Nat) (w : World) (v : Value) (hown : OwnS B w v ls) :
    Calls Try.prog 50 #[v, .func (.func 53) #[.agg (pairC t b)] #[]] w (MadeS w (ls.filter (btwB t b))) := by
  have HCK := Lib.hid (fun k (hk : k < ls.length) w => hasBetween_any t b (ls.getD k []) gt gb (hgd k hk) hl (hlen k hk) w)
  have HGL := Lib.hid (fun k (hk : k < ls.length) => good_len' (hgd k hk))
  have HFT := Lib.hid (fun k => filter_take_succ (btwB t b) ls k)
  have HFL : Hid (∀ k, ((ls.take k).filter (btwB t b)).length ≤ ls.length) := fun k => Nat.le_trans (List.length_filter_le _ _) (by rw [List.length_take]; omega)
  have hfl : ls.filter (btwB t b) = (ls.take ls.length).filter (btwB t b) := by rw [List.take_length]
  rw [hfl]
  clear hfl hgd hlen gt gb hl
  obtain ⟨a0, c0, rfl, hx1, hx2⟩ := hown.form
  unfold maxLen at hx2
  have HO := Lib.hid hown
  clear hown
  go_enter Try.func50, Try.ntmps50
  go_wp2_with fail
  go_loopw [5, 10] (fun o i wr => ∃ k : Nat, k ≤ ls.length ∧ i = .int .i64 (k : Int) ∧ OwnS w.heap.size wr o ((ls.take k).filter (btwB t b)) ∧ Below w.heap.size w wr) (fun _ i _ => ls.length - (intOf i).toNat)
  case atStart => exact ⟨0, by omega, rfl, OwnS.nil _ _, Below.refl _ _⟩
  case round =>
    obtain ⟨k, hk, rfl, hown, hbel⟩ := hrel
    generalize wr = wc at *
    by_cases hlt : k < ls.length
    · obtain ⟨g, rfl, hy1, hy2, hy3, hrg⟩ := (HO.out.below hbel).at (by omega)
      have hr := hrg k hlt
      have hsuc := HFT.out k hlt
      have hle := HFL.out k
      have hcall := HCK.out k hlt
      have hgl := HGL.out k hlt
      generalize ls.getD k [] = s at *
      generalize btwB t b s = M at *
      generalize (ls.take k).filter (btwB t b) = S at *
      have HR := Lib.hid hr; have HCL := Lib.hid hcall; have HOQ := Lib.hid hown; have HBE := Lib.hid hbel; have HSU := Lib.hid hsuc; have HGL2 := Lib.hid hgl
      have hsz := hbel.size
      clear hy1 hy2 hy3 hrg hr hcall hown hbel hsuc hgl
      cases M with
      | true =>
        go_wp2_with (first
          | (with_reducible refine boxS_load rfl (.tmp 12) rfl g (k * 13) s HGL2.out rfl HR.out ?_)
          | ((with_reducible refine wp_storeNew rfl (.tmp 7) (.tmp 13) rfl _ s HGL2.out rfl rfl ?_); intro w5 hs5 hb5; have HS5 := Lib.hid hs5; have HB5 := Lib.hid hb5; clear hs5 hb5)
          | (with_reducible refine wp_loadSys rfl (.tmp 7) rfl wc.heap.size s HGL2.out rfl HS5.out ?_)
          | (go_at_call 53; ((with_reducible refine (HCL.out _).mono ?_); rintro e w6 ⟨rfl, hb6⟩; have HS6 := Lib.hid (HS5.out.below hb6); have HB6 := Lib.hid (Below.step HB5.out hb6); clear hb6))
          | (with_reducible refine wp_loadSys rfl (.tmp 7) rfl wc.heap.size s HGL2.out rfl HS6.out ?_)
          | (with_reducible refine wp_buildS _ rfl (.tmp 18) rfl s HGL2.out rfl ?_)
          | (at_builtin; refine wp_appendS _ rfl (.tmp 17) (.tmp 19) rfl w.heap.size w6.heap.size 1 1 _ S [s] rfl rfl rfl (fun j hj => builtS w6 s HGL2.out j (by simpa using hj)) ((HOQ.out.below HB6.out).below (Below.alloc1 _ _)) (by simp only [List.length_cons, List.length_nil]; omega) (by have := HB6.out.size; simp; omega) ?_; intro o' w7 ho7 hg7 hb7 hw7; have HO7 := Lib.hid ho7; have HB7 := Lib.hid (chain1 HBE.out hsz HB6.out hb7); clear ho7 hg7 hb7 hw7))
        go_roundw
        case rel => exact ⟨k + 1, by omega, by go_num, by rw [HSU.out]; exact HO7.out, HB7.out⟩
        case measure => simp [intOf]; omega
      | false =>
        go_wp2_with (first
          | (with_reducible refine boxS_load rfl (.tmp 12) rfl g (k * 13) s HGL2.out rfl HR.out ?_)
          | ((with_reducible refine wp_storeNew rfl (.tmp 7) (.tmp 13) rfl _ s HGL2.out rfl rfl ?_); intro w5 hs5 hb5; have HS5 := Lib.hid hs5; have HB5 := Lib.hid hb5; clear hs5 hb5)
          | (with_reducible refine wp_loadSys rfl (.tmp 7) rfl wc.heap.size s HGL2.out rfl HS5.out ?_)
          | (go_at_call 53; ((with_reducible refine (HCL.out _).mono ?_); rintro e w6 ⟨rfl, hb6⟩; have HB6 := Lib.hid (Below.step HB5.out hb6); clear hb6)))
        go_roundw
        case rel => exact ⟨k + 1, by omega, by go_num, by rw [HSU.out]; simpa using HOQ.out.below HB6.out, Below.step HBE.out HB6.out⟩
        case measure => simp [intOf]; omega
    · obtain rfl : k = ls.length := by omega
      obtain ⟨a5, c5, rfl, _⟩ := hown.form
      have HOQ := Lib.hid hown; have HBE := Lib.hid hbel
      clear hown hbel
      go_wp2_with fail
      go_ret
      exact ⟨_, rfl, HOQ.out, HBE.out⟩



theorem results_rf (tmps : Array Value) (w : World) (g : Nat) (t b : List Int) (ok : Bool) (hg : PairIn w g t b) (h2 : tmps.getD 4 undef = .pointer (some ⟨g, 0, none⟩)) (h3 : tmps.getD 5 undef = .bool ok) :
    (results Try.f46 tmps).run Try.prog w = .ok (.tuple #[.agg (pairC t b), .bool ok]) w := by
  have h2' : tmps[4]?.getD undef = .pointer (some ⟨g, 0, none⟩) := by simpa using h2
  have h3' : tmps[5]?.getD undef = .bool ok := by simpa using h3
  have hr : Try.f46.results = #[.cell 4 55, .tmp 5] := by kernel_rfl
  simp [results, hr, h2', h3', asAddr, run_loadPair w g t b hg]
set_option maxHeartbeats 4000000 in
theorem readFew_any (t b : List Int) (w : World) (u1 u2 : Value) (h1 : Rd w u1 t) (h2 : Rd w u2 b) :
    Calls Try.prog 46 #[u1, u2] w (PairOut w (if fewB t b then t else []) (if fewB t b then b else []) (fewB t b)) := by
  have hP := zero_in w
  have B1 := Below.alloc1 w (.cells zeroQ 55)
  have hrd := readBoth_any t b _ u1 u2 (h1.below B1) (h2.below B1)
  have HSZ := Lib.hid (fun w => pairSize_any t b w)
  have HP := Lib.hid hP; have HB := Lib.hid B1
  obtain ⟨a1, c1, rfl, _⟩ := h1
  obtain ⟨a2, c2, rfl, _⟩ := h2
  clear hP B1
  unfold zeroQ fewB at *
  cases h : pairOk t b with
  | false =>
    rw [h] at hrd
    simp only [Bool.false_eq_true, if_false, Bool.false_and] at hrd ⊢
    have HR := Lib.hid hrd; clear hrd h HSZ
    go_enter Try.func46, Try.ntmps46
    go_wp2_with (first
      | (go_at_call 40; ((with_reducible refine HR.out.mono ?_); rintro e w1 ⟨rfl, hb1⟩; have HP1 := Lib.hid (HP.out.below hb1); have HB1 := Lib.hid (Below.step HB.out hb1); clear hb1))
      | ((with_reducible refine wp_storePairN rfl (.tmp 6) (.tmp 12) rfl [] [] rfl rfl ?_); intro w2 hs2 hb2; have HP2 := Lib.hid (HP1.out.below hb2); have HB2 := Lib.hid (Below.step HB1.out hb2); clear hs2 hb2)
      | ((with_reducible refine wp_storePair rfl (.tmp 4) (.tmp 21) rfl w.heap.size [] [] [] [] rfl rfl HP2.out ?_); intro w5 hp5 hg5))
    exact bodyPost_ret (results_rf _ _ w.heap.size [] [] false hp5 rfl rfl) rfl ⟨rfl, HB2.out.grown hg5 HB2.out.size (by intro k hk; simp at hk; omega)⟩
  | true =>
    rw [h] at hrd
    simp only [if_true, Bool.true_and] at hrd ⊢
    have HR := Lib.hid hrd; clear hrd h
    generalize t.length = n at *
    by_cases h0 : n ≤ 10
    · rw [decide_eq_true h0]
      simp only [if_true]
      have hd : ¬ ((10 : Int) < (n : Int)) := by omega
      have hd2 : decide ((10 : Int) < (n : Int)) = false := decide_eq_false hd
      go_enter Try.func46, Try.ntmps46
      go_wp2_with (first
        | (go_at_call 40; ((with_reducible refine HR.out.mono ?_); rintro e w1 ⟨rfl, hb1⟩; have HP1 := Lib.hid (HP.out.below hb1); have HB1 := Lib.hid (Below.step HB.out hb1); clear hb1))
        | ((with_reducible refine wp_storePairN rfl (.tmp 6) (.tmp 12) rfl t b rfl rfl ?_); intro w2 hs2 hb2; have HQ2 := Lib.hid hs2; have HP2 := Lib.hid (HP1.out.below hb2); have HB2 := Lib.hid (Below.step HB1.out hb2); clear hs2 hb2)
        | (with_reducible refine wp_loadPairG (.tmp 6) rfl w1.heap.size t b rfl HQ2.out (by with_unfolding_all rfl) ?_)
        | (go_at_call 52; ((with_reducible refine (HSZ.out _).mono ?_); rintro e w3 ⟨rfl, hb3⟩; have HQ3 := Lib.hid (HQ2.out.below hb3); have HP3 := Lib.hid (HP2.out.below hb3); have HB3 := Lib.hid (Below.step HB2.out hb3); clear hb3))
        | (with_reducible refine wp_loadPair rfl (.tmp 6) rfl w1.heap.size t b rfl HQ3.out ?_)
        | ((with_reducible refine wp_storePair rfl (.tmp 4) (.tmp 22) rfl w.heap.size t b [] [] rfl rfl HP3.out ?_); intro w5 hp5 hg5))
      exact bodyPost_ret (results_rf _ _ w.heap.size t b true hp5 rfl rfl) rfl ⟨rfl, HB3.out.grown hg5 HB3.out.size (by intro k hk; simp at hk; omega)⟩
    · rw [decide_eq_false h0]
      simp only [Bool.false_eq_true, if_false]
      have hd : (10 : Int) < (n : Int) := by omega
      have hd2 : decide ((10 : Int) < (n : Int)) = true := decide_eq_true hd
      go_enter Try.func46, Try.ntmps46
      go_wp2_with (first
        | (go_at_call 40; ((with_reducible refine HR.out.mono ?_); rintro e w1 ⟨rfl, hb1⟩; have HP1 := Lib.hid (HP.out.below hb1); have HB1 := Lib.hid (Below.step HB.out hb1); clear hb1))
        | ((with_reducible refine wp_storePairN rfl (.tmp 6) (.tmp 12) rfl t b rfl rfl ?_); intro w2 hs2 hb2; have HQ2 := Lib.hid hs2; have HP2 := Lib.hid (HP1.out.below hb2); have HB2 := Lib.hid (Below.step HB1.out hb2); clear hs2 hb2)
        | (with_reducible refine wp_loadPairG (.tmp 6) rfl w1.heap.size t b rfl HQ2.out (by with_unfolding_all rfl) ?_)
        | (go_at_call 52; ((with_reducible refine (HSZ.out _).mono ?_); rintro e w3 ⟨rfl, hb3⟩; have HP3 := Lib.hid (HP2.out.below hb3); have HB3 := Lib.hid (Below.step HB2.out hb3); clear hb3))
        | ((with_reducible refine wp_storePair rfl (.tmp 4) (.tmp 21) rfl w.heap.size [] [] [] [] rfl rfl HP3.out ?_); intro w5 hp5 hg5))
      exact bodyPost_ret (results_rf _ _ w.heap.size [] [] false hp5 rfl rfl) rfl ⟨rfl, HB3.out.grown hg5 HB3.out.size (by intro k hk; simp at hk; omega)⟩

structure QP (w : World) (g : Nat) (t b : List Int) (W : World) : Prop where
  p : PairIn W g t b
  bel : Below w.heap.size w W
theorem QP.below {w W W' : World} {g : Nat} {t b : List Int} (h : QP w g t b W) (hb : Below W.heap.size W W') : QP w g t b W' := ⟨h.p.below hb, Below.step h.bel hb⟩
attribute [local go_sem ↓] lQ_eqD
theorem QP.to {w W : World} {g : Nat} {t b : List Int} {P : Array Value} (e : pairC t b = P) (h : QP w g t b W) : Hid (QP w g t b W) ∧ (loadD (.pointer (some ⟨g, 0, none⟩))).run Try.prog W = .ok (.agg P) W :=
  ⟨h, by rw [← e]; exact run_loadAt_mid W g 0 55 (pairC t b).toList _ (row_atP h.p) Try.underlying55 rfl (by rw [pair_info]; rfl)⟩
theorem qp_keep {w W W' : World} {g : Nat} {t b : List Int} {P : Array Value} (e : pairC t b = P) (h : Hid (QP w g t b W) ∧ (loadD (.pointer (some ⟨g, 0, none⟩))).run Try.prog W = .ok (.agg P) W) (hb : Below W.heap.size W W') : Hid (QP w g t b W') ∧ (loadD (.pointer (some ⟨g, 0, none⟩))).run Try.prog W' = .ok (.agg P) W' := (h.1.out.below hb).to e
set_option maxHeartbeats 4000000 in
set_option maxRecDepth 100000 in
theorem impl_BetweenSystems (t b : List Int) (w : World) (u1 u2 : Value) (h1 : Rd w u1 t) (h2 : Rd w u2 b) (m1 : t.length ≤ 1048576) (m2 : b.length ≤ 1048576) :
    Calls Try.prog 21 #[u1, u2] w (GivesLL w (res_BetweenSystems t b) (ok_BetweenSystems t b)) := by
  unfold res_BetweenSystems ok_BetweenSystems
  have hrd := readFew_any t b w u1 u2 h1 h2
  obtain ⟨a1, c1, rfl, _⟩ := h1
  obtain ⟨a2, c2, rfl, _⟩ := h2
  clear m1 m2
  cases h : fewB t b with
  | false =>
    rw [h] at hrd
    simp only [Bool.false_eq_true, if_false] at hrd ⊢
    have HR := Lib.hid hrd; clear hrd h
    go_enter Try.func21, Try.ntmps21
    go_wp2_with (first
      | (go_at_call 46; ((with_reducible refine HR.out.mono ?_); rintro e w1 ⟨rfl, hb1⟩; have HB1 := Lib.hid hb1; clear hb1))
      | ((with_reducible refine wp_storePairN rfl (.tmp 6) (.tmp 12) rfl [] [] rfl rfl ?_); intro w2 hs2 hb2; have HB2 := Lib.hid (Below.step HB1.out hb2); clear hs2 hb2))
    go_ret2
    exact ⟨_, [], rfl, OwnLL.nil _ _ HB2.out.size, HB2.out⟩
  | true =>
    rw [h] at hrd
    obtain ⟨gt, gb, hl, h10⟩ := few_good h
    simp only [if_true] at hrd ⊢
    have hev := (good_facts gt).1
    obtain ⟨n, hn⟩ : ∃ n, t.length = 2 * n := ⟨t.length / 2, by omega⟩
    have hn6 : n ≤ 6 := by omega
    have HR := Lib.hid hrd
    have HSZ := Lib.hid (fun w => pairSize_any t b w)
    have HSO := Lib.hid (fun w => systemsOf_any n hn6 w)
    have hsh : (allL n).length ≤ 1000 := ahL_short (by omega) (by omega)
    have HCH := Lib.hid (fun B w v ho => chosenBtw_any t b gt gb hl (allL n) (fun k hk => (allL_good hn6 hk).1) (fun k hk => by rw [(allL_good hn6 hk).2, hn]) (by omega) B w v ho)
    obtain ⟨hfl, hfk⟩ := allL_facts hn6 (btwB t b)
    have HLI := Lib.hid (fun B w v ho => listsSys_any ((allL n).filter (btwB t b)) hfk (by omega) B w v ho)
    rw [hn] at HSZ HR ⊢
    rw [Nat.mul_div_cancel_left _ (by omega : 0 < 2)]
    generalize (allL n).filter (btwB t b) = R at *
    generalize allL n = L at *
    obtain ⟨s, hs⟩ : ∃ s, 2 * n = s := ⟨_, rfl⟩
    have hd : (s : Int) / 2 = (n : Int) := by omega
    rw [hs] at HSZ HR ⊢
    have HD := Lib.hid hd
    clear hrd h gt gb hl h10 hev hn hfl hfk hsh hs
    go_enter Try.func21, Try.ntmps21
    go_wp2_with (first
      | (go_at_call 46; ((with_reducible refine HR.out.mono ?_); rintro e w1 ⟨rfl, hb1⟩; have HB1 := Lib.hid hb1; clear hb1))
      | ((with_reducible refine wp_storePairN rfl (.tmp 6) (.tmp 12) rfl t b rfl rfl ?_); intro w2 hs2 hb2; have HQ2 : Hid (QP w w1.heap.size t b w2) := ⟨hs2, Below.step HB1.out hb2⟩; clear hs2 hb2))
    obtain ⟨P, hP⟩ : ∃ P, pairC t b = P := ⟨_, rfl⟩
    have HE := Lib.hid hP
    rw [hP] at HSZ HCH
    have hS := (HQ2.below (Below.refl w2.heap.size w2).drew).to hP
    have hw : IntKind.i64.wrap (n : Int) = (n : Int) := IntWalk.i64_in _ (by omega)
    generalize w1.heap.size = g1 at *
    clear hP
    go_region_held3 (fun W => Hid (QP w g1 t b W) ∧ (loadD (.pointer (some ⟨g1, 0, none⟩))).run Try.prog W = .ok (.agg P) W)
      (first | assumption | exact qp_keep HE.out (by assumption) (by assumption))
      (first
        | (go_at_call 52; ((refine (HSZ.out _).mono ?_); rintro e w5 ⟨rfl, hb5⟩))
        | (go_at_call 51; (try rw [HD.out]); ((refine (HSO.out _).mono ?_); rintro e w6 ⟨v6, rfl, ho6, hb6⟩; obtain ⟨x6, y6, rfl, _⟩ := ho6.form; have HO6 := Lib.hid ho6; clear ho6))
        | (go_at_call 50; ((refine (HCH.out _ _ _ HO6.out).mono ?_); rintro e w7 ⟨v7, rfl, ho7, hb7⟩; obtain ⟨x7, y7, rfl, _⟩ := ho7.form; have HO7 := Lib.hid ho7; clear ho7))
        | (go_at_call 41; ((refine (HLI.out _ _ _ HO7.out).mono ?_); rintro e w8 ⟨v8, vs8, rfl, ho8, hb8⟩; have HZ7 := Lib.hid ((by assumption : Hid (QP w g1 t b w7) ∧ _).1.out.bel); have HO8 := Lib.hid ho8; have HB8 := Lib.hid (Below.step HZ7.out hb8); clear ho8)))
    all_goals
      go_wp2
      go_ret2
      exact ⟨_, vs8, rfl, HO8.out.mono HZ7.out.size (Nat.le_refl _) (Nat.le_refl _), HB8.out⟩

set_option maxHeartbeats 1000000 in
theorem exFew_any (t b : List Int) (w : World) (u1 u2 : Value) (h1 : Rd w u1 t) (h2 : Rd w u2 b) (m1 : t.length ≤ 1048576) (m2 : b.length ≤ 1048576) :
    Calls Try.prog 44 #[u1, u2] w (Tells w (fewB t b)) := by
  have HR := Lib.hid (exPair_any t b w u1 u2 h1 h2 m1 m2)
  unfold fewB
  have hd : decide (t.length ≤ 10) = decide ((t.length : Int) ≤ 10) := by rw [Bool.eq_iff_iff]; simp; omega
  rw [hd]
  generalize pairOk t b = R at *
  obtain ⟨a1, c1, rfl, _⟩ := h1
  obtain ⟨a2, c2, rfl, _⟩ := h2
  generalize t.length = n at *
  clear hd m1 m2
  cases R with
  | true =>
    go_enter Try.func44, Try.ntmps44
    go_wp2_with (go_at_call 38; ((with_reducible refine HR.out.mono ?_); rintro e w1 ⟨rfl, hb1⟩; have HB1 := Lib.hid hb1; clear hb1))
    go_ret
    exact ⟨by simp, HB1.out⟩
  | false =>
    go_enter Try.func44, Try.ntmps44
    go_wp2_with (go_at_call 38; ((with_reducible refine HR.out.mono ?_); rintro e w1 ⟨rfl, hb1⟩; have HB1 := Lib.hid hb1; clear hb1))
    go_ret
    exact ⟨rfl, HB1.out⟩

set_option maxRecDepth 100000 in
set_option maxHeartbeats 8000000 in
theorem spec_btw_run (t b : List Int) (hf : fewB t b = true) (w : World) (u ub : Value) (h : Rd w u t) (h2 : Rd w ub b) (mm : t.length ≤ 1048576) (mm2 : b.length ≤ 1048576) :
    Calls Try.prog 20 #[u, ub] w (GivesLL w ((allL (t.length / 2)).filter (btwB t b)) true) := by
  have hfew := exFew_any t b w u ub h h2 mm mm2
  rw [hf] at hfew
  obtain ⟨gt, gb, hl, h10⟩ := few_good hf
  have hev := (good_facts gt).1
  obtain ⟨m, hm2⟩ : ∃ m, t.length = 2 * m := ⟨t.length / 2, by omega⟩
  have hm6 : m ≤ 6 := by omega
  rw [show t.length / 2 = m by omega]
  have hgl : ∀ k, k < (allL m).length → goodB ((allL m).getD k []) = true ∧ ((allL m).getD k []).length = t.length := fun k hk => ⟨(allL_good hm6 hk).1, by rw [(allL_good hm6 hk).2, hm2]⟩
  have hd1 : ∀ k, k < (allL m).length → ∀ w u1 u2, Rd w u1 t → Rd w u2 ((allL m).getD k []) → Calls Try.prog 49 #[u1, u2] w fun e w' => e = .returned (.int .i64 (distL t ((allL m).getD k []))) ∧ Below w.heap.size w w' :=
    fun k hk w u1 u2 h1 h2 => exDistance_any t ((allL m).getD k []) gt (hgl k hk).1 (hgl k hk).2.symm w u1 u2 h1 h2
  have hd2 : ∀ k, k < (allL m).length → ∀ w u1 u2, Rd w u1 ((allL m).getD k []) → Rd w u2 b → Calls Try.prog 49 #[u1, u2] w fun e w' => e = .returned (.int .i64 (distL ((allL m).getD k []) b)) ∧ Below w.heap.size w w' :=
    fun k hk w u1 u2 h1 h2 => exDistance_any ((allL m).getD k []) b (hgl k hk).1 gb (by rw [(hgl k hk).2, hl]) w u1 u2 h1 h2
  have hd3 : ∀ w u1 u2, Rd w u1 t → Rd w u2 b → Calls Try.prog 49 #[u1, u2] w fun e w' => e = .returned (.int .i64 (distL t b)) ∧ Below w.heap.size w w' :=
    fun w u1 u2 h1 h2 => exDistance_any t b gt gb hl w u1 u2 h1 h2
  have hbd : ∀ k, k < (allL m).length → (-12 ≤ distL t ((allL m).getD k []) ∧ distL t ((allL m).getD k []) ≤ 6) ∧ (-12 ≤ distL ((allL m).getD k []) b ∧ distL ((allL m).getD k []) b ≤ 6) :=
    fun k hk => ⟨distL_bd _ _ (by omega), distL_bd _ _ (by have := (hgl k hk).2; omega)⟩
  have hah : ∀ w, Calls Try.prog 48 #[.int .i64 (m : Int), .int .i64 0] w (MadeLL w (allL m)) := fun w => ahAll_any 7 m 0 w (by omega) (by omega) hm6 (by omega)
  have hsh : (allL m).length ≤ 1000 := ahL_short (by omega) (by omega)
  have hbt : ∀ q, btwB t b q = (distL t q + distL q b == distL t b) := fun q => by unfold btwB; rw [Bool.eq_iff_iff]; simp
  have HBT := Lib.hid hbt
  generalize btwB t b = bt at *
  generalize distL t b = Z at *
  have HFT := Lib.hid (fun k => filter_take_succ bt (allL m) k)
  have hfl : (allL m).filter bt = ((allL m).take (allL m).length).filter bt := by rw [List.take_length]
  rw [hfl]
  clear hfl hbt
  generalize allL m = L at *
  have HFL : Hid (∀ k, ((L.take k).filter bt).length ≤ 1000) := fun k => Nat.le_trans (List.length_filter_le _ _) (by rw [List.length_take]; omega)
  have HD1 := Lib.hid hd1; have HD2 := Lib.hid hd2; have HD3 := Lib.hid hd3; have HBD := Lib.hid hbd; have HAH := Lib.hid hah; have HG := Lib.hid hfew
  have hh := h; have hh2 := h2
  obtain ⟨au0, cu0, rfl, hx1, hx2, _⟩ := h
  obtain ⟨au1, cu1, rfl, _⟩ := h2
  obtain ⟨n, hn⟩ : ∃ n, n = t.length := ⟨_, rfl⟩
  rw [← hn] at hm2 hx1 hh HG ⊢
  have HH := Lib.hid hh; have HH2 := Lib.hid hh2
  have HE : Hid ((n : Int) / 2 = (m : Int)) := by show (n : Int) / 2 = (m : Int); omega
  have hn12 : n ≤ 12 := by omega
  unfold maxLen at hx2
  clear hd1 hd2 hd3 hbd hah gt gb hl h10 hev hn hm2 hh hh2 hfew hgl hf
  go_enter Try.func20, Try.ntmps20
  go_wp2_with (first
    | (go_at_call 44; ((with_reducible refine HG.out.mono ?_); rintro e w0 ⟨rfl, hb0⟩; have HB0 := Lib.hid hb0; clear hb0))
    | (go_at_call 48; rw [HE.out]; ((with_reducible refine (HAH.out _).mono ?_); rintro e w1 ⟨vu, us, rfl, hU, hb1⟩; obtain ⟨au, cu, rfl, hcu1, hcu2⟩ := hU.form; unfold maxLen at hcu2)))
  have hb10 := Below.step HB0.out hb1
  have hU := hU.mono HB0.out.size (Nat.le_refl _) (Nat.le_refl _)
  clear hb1
  go_loopw [6, 18] (fun o i wr => ∃ (k : Nat) (vs : List Value), k ≤ L.length ∧ i = .int .i64 (k : Int) ∧ OwnLL w.heap.size wr.heap.size wr o vs ((L.take k).filter bt) ∧ (∀ i, i < vs.length → ∃ j, j < k ∧ rowV vs i = rowV us j) ∧ OwnLL w.heap.size w1.heap.size wr (.slice au L.length cu) us L ∧ Away o w.heap.size w1.heap.size ∧ w1.heap.size ≤ wr.heap.size ∧ Below w.heap.size w wr) (fun _ i _ => L.length - (intOf i).toNat)
  case atStart => exact ⟨0, [], by omega, rfl, OwnLL.nil _ _ hb10.size, fun i hi => by simp at hi, hU, fun k hk => by simp [Value.ownBlock] at hk, Nat.le_refl _, hb10⟩
  case round =>
    obtain ⟨k, vs, hk, rfl, hown, hfrom, hUk, haw, hwk, hbel⟩ := hrel
    clear hU hb10
    generalize wr = wc at *
    by_cases hlt : k < L.length
    · obtain ⟨gu, rfl, hgu0, hgu1, hcell, _⟩ := hUk.at (by omega)
      have hck := hcell k hlt
      have hru := hUk.own k hlt
      have hft := HFT.out k hlt
      have hm1 := HD1.out k hlt
      have hm2 := HD2.out k hlt
      have hbd := HBD.out k hlt
      have hapt : ∀ i, i < ((L.take k).filter bt).length → ∀ kk, (rowV us k).ownBlock = some kk → (rowV vs i).ownBlock ≠ some kk := by
        intro i hi kk hp
        obtain ⟨j, hj, e⟩ := hfrom i (by rw [hown.len]; exact hi)
        rw [e]
        exact hUk.apart k j hlt (by omega) (by omega) kk hp
      have hfl := HFL.out k
      rw [HBT.out] at hft
      generalize (L.take k).filter bt = O at *
      generalize L.getD k [] = q at *
      generalize distL t q = X at *
      generalize distL q b = Y at *
      generalize hpe : rowV us k = pu at *
      obtain ⟨p1, p2, p3, rfl⟩ := hru.form'
      have hw : IntKind.i64.wrap (X + Y) = X + Y := IntWalk.i64_in _ (by omega)
      have HM1 := Lib.hid hm1; have HM2 := Lib.hid hm2; have HF2 := Lib.hid hft; have HAP := Lib.hid hapt; have HOL := Lib.hid hfl; have HRU := Lib.hid hru; have HO := Lib.hid hown; have HFR := Lib.hid hfrom; have HUK := Lib.hid hUk; have HAW := Lib.hid haw; have HBE := Lib.hid hbel; have HPE := Lib.hid hpe
      have hsz := hbel.size
      clear hcell hru hft hm1 hm2 hapt hfl hown hfrom hUk haw hbel hpe hbd
      by_cases hc : X + Y = Z
      · subst hc
        have hc' : (X + Y == X + Y) = true := by simp
        have HC' := Lib.hid hc'
        go_wp2_with (first
          | (go_at_call 49; ((with_reducible refine (HM1.out _ _ _ (HH.out.below HBE.out) HRU.out.rd).mono ?_); rintro e w2 ⟨rfl, hb2⟩; have HB2 := Lib.hid hb2; clear hb2))
          | (go_at_call 49; ((with_reducible refine (HM2.out _ _ _ (HRU.out.below HB2.out).rd (HH2.out.below (Below.step HBE.out HB2.out))).mono ?_); rintro e w3 ⟨rfl, hb3⟩; have HB3 := Lib.hid (Below.step HB2.out hb3); clear hb3))
          | (go_at_call 49; ((with_reducible refine (HD3.out _ _ _ (HH.out.below (Below.step HBE.out HB3.out)) (HH2.out.below (Below.step HBE.out HB3.out))).mono ?_); rintro e w4 ⟨rfl, hb4⟩; have HB4 := Lib.hid (Below.step HB3.out hb4); have HO2 := Lib.hid ((HO.out.below HB4.out).mono (Nat.le_refl _) HB4.out.size (Nat.le_refl _)); have z2 := HB4.out.size; clear hb4))
          | (at_builtin; refine wp_appendLS _ rfl (.tmp 33) (.tmp 35) rfl w.heap.size w4.heap.size w4.heap.size _ (.slice p1 p2 p3) _ O q rfl rfl (cell_lit1 w4 (.slice p1 p2 p3) _) (OwnLL.below HO2.out (Below.alloc1 _ _)) (Own.below (Own.below HRU.out HB4.out) (Below.alloc1 _ _)) HAP.out (by have := HOL.out; omega) (by simp; omega) ?_; intro o' w6 hown6 hgr6 hbel6 hwh6; have hkeep := LL_round HO2.out (Below.alloc1 _ _) hgr6 hwh6; have HKP := Lib.hid hkeep; have HO6 := Lib.hid hown6; have HB6 := Lib.hid ((HBE.out.trans ((HB4.out.trans ((Below.alloc1 w4 (.cells #[.slice p1 p2 p3] 22)).mono z2)).mono hsz)).trans hbel6); clear hkeep hown6 hgr6 hbel6 hwh6))
        go_roundw
        case rel =>
          refine ⟨k + 1, _, by omega, by go_num, by rw [HF2.out, HC'.out]; exact HO6.out, fun i hi => ?_, HKP.out.1 _ _ _ _ _ (HUK.out.below HB4.out) HAW.out, HKP.out.2.1 _ _ HAW.out (by omega), Nat.le_trans hwk (Nat.le_trans z2 HKP.out.2.2.2), HB6.out⟩
          by_cases e : i < vs.length
          · rw [rowV_snoc_lt e]
            obtain ⟨j, hj, e2⟩ := HFR.out i e
            exact ⟨j, by omega, e2⟩
          · obtain rfl : i = vs.length := by simp at hi; omega
            rw [rowV_snoc_eq]
            exact ⟨k, by omega, HPE.out.symm⟩
        case measure => simp [intOf]; omega
      · have hc' : (X + Y == Z) = false := by simp [hc]
        have HC' := Lib.hid hc'
        go_wp2_with (first
          | (go_at_call 49; ((with_reducible refine (HM1.out _ _ _ (HH.out.below HBE.out) HRU.out.rd).mono ?_); rintro e w2 ⟨rfl, hb2⟩; have HB2 := Lib.hid hb2; clear hb2))
          | (go_at_call 49; ((with_reducible refine (HM2.out _ _ _ (HRU.out.below HB2.out).rd (HH2.out.below (Below.step HBE.out HB2.out))).mono ?_); rintro e w3 ⟨rfl, hb3⟩; have HB3 := Lib.hid (Below.step HB2.out hb3); clear hb3))
          | (go_at_call 49; ((with_reducible refine (HD3.out _ _ _ (HH.out.below (Below.step HBE.out HB3.out)) (HH2.out.below (Below.step HBE.out HB3.out))).mono ?_); rintro e w4 ⟨rfl, hb4⟩; have HB4 := Lib.hid (Below.step HB3.out hb4); have HO2 := Lib.hid ((HO.out.below HB4.out).mono (Nat.le_refl _) HB4.out.size (Nat.le_refl _)); have z2 := HB4.out.size; clear hb4)))
        go_roundw
        case rel => exact ⟨k + 1, vs, by omega, by go_num, by rw [HF2.out, HC'.out]; simpa using HO2.out, fun i hi => by obtain ⟨j, hj, e2⟩ := HFR.out i hi; exact ⟨j, by omega, e2⟩, HUK.out.below HB4.out, HAW.out, Nat.le_trans hwk z2, Below.step HBE.out HB4.out⟩
        case measure => simp [intOf]; omega
    · obtain rfl : k = L.length := by omega
      obtain ⟨ao, co, rfl, _⟩ := hown.form
      go_wp2
      go_ret2
      exact ⟨_, _, rfl, hown, hbel⟩
set_option maxHeartbeats 1000000 in
theorem spec_BetweenSystems (t b : List Int) (w : World) (u1 u2 : Value) (h1 : Rd w u1 t) (h2 : Rd w u2 b) (m1 : t.length ≤ 1048576) (m2 : b.length ≤ 1048576) :
    Calls Try.prog 20 #[u1, u2] w (GivesLL w (res_BetweenSystems t b) (ok_BetweenSystems t b)) := by
  unfold res_BetweenSystems ok_BetweenSystems
  cases hf : fewB t b with
  | true =>
    simp only [if_true]
    exact spec_btw_run t b hf w u1 u2 h1 h2 m1 m2
  | false =>
    have hfew := exFew_any t b w u1 u2 h1 h2 m1 m2
    rw [hf] at hfew
    have HG := Lib.hid hfew
    obtain ⟨a1, c1, rfl, _⟩ := h1
    obtain ⟨a2, c2, rfl, _⟩ := h2
    clear hfew hf m1 m2
    simp only [Bool.false_eq_true, if_false]
    go_enter Try.func20, Try.ntmps20
    go_wp2_with (go_at_call 44; ((with_reducible refine HG.out.mono ?_); rintro e w0 ⟨rfl, hb0⟩; have HB0 := Lib.hid hb0; clear hb0))
    go_ret2
    exact ⟨_, [], rfl, OwnLL.nil _ _ HB0.out.size, HB0.out⟩

end Go.Proofs.Ytfcjgcbjiongpab
