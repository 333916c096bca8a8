/- ClosedStretches: the program's function. -/
import Derived.Test.YtaeeopdiodaiaaaCutWs
import Derived.Deep.MidRow
import Derived.Great.BuildSlice
namespace Go.Proofs.Ytaeeopdiodaiaaa
open Go.RowKit
set_option linter.unusedSimpArgs false
set_option linter.unusedVariables false

/-! slices of stretches -/
def stRs (ls : List Str) : List Value := ls.flatMap fun p => [.int .i64 (p.1 : Int), .int .i64 (p.2 : Int)]
theorem stRs_append (a b : List Str) : stRs (a ++ b) = stRs a ++ stRs b := by simp [stRs, List.flatMap_append]
theorem stRs_length : ∀ ls : List Str, (stRs ls).length = ls.length * 2
  | [] => rfl
  | l :: ls => by
    have := stRs_length ls
    simp only [stRs, List.flatMap_cons, List.length_append, List.length_cons, List.length_nil] at this ⊢
    omega
theorem stRs_one (ls : List Str) : ∀ v ∈ stRs ls, v.oneCell' = true := by
  intro v hv
  simp only [stRs, List.mem_flatMap] at hv
  obtain ⟨l, _, hv⟩ := hv
  simp only [List.mem_cons, List.not_mem_nil, or_false] at hv
  rcases hv with rfl | rfl <;> rfl
theorem stRs_get : ∀ (ls : List Str) (k : Nat), k < ls.length → (stRs ls)[k * 2]? = some (.int .i64 ((ls.getD k (0, 0)).1 : Int)) ∧ (stRs ls)[k * 2 + 1]? = some (.int .i64 ((ls.getD k (0, 0)).2 : Int))
  | [], k, h => by simp at h
  | l :: ls, 0, _ => by simp [stRs]
  | l :: ls, k + 1, h => by
    have := stRs_get ls k (by simpa using h)
    have e1 : (k + 1) * 2 = k * 2 + 1 + 1 := by omega
    simp only [stRs, List.flatMap_cons, e1] at this ⊢
    simpa using this
def OwnT (B : Nat) (w : World) (v : Value) (ls : List Str) : Prop := w.ownsRow B 58 2 v ls.length (stRs ls)
theorem OwnT.nil (B : Nat) (w : World) : OwnT B w (.slice none 0 0) [] := World.ownsRow_nil w B _ _
theorem OwnT.below {B : Nat} {w w' : World} {v : Value} {ls : List Str} (h : OwnT B w v ls) (hb : Below w.heap.size w w') : OwnT B w' v ls := by
  refine ⟨h.1, ?_⟩
  rcases h.2 with hn | ⟨g, cap, cur, hv, hB, hg, rest⟩
  · exact .inl hn
  · exact .inr ⟨g, cap, cur, hv, hB, (hb.block g (Array.getElem?_eq_some_iff.1 hg).1).trans hg, rest⟩
theorem OwnT.lt {B : Nat} {w : World} {v : Value} {ls : List Str} (h : OwnT B w v ls) : ∀ k, v.ownBlock = some k → B ≤ k ∧ k < w.heap.size := World.ownsRow.lt h
theorem OwnT.form {B : Nat} {w : World} {v : Value} {ls : List Str} (h : OwnT B w v ls) : ∃ a c, v = .slice a ls.length c ∧ ls.length ≤ c ∧ c ≤ maxLen := by
  rcases h.2 with ⟨rfl, hn⟩ | ⟨g, cap, cur, hv, hB, hg, hnc, hcm, _⟩
  · exact ⟨none, 0, by rw [hn], by omega, by unfold maxLen; omega⟩
  · exact ⟨_, cap, hv, hnc, hcm⟩
theorem OwnT.at {B n c : Nat} {a : Option Addr} {w : World} {ls : List Str} (h : OwnT B w (.slice a n c) ls) (k : Nat) (hk : k < ls.length) :
    ∃ g, a = some ⟨g, 0, none⟩ ∧ w.cell? ⟨g, k * 2, none⟩ = some (.int .i64 ((ls.getD k (0, 0)).1 : Int)) ∧ w.cell? ⟨g, k * 2 + 1, none⟩ = some (.int .i64 ((ls.getD k (0, 0)).2 : Int)) := by
  have h1 := h
  rcases h.2 with ⟨_, hn⟩ | ⟨g, cap, cur, hv, hB, hg, hnc, hcm, _⟩
  · omega
  · have hn : n = ls.length := by simp at hv; exact hv.2.1
    have ha : a = some ⟨g, 0, none⟩ := by simp at hv; exact hv.1
    subst ha; subst hn
    have hg2 := stRs_get ls k hk
    refine ⟨g, rfl, ?_, ?_⟩
    · rw [World.ownsRow.cellAt h1 _ (by omega)]; exact hg2.1
    · rw [World.ownsRow.cellAt h1 _ (by omega)]; exact hg2.2
theorem str_zero : (Try.prog.info? 58).map (fun i => (i.zero, i.size, i.bytes)) = some (some (.agg #[.int .i64 0, .int .i64 0]), 2, 16) := by kernel_rfl
theorem wp_appendT {ops : Array Oper} {rest : List Oper} {o : Oper} {a : Act} {Q : Exit → Act → World → Prop} (w : World)
    (hg : o.guard = none) (s x : Operand) (hop : o.op = Op.call { callee := Callee.builtin Builtin.append, args := #[s, x], argTypes := #[68, 68] })
    (B g : Nat) (v : Value) (ls : List Str) (p : Str) (hs : a.eval s = v) (hx : a.eval x = .slice (some ⟨g, 0, none⟩) 1 1) (hc0 : w.cell? ⟨g, 0, none⟩ = some (.int .i64 (p.1 : Int))) (hc1 : w.cell? ⟨g, 1, none⟩ = some (.int .i64 (p.2 : Int)))
    (hown : OwnT B w v ls) (hlen : ls.length ≤ 1000000) (hB : B ≤ w.heap.size)
    (hK : ∀ v' w', OwnT B w' v' (ls ++ [p]) → Below B w w' → wpList Try.prog ops Q rest (a.put o.dst v') w') :
    wpList Try.prog ops Q (o :: rest) a w := by
  obtain ⟨i0, hi0, hz0, hz1, hz2⟩ := info_parts str_zero
  have hnews : ∀ j u, (stRs [p])[j]? = some u → w.cell? ((⟨g, 0, none⟩ : Addr).add j) = some u := by
    intro j u hj
    rw [Addr.add_mid, Nat.zero_add]
    have hlt : j < 2 := (List.getElem?_eq_some_iff.1 hj).1
    have : j = 0 ∨ j = 1 := by omega
    rcases this with rfl | rfl
    · simp [stRs] at hj; subst hj; exact hc0
    · simp [stRs] at hj; subst hj; exact hc1
  obtain ⟨v', w', hr, h1, h2, _⟩ := run_append_own (P := Try.prog) w B 68 o.type 58 i0 _ 2 16 Try.underlying68 hi0 hz0 hz1 hz2 rfl (by decide) v ls.length (stRs ls) hown ⟨g, 0, none⟩ 1 1 (stRs [p]) (by rw [stRs_length]; rfl) hnews (stRs_one [p]) (by unfold maxLen; omega) (by omega) hB
  refine wpList_plain hg fun _ hK' => ?_
  unfold Oper.wp execOp
  simp only [hop, resolve, invoke, builtin, Sem.run_bind, Sem.run_pure, Result.andThen_ok, List.map_toArray, List.map_cons, List.map_nil, hs, hx, hr]
  have hown' : OwnT B w' v' (ls ++ [p]) := by
    unfold OwnT
    rw [List.length_append, stRs_append]
    exact h1
  exact hK' _ _ (hK v' w' hown' (below_grown h2 hB fun k hk => (hown.lt k hk).1))
def MadeT (w : World) (ls : List Str) (e : Ending) (w' : World) : Prop := ∃ v, e = .returned v ∧ OwnT w.heap.size w' v ls ∧ Below w.heap.size w w'

theorem strLen_any (i j : Int) (w : World) (hi : 0 ≤ i) (hj : j ≤ 100) (hij : i ≤ j) : Calls Try.prog 70 #[.agg #[.int .i64 i, .int .i64 j]] w fun e w' => e = .returned (.int .i64 (j - i + 1)) ∧ Below w.heap.size w w' := by
  have h := StrIn.new w i j
  have c0 := h.c0; have c1 := h.c1
  clear h
  go_enter Try.func70, Try.ntmps70
  go_wp2
  go_ret
  exact ⟨rfl, Below.alloc1 _ _⟩
theorem strList_any (i j : Int) (w : World) : Calls Try.prog 112 #[.agg #[.int .i64 i, .int .i64 j]] w (Made w [i, j]) := by
  have h := StrIn.new w i j
  have c0 := h.c0; have c1 := h.c1
  have HB := Lib.hid (Below.alloc1 w (.cells #[.int .i64 i, .int .i64 j] 58))
  clear h
  go_enter Try.func112, Try.ntmps112
  go_wp2
  go_ret
  have h2 := own_row2 (w.alloc (.cells #[.int .i64 i, .int .i64 j] 58)) i j w.heap.size HB.out.size
  rw [World.size_alloc] at h2
  exact ⟨_, rfl, h2, Below.step HB.out (Below.alloc1 _ _)⟩

/-- the stretches met when i, i + 1 + k are next -/
def propUp (n i k : Nat) : List Str := strUp n i ++ strFrom n i k
theorem propUp_next (n i k : Nat) (hk : i + 1 + k < n) : propUp n i (k + 1) = propUp n i k ++ if decide (k + 2 < n) then [(i, i + 1 + k)] else [] := by
  unfold propUp
  rw [strFrom]
  by_cases h : k + 2 < n
  · rw [if_pos ⟨by omega, h⟩, ← List.append_assoc]; simp [h]
  · rw [if_neg (by omega)]; simp [h]
theorem propUp_row (n i : Nat) : propUp n i (n - i - 1) = propUp n (i + 1) 0 := by simp [propUp, strFrom, strUp, strRow]
theorem propUp_full (n : Nat) : propUp n n 0 = strAll n := by simp [propUp, strFrom, strAll]
theorem propUp_le (n i k : Nat) (h12 : n ≤ 12) (hi : i ≤ n) (hk : k ≤ n) : (propUp n i k).length ≤ 200 := by
  unfold propUp
  rw [List.length_append]
  have h1 := strUp_len n i
  have h2 := strFrom_len n i k
  have h3 : i * n ≤ 12 * 12 := Nat.mul_le_mul (by omega) h12
  omega
set_option maxHeartbeats 4000000 in
set_option maxRecDepth 100000 in
theorem properStretches_any (n : Nat) (h12 : n ≤ 12) (w : World) : Calls Try.prog 47 #[.int .i64 (n : Int)] w (MadeT w (strAll n)) := by
  have HNX := Lib.hid (fun i k hk => propUp_next n i k hk); have HRW := Lib.hid (fun i => propUp_row n i); have HLE := Lib.hid (fun i k hi hk => propUp_le n i k h12 hi hk)
  rw [← propUp_full]
  go_enter Try.func47, Try.ntmps47
  go_wp2
  go_loopw [3, 8] (fun o x wr => ∃ i : Nat, i ≤ n ∧ x = .int .i64 (i : Int) ∧ OwnT w.heap.size wr o (propUp n i 0) ∧ Hid (Below w.heap.size w wr)) (fun _ x _ => n - (intOf x).toNat)
  case atStart => exact ⟨0, by omega, rfl, by simpa [propUp, strUp, strFrom] using OwnT.nil _ _, Below.refl _ _⟩
  case round =>
    obtain ⟨i, hi, rfl, hown, HBE⟩ := hrel
    generalize wr = wa at *
    by_cases hlt : i < n
    · have HOW := Lib.hid hown; clear hown
      go_wp2
      go_loopw [3, 5] (fun o y wr => ∃ k : Nat, i + 1 + k ≤ n ∧ y = .int .i64 ((i + 1 + k : Nat) : Int) ∧ OwnT w.heap.size wr o (propUp n i k) ∧ Hid (Below w.heap.size w wr)) (fun _ y _ => n - (intOf y).toNat)
      case atStart => exact ⟨0, by omega, by simp, HOW.out, HBE⟩
      case round =>
        obtain ⟨k, hk, rfl, hown, HBF⟩ := hrel
        clear HOW
        generalize wr = wb at *
        by_cases hkl : i + 1 + k < n
        · have hnx := HNX.out i k hkl
          have hle := HLE.out i k (by omega) (by omega)
          generalize propUp n i k = S at *
          obtain ⟨j, hj⟩ : ∃ j, i + 1 + k = j := ⟨_, rfl⟩
          have hk2 : k + 2 = j - i + 1 := by omega
          have hij : i < j := by omega
          rw [hj] at hkl hnx ⊢
          rw [hk2] at hnx
          have HJ := Lib.hid hj
          clear hj hk2
          have hsz := HBF.out.size
          have HLN := Lib.hid (fun w => strLen_any (i : Int) (j : Int) w (by omega) (by omega) (by omega))
          have HOW := Lib.hid hown; have HL := Lib.hid hle
          clear hown hle
          by_cases hp : j - i + 1 < n
          · have hp2 : (j : Int) - (i : Int) + 1 < (n : Int) := by omega
            have hd : decide ((j : Int) - (i : Int) + 1 < (n : Int)) = true := decide_eq_true hp2
            have hsn : propUp n i (k + 1) = S ++ [(i, j)] := by rw [hnx, decide_eq_true hp]; rfl
            have HSN := Lib.hid hsn; clear hsn hnx
            go_wp2_with (first
              | ((with_reducible refine wp_storeStrN rfl (.tmp 6) (.tmp 20) rfl _ _ rfl rfl ?_); intro w5 hs5 hb5; have HS5 := Lib.hid hs5; have HB5 := Lib.hid hb5; clear hs5 hb5)
              | (with_reducible refine wp_loadStr rfl (.tmp 6) rfl wb.heap.size i j rfl HS5.out ?_)
              | (go_at_call 70; ((with_reducible refine (HLN.out _).mono ?_); rintro e w6 ⟨rfl, hb6⟩; have HS6 := Lib.hid (HS5.out.below hb6); have HB6 := Lib.hid (Below.step HB5.out hb6); clear hb6))
              | (with_reducible refine wp_loadStr rfl (.tmp 6) rfl wb.heap.size i j rfl HS6.out ?_)
              | (at_builtin; refine wp_appendT _ rfl (.tmp 25) (.tmp 27) rfl w.heap.size w6.heap.size _ S (i, j) rfl rfl (cells_new w6 (.int .i64 (i : Int)) (.int .i64 (j : Int)) 58).1 (cells_new w6 (.int .i64 (i : Int)) (.int .i64 (j : Int)) 58).2 ((HOW.out.below HB6.out).below (Below.alloc1 _ _)) (by have := HL.out; omega) (by have := HB6.out.size; simp; omega) ?_; intro v' w7 hown7 hbel7; have HO7 := Lib.hid hown7; have HB7 := Lib.hid (((HBF.out.trans (HB6.out.mono hsz)).alloc (Nat.le_trans hsz HB6.out.size) _).trans hbel7); clear hown7 hbel7))
            go_roundw
            case rel => exact ⟨k + 1, by have := HJ.out; omega, by have := HJ.out; go_num, by rw [HSN.out]; exact HO7.out, HB7.out⟩
            case measure => simp [intOf]; omega
          · have hp2 : ¬ ((j : Int) - (i : Int) + 1 < (n : Int)) := by omega
            have hd : decide ((j : Int) - (i : Int) + 1 < (n : Int)) = false := decide_eq_false hp2
            have hsn : propUp n i (k + 1) = S := by rw [hnx, decide_eq_false hp]; simp
            have HSN := Lib.hid hsn; clear hsn hnx
            go_wp2_with (first
              | ((with_reducible refine wp_storeStrN rfl (.tmp 6) (.tmp 20) rfl _ _ rfl rfl ?_); intro w5 hs5 hb5; have HS5 := Lib.hid hs5; have HB5 := Lib.hid hb5; clear hs5 hb5)
              | (with_reducible refine wp_loadStr rfl (.tmp 6) rfl wb.heap.size i j rfl HS5.out ?_)
              | (go_at_call 70; ((with_reducible refine (HLN.out _).mono ?_); rintro e w6 ⟨rfl, hb6⟩; have HB6 := Lib.hid (Below.step HB5.out hb6); clear hb6)))
            go_roundw
            case rel => exact ⟨k + 1, by have := HJ.out; omega, by have := HJ.out; go_num, by rw [HSN.out]; exact HOW.out.below HB6.out, Below.step HBF.out HB6.out⟩
            case measure => simp [intOf]; omega
        · have hkk : k = n - i - 1 := by omega
          have hrw := HRW.out i
          rw [← hkk] at hrw
          rw [hrw] at hown
          have hjn : i + 1 + k = n := by omega
          rw [hjn]
          have HOW := Lib.hid hown
          clear hown hkk hrw hjn
          go_wp2
          go_roundw
          case rel => exact ⟨i + 1, by omega, by go_num, HOW.out, HBF.out⟩
          case measure => simp [intOf]; omega
    · obtain rfl : i = n := by omega
      obtain ⟨a5, c5, rfl, _⟩ := hown.form
      have HOW := Lib.hid hown; clear hown
      go_wp2
      go_ret
      exact ⟨_, rfl, HOW.out, HBE.out⟩

theorem filterT_take (f : Str → Bool) (L : List Str) (k : Nat) (h : k < L.length) : (L.take (k + 1)).filter f = (L.take k).filter f ++ (if f (L.getD k (0, 0)) then [L.getD k (0, 0)] else []) := by
  rw [List.take_add_one, List.filter_append]
  congr 1
  simp [List.getElem?_eq_getElem h, List.getD, List.filter_cons]
set_option maxRecDepth 100000 in
set_option maxHeartbeats 4000000 in
theorem chosenT_any (t b : List Int) (L : List Str) (hL : ∀ p ∈ L, p.1 < p.2 ∧ p.2 < 12) (hn : L.length ≤ 200) (B : Nat) (w : World) (v : Value) (hown : OwnT B w v L) :
    Calls Try.prog 46 #[v, .func (.func 40) #[.agg (pairC t b)] #[]] w (MadeT w (L.filter fun p => closedL t b p.1 p.2)) := by
  have HCK : Hid (∀ k, k < L.length → ∀ w, Calls Try.prog 40 #[.agg (pairC t b), .agg #[.int .i64 ((L.getD k (0, 0)).1 : Int), .int .i64 ((L.getD k (0, 0)).2 : Int)]] w (Tells w (closedL t b (L.getD k (0, 0)).1 (L.getD k (0, 0)).2))) := fun k hk w => by
    have h := hL (L.getD k (0, 0)) (by simp [List.getD, hk])
    exact isClosed_any t b _ _ h.1 h.2 w
  have HFT := Lib.hid (fun k => filterT_take (fun p => closedL t b p.1 p.2) L k)
  have HFL : Hid (∀ k, ((L.take k).filter fun p => closedL t b p.1 p.2).length ≤ 200) := fun k => Nat.le_trans (List.length_filter_le _ _) (by rw [List.length_take]; omega)
  have hfl : (L.filter fun p => closedL t b p.1 p.2) = (L.take L.length).filter fun p => closedL t b p.1 p.2 := by rw [List.take_length]
  rw [hfl]
  have hP : ∃ P, pairC t b = P := ⟨_, rfl⟩
  obtain ⟨P, hP⟩ := hP
  rw [hP] at HCK ⊢
  clear hfl hL hP
  obtain ⟨a0, c0, rfl, hx1, hx2⟩ := hown.form
  unfold maxLen at hx2
  have HO := Lib.hid hown
  clear hown
  go_enter Try.func46, Try.ntmps46
  go_wp2_with fail
  go_loopw [5, 10] (fun o i wr => ∃ k : Nat, k ≤ L.length ∧ i = .int .i64 (k : Int) ∧ OwnT w.heap.size wr o ((L.take k).filter fun p => closedL t b p.1 p.2) ∧ Below w.heap.size w wr) (fun _ i _ => L.length - (intOf i).toNat)
  case atStart => exact ⟨0, by omega, rfl, OwnT.nil _ _, Below.refl _ _⟩
  case round =>
    obtain ⟨k, hk, rfl, hown, hbel⟩ := hrel
    generalize wr = wc at *
    by_cases hlt : k < L.length
    · obtain ⟨g, rfl, e0, e1⟩ := (HO.out.below hbel).at k hlt
      have hsuc := HFT.out k hlt
      have hle := HFL.out k
      have hcall := HCK.out k hlt
      generalize L.getD k (0, 0) = p at *
      obtain ⟨x, y⟩ := p
      simp only at e0 e1 hsuc hcall
      generalize (L.take k).filter (fun p => closedL t b p.1 p.2) = S at *
      generalize closedL t b x y = M at *
      have HCL := Lib.hid hcall; have HOQ := Lib.hid hown; have HBE := Lib.hid hbel; have HSU := Lib.hid hsuc
      have hsz := hbel.size
      clear hcall hown hbel hsuc
      cases M with
      | true =>
        go_wp2_with (first
          | ((with_reducible refine wp_storeStrN rfl (.tmp 7) (.tmp 13) rfl _ _ rfl rfl ?_); intro w5 hs5 hb5; have HS5 := Lib.hid hs5; have HB5 := Lib.hid hb5; clear hs5 hb5)
          | (with_reducible refine wp_loadStr rfl (.tmp 7) rfl wc.heap.size x y rfl HS5.out ?_)
          | (go_at_call 40; ((with_reducible refine (HCL.out _).mono ?_); rintro e w6 ⟨rfl, hb6⟩; have HS6 := Lib.hid (HS5.out.below hb6); have HB6 := Lib.hid (Below.step HB5.out hb6); clear hb6))
          | (with_reducible refine wp_loadStr rfl (.tmp 7) rfl wc.heap.size x y rfl HS6.out ?_)
          | (at_builtin; refine wp_appendT _ rfl (.tmp 17) (.tmp 19) rfl w.heap.size w6.heap.size _ S (x, y) rfl rfl (cells_new w6 (.int .i64 (x : Int)) (.int .i64 (y : Int)) 58).1 (cells_new w6 (.int .i64 (x : Int)) (.int .i64 (y : Int)) 58).2 ((HOQ.out.below HB6.out).below (Below.alloc1 _ _)) (by omega) (by have := HB6.out.size; simp; omega) ?_; intro v' w7 hown7 hbel7; have HO7 := Lib.hid hown7; have HB7 := Lib.hid (((HBE.out.trans (HB6.out.mono hsz)).alloc (Nat.le_trans hsz HB6.out.size) _).trans hbel7); clear hown7 hbel7))
        go_roundw
        case rel => exact ⟨k + 1, by omega, by go_num, by rw [HSU.out]; exact HO7.out, HB7.out⟩
        case measure => simp [intOf]; omega
      | false =>
        go_wp2_with (first
          | ((with_reducible refine wp_storeStrN rfl (.tmp 7) (.tmp 13) rfl _ _ rfl rfl ?_); intro w5 hs5 hb5; have HS5 := Lib.hid hs5; have HB5 := Lib.hid hb5; clear hs5 hb5)
          | (with_reducible refine wp_loadStr rfl (.tmp 7) rfl wc.heap.size x y rfl HS5.out ?_)
          | (go_at_call 40; ((with_reducible refine (HCL.out _).mono ?_); rintro e w6 ⟨rfl, hb6⟩; have HB6 := Lib.hid (Below.step HB5.out hb6); clear hb6)))
        go_roundw
        case rel => exact ⟨k + 1, by omega, by go_num, by rw [HSU.out]; simpa using HOQ.out.below HB6.out, Below.step HBE.out HB6.out⟩
        case measure => simp [intOf]; omega
    · obtain rfl : k = L.length := by omega
      obtain ⟨a5, c5, rfl, _⟩ := hown.form
      have HOQ := Lib.hid hown; have HBE := Lib.hid hbel
      clear hown hbel
      go_wp2_with fail
      go_ret
      exact ⟨_, rfl, HOQ.out, HBE.out⟩

set_option maxHeartbeats 2000000 in
set_option maxRecDepth 100000 in
theorem listsT_any (L : List Str) (hn : L.length ≤ 200) (B : Nat) (w : World) (v : Value) (hown : OwnT B w v L) :
    Calls Try.prog 45 #[v] w (MadeLL w (L.map rowOf)) := by
  have HLC := Lib.hid (fun (k : Nat) w => strList_any ((L.getD k (0, 0)).1 : Int) ((L.getD k (0, 0)).2 : Int) w)
  have HTS : Hid (∀ k, k < L.length → (L.take (k + 1)).map rowOf = (L.take k).map rowOf ++ [[((L.getD k (0, 0)).1 : Int), ((L.getD k (0, 0)).2 : Int)]]) := fun k hk => by
    rw [List.take_succ_eq_append_getElem hk, List.map_append]
    simp [List.getD, hk, rowOf]
  obtain ⟨a0, c0, rfl, hx1, hx2⟩ := hown.form
  unfold maxLen at hx2
  have HO := Lib.hid hown
  clear hown
  go_enter Try.func45, Try.ntmps45
  go_wp2_with fail
  go_loopw [3, 8] (fun o i wr => ∃ (k : Nat) (vs : List Value), k ≤ L.length ∧ i = .int .i64 (k : Int) ∧ OwnLL w.heap.size wr.heap.size wr o vs ((L.take k).map rowOf) ∧ Below w.heap.size w wr) (fun _ i _ => L.length - (intOf i).toNat)
  case atStart => exact ⟨0, [], by omega, rfl, OwnLL.nil _ _ (Nat.le_refl _), Below.refl _ _⟩
  case round =>
    obtain ⟨k, vs, hk, rfl, hown, hbel⟩ := hrel
    generalize wr = wc at *
    by_cases hlt : k < L.length
    · obtain ⟨g, rfl, e0, e1⟩ := (HO.out.below hbel).at k hlt
      have hts := HTS.out k hlt
      have hcall := HLC.out k
      have HLT : Hid (((L.take k).map rowOf).length ≤ L.length) := by show _ ≤ _; rw [List.length_map, List.length_take]; omega
      generalize L.getD k (0, 0) = p at *
      obtain ⟨x, y⟩ := p
      simp only at e0 e1 hts hcall
      generalize (L.take k).map rowOf = S at *
      have HCL := Lib.hid hcall; have HOQ := Lib.hid hown; have HBE := Lib.hid hbel; have HTS2 := Lib.hid hts
      have hsz := hbel.size
      clear hcall hown hbel hts
      go_wp2_with (first
        | ((with_reducible refine wp_storeStrN rfl (.tmp 5) (.tmp 11) rfl _ _ rfl rfl ?_); intro w5 hs5 hb5; have HS5 := Lib.hid hs5; have HB5 := Lib.hid hb5; clear hs5 hb5)
        | (with_reducible refine wp_loadStr rfl (.tmp 5) rfl wc.heap.size x y rfl HS5.out ?_)
        | fail)
      show Calls Try.prog 112 #[.agg #[.int .i64 (x : Int), .int .i64 (y : Int)]] _ _
      refine (HCL.out _).mono ?_
      rintro e w6 ⟨p, rfl, hp, hb6⟩
      have HP := Lib.hid hp; have HB6 := Lib.hid (Below.step HB5.out hb6); have HZ5 := Lib.hid HB5.out.size; have HZ6 := Lib.hid hb6.size
      obtain ⟨p1, p2, p3, rfl⟩ := hp.form'
      clear hp hb6
      go_wp2_with (at_builtin; refine wp_appendLL _ rfl (.tmp 12) (.tmp 16) rfl w.heap.size wc.heap.size w5.heap.size w6.heap.size _ (.slice p1 p2 p3) vs S [(x : Int), (y : Int)] rfl rfl (cell_lit1 _ _ _) (OwnLL.below HOQ.out (HB6.out.alloc HB6.out.size _)) (Own.below HP.out (Below.alloc1 _ _)) HZ5.out (by have := HZ5.out; omega) (by have := HLT.out; omega) (by have := HB6.out.size; simp; omega) ?_; intro v' w7 hown7 hgr7 hbel7 _; have HO7 := Lib.hid hown7; have HB7 := Lib.hid (chain1 HBE.out hsz HB6.out hbel7); clear hown7 hgr7 hbel7)
      go_roundw
      case rel => exact ⟨k + 1, _, by omega, by go_num, by rw [HTS2.out]; exact HO7.out, HB7.out⟩
      case measure => simp [intOf]; omega
    · obtain rfl : k = L.length := by omega
      rw [List.take_length] at hown
      obtain ⟨a5, c5, rfl, _⟩ := hown.form
      have HOQ := Lib.hid hown; have HBE := Lib.hid hbel
      clear hown hbel
      go_wp2_with fail
      go_ret
      exact ⟨_, vs, rfl, HOQ.out, HBE.out⟩

end Go.Proofs.Ytaeeopdiodaiaaa
