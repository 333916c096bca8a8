/- Stretches: the program's struct, and whether one is closed. -/
import Derived.Test.YtaeeopdiodaiaaaCutRes
import Derived.Test.YtaeeopdiodaiaaaWalk
import Derived.Test.YtaeeopdiodaiaaaSpan
import Derived.Test.YtaeeopdiodaiaaaGood
namespace Go.Proofs.Ytaeeopdiodaiaaa
open Go.RowKit
set_option linter.unusedSimpArgs false
set_option linter.unusedVariables false

theorem str_info : (Try.prog.info? 58).map (·.size) = some 2 := by kernel_rfl
def StrIn (w : World) (g : Nat) (i j : Int) : Prop := w.heap[g]? = some (.cells #[.int .i64 i, .int .i64 j] 58 (0, 0))
theorem StrIn.lt {w : World} {g : Nat} {i j : Int} (h : StrIn w g i j) : g < w.heap.size := (Array.getElem?_eq_some_iff.1 h).1
theorem StrIn.below {w w' : World} {g : Nat} {i j : Int} (h : StrIn w g i j) (hb : Below w.heap.size w w') : StrIn w' g i j := (hb.block g h.lt).trans h
theorem StrIn.grown {w w' : World} {g : Nat} {i j : Int} {row : Option Nat} (h : StrIn w g i j) (hg : w.grownBy w' row) (hne : some g ≠ row) : StrIn w' g i j := (hg.block g h.lt hne).trans h
theorem StrIn.c0 {w : World} {g : Nat} {i j : Int} (h : StrIn w g i j) : w.cell? ⟨g, 0, none⟩ = some (.int .i64 i) := by rw [cell_of_row w g 0 _ _ _ h]; rfl
theorem StrIn.c1 {w : World} {g : Nat} {i j : Int} (h : StrIn w g i j) : w.cell? ⟨g, 1, none⟩ = some (.int .i64 j) := by rw [cell_of_row w g 1 _ _ _ h]; rfl
theorem StrIn.new (w : World) (i j : Int) : StrIn (w.alloc (.cells #[.int .i64 i, .int .i64 j] 58)) w.heap.size i j := heap_alloc_new w _
theorem wp_loadStr {ops : Array Oper} {rest : List Oper} {o : Oper} {a : Act} {w : World} {Q : Exit → Act → World → Prop} (hgd : o.guard = none) (x : Operand) (ho : o.op = .load 58 x)
    (g : Nat) (i j : Int) (hx : a.eval x = .pointer (some ⟨g, 0, none⟩)) (hg : StrIn w g i j)
    (h : wpList Try.prog ops Q rest (a.put o.dst (.agg #[.int .i64 i, .int .i64 j])) w) : wpList Try.prog ops Q (o :: rest) a w :=
  wpList_load_row hgd _ x ho g hx _ #[.int .i64 i, .int .i64 j] (0, 0) _ hg Try.underlying58 rfl (by rw [str_info]; rfl) h
theorem wp_loadStrG {ops : Array Oper} {rest : List Oper} {o : Oper} {a : Act} {w : World} {Q : Exit → Act → World → Prop} (x : Operand) (ho : o.op = .load 58 x)
    (g : Nat) (i j : Int) (hx : a.eval x = .pointer (some ⟨g, 0, none⟩)) (hg : StrIn w g i j) (hw : Region.wanted o (yielded ops a.tmps) = true)
    (h : wpList Try.prog ops Q rest (a.put o.dst (.agg #[.int .i64 i, .int .i64 j])) w) : wpList Try.prog ops Q (o :: rest) a w :=
  wpList_wanted hw fun _ hK => wp_load_row _ x ho g hx _ #[.int .i64 i, .int .i64 j] (0, 0) _ hg Try.underlying58 rfl (by rw [str_info]; rfl) (hK _ _ h)
theorem wp_storeStr {ops : Array Oper} {rest : List Oper} {o : Oper} {a : Act} {w : World} {Q : Exit → Act → World → Prop} (hgd : o.guard = none) (x y : Operand) (ho : o.op = .store 58 x y)
    (g : Nat) (i j i0 j0 : Int) (hx : a.eval x = .pointer (some ⟨g, 0, none⟩)) (hy : a.eval y = .agg #[.int .i64 i, .int .i64 j]) (hg : StrIn w g i0 j0)
    (h : ∀ w', StrIn w' g i j → w.grownBy w' (some g) → wpList Try.prog ops Q rest (a.put o.dst undef) w') : wpList Try.prog ops Q (o :: rest) a w := by
  refine wpList_store_row hgd _ x y ho g #[.int .i64 i, .int .i64 j] hx hy 58 #[.int .i64 i0, .int .i64 j0] hg (by rw [str_info]; rfl) rfl (by simp [Value.oneCell']) ?_
  refine h _ (setRow_heap w g _ _ _ _ hg) ⟨rfl, rfl, rfl, by simp, fun k _ hk => setRow_other w g k _ (fun e => hk (by simp [e]))⟩
theorem wp_storeStrN {ops : Array Oper} {rest : List Oper} {o : Oper} {a : Act} {w : World} {Q : Exit → Act → World → Prop} (hgd : o.guard = none) (x y : Operand) (ho : o.op = .store 58 x y)
    (i j : Int) (hx : a.eval x = .pointer (some ⟨w.heap.size, 0, none⟩)) (hy : a.eval y = .agg #[.int .i64 i, .int .i64 j])
    (h : ∀ w', StrIn w' w.heap.size i j → Below w.heap.size w w' → wpList Try.prog ops Q rest (a.put o.dst undef) w') : wpList Try.prog ops Q (o :: rest) a (w.alloc (.cells #[.int .i64 0, .int .i64 0] 58)) := by
  refine wp_storeStr hgd x y ho w.heap.size i j 0 0 hx hy (StrIn.new w 0 0) ?_
  intro w' hs hg
  exact h w' hs ((Below.alloc1 w _).grown hg (by simp) (by intro k hk; simp at hk; omega))

theorem has_any (i j x : Int) (w : World) : Calls Try.prog 73 #[.agg #[.int .i64 i, .int .i64 j], .int .i64 x] w (Tells w (inB x i j)) := by
  obtain ⟨R, hR⟩ : ∃ R, inB x i j = R := ⟨_, rfl⟩
  rw [hR]
  unfold inB at hR
  by_cases h1 : i ≤ x
  · by_cases h2 : x ≤ j
    · obtain rfl : R = true := by rw [← hR]; exact decide_eq_true ⟨h1, h2⟩
      clear hR
      go_enter Try.func73, Try.ntmps73
      go_wp2
      go_ret
      exact ⟨rfl, Below.alloc1 _ _⟩
    · obtain rfl : R = false := by rw [← hR]; exact decide_eq_false (fun h => h2 h.2)
      clear hR
      go_enter Try.func73, Try.ntmps73
      go_wp2
      go_ret
      exact ⟨rfl, Below.alloc1 _ _⟩
  · obtain rfl : R = false := by rw [← hR]; exact decide_eq_false (fun h => h1 h.1)
    clear hR
    go_enter Try.func73, Try.ntmps73
    go_wp2
    go_ret
    exact ⟨rfl, Below.alloc1 _ _⟩
theorem lacks_any (i j x : Int) (w : World) : Calls Try.prog 67 #[.agg #[.int .i64 i, .int .i64 j], .int .i64 x] w (Tells w (!inB x i j)) := by
  have HH := Lib.hid (fun w => has_any i j x w)
  have HS := Lib.hid (StrIn.new w i j)
  generalize inB x i j = R at *
  go_enter Try.func67, Try.ntmps67
  go_wp2_with (first
    | (with_reducible refine wp_loadStr rfl (.tmp 2) rfl w.heap.size i j rfl HS.out ?_)
    | (go_at_call 73; ((with_reducible refine (HH.out _).mono ?_); rintro e w1 ⟨rfl, hb1⟩)))
  go_ret
  exact ⟨rfl, Below.step (Below.alloc1 w _) hb1⟩

theorem closed_step {t b : List Int} {i j k : Nat} {R : Bool} (hk : k ≤ j) (h : allFrom (clP t b i j) k (j + 1 - k) = R) : (clP t b i j k = true → allFrom (clP t b i j) (k + 1) (j + 1 - (k + 1)) = R) ∧ (clP t b i j k = false → R = false) := by
  rw [show j + 1 - k = (j + 1 - (k + 1)) + 1 by omega, allFrom] at h
  exact ⟨fun e => by rw [e] at h; simpa using h, fun e => by rw [e] at h; simpa using h.symm⟩
set_option maxHeartbeats 2000000 in
theorem isClosed_any (t b : List Int) (i j : Nat) (hij : i < j) (hj : j < 12) (w : World) :
    Calls Try.prog 40 #[.agg (pairC t b), .agg #[.int .i64 (i : Int), .int .i64 (j : Int)]] w (Tells w (closedL t b i j)) := by
  obtain ⟨R, hR⟩ : ∃ R, closedL t b i j = R := ⟨_, rfl⟩
  rw [hR]
  unfold closedL at hR
  have B1 := Below.alloc1 w (.cells (pairC t b) 56)
  have HB0 := Lib.hid (Below.step B1 (Below.alloc1 _ (.cells #[.int .i64 (i : Int), .int .i64 (j : Int)] 58)))
  have HP := Lib.hid ((PairIn.new w t b).below (Below.alloc1 _ (.cells #[.int .i64 (i : Int), .int .i64 (j : Int)] 58)))
  have HS : Hid (StrIn ((w.alloc (.cells (pairC t b) 56)).alloc (.cells #[.int .i64 (i : Int), .int .i64 (j : Int)] 58)) (w.heap.size + 1) i j) := by
    have := StrIn.new (w.alloc (.cells (pairC t b) 56)) i j
    rw [World.size_alloc] at this
    exact this
  have s0 := HS.out.c0; have s1 := HS.out.c1
  have HR := Lib.hid hR
  have HL := Lib.hid (fun x w => lacks_any (i : Int) (j : Int) x w)
  clear B1 hR
  go_enter Try.func40, Try.ntmps40
  go_wp2
  go_loopw [5] (fun x wr => ∃ k : Nat, i ≤ k ∧ k ≤ j + 1 ∧ x = .int .i64 (k : Int) ∧ Hid (allFrom (clP t b i j) k (j + 1 - k) = R) ∧ PairIn wr w.heap.size t b ∧ StrIn wr (w.heap.size + 1) i j ∧ Below w.heap.size w wr) (fun x _ => j + 1 - (intOf x).toNat)
  case atStart => exact ⟨i, by omega, by omega, rfl, HR.out, HP.out, HS.out, HB0.out⟩
  case round =>
    obtain ⟨k, hik, hk, rfl, HK, hp, hs, hbel⟩ := hrel
    clear s0 s1
    generalize wr = wa at *
    have s0 := hs.c0; have s1 := hs.c1
    by_cases hlt : k ≤ j
    · have hk12 : k < 12 := by omega
      have p0 := hp.topAt k hk12
      have p1 := hp.botAt k hk12
      have hst := closed_step hlt HK.out
      have hcl : clP t b i j k = (inB (t.getD k 0) i j && inB (b.getD k 0) i j) := rfl
      have hl1 := fun w => HL.out (t.getD k 0) w
      have hl2 := fun w => HL.out (b.getD k 0) w
      generalize t.getD k 0 = x at *
      generalize b.getD k 0 = y at *
      generalize clP t b i j k = c at *
      have HP1 := Lib.hid hp; have HS1 := Lib.hid hs; have HBE := Lib.hid hbel; have HST := Lib.hid hst; have HCL := Lib.hid hcl
      clear HK hp hs hbel hst hcl HP HS HB0 HR HL
      have hk0 : (0 : Int) ≤ (k : Int) := by omega
      have hk1 : (k : Int) < 12 := by omega
      cases hX : inB x i j with
      | false =>
        rw [hX] at hl1 HCL
        have HL1 := Lib.hid hl1; clear hl1 hl2 hX
        go_wp2_with fail
        first
          | go_region_with (first
              | (go_at_call 67; ((with_reducible refine (HL1.out _).mono ?_); rintro e' w' ⟨rfl, hb'⟩)))
          | fail
        all_goals
          have hB : Below wa.heap.size wa w' := by first | exact ((Below.refl _ wa).drew).trans hb' | exact hb'
          go_wp2
          go_ret
          exact ⟨by rw [HST.out.2 HCL.out]; first | done | rfl, Below.step HBE.out hB⟩
      | true =>
        rw [hX] at hl1 HCL
        have HL1 := Lib.hid hl1; clear hl1 hX
        cases hY : inB y i j with
        | false =>
          rw [hY] at hl2 HCL
          have HL2 := Lib.hid hl2; clear hl2 hY
          go_wp2_with fail
          go_region_held3 (fun w' => Hid (Below wa.heap.size wa w') ∧ w'.cell? ⟨w.heap.size + 1, 0, none⟩ = some (.int .i64 i) ∧ w'.cell? ⟨w.heap.size + 1, 1, none⟩ = some (.int .i64 j) ∧ w'.cell? ⟨w.heap.size, k, none⟩ = some (.int .i64 x) ∧ w'.cell? ⟨w.heap.size, 13 + k, none⟩ = some (.int .i64 y))
              (first | assumption | exact h4_start s0 s1 p0 p1 (Below.drew (Below.refl _ _)) | exact h4_keep (by assumption) (by assumption))
              (first
                | (go_at_call_of 67 (Value.int IntKind.i64 x); ((with_reducible refine (HL1.out _).mono ?_); rintro e' w' ⟨rfl, hb'⟩))
                | (go_at_call_of 67 (Value.int IntKind.i64 y); ((with_reducible refine (HL2.out _).mono ?_); rintro e' w' ⟨rfl, hb'⟩)))
          all_goals
            have hB : Below wa.heap.size wa w' := h4_out (by assumption)
            go_wp2
            go_ret
            exact ⟨by rw [HST.out.2 HCL.out]; first | done | rfl, Below.step HBE.out hB⟩
        | true =>
          rw [hY] at hl2 HCL
          have HL2 := Lib.hid hl2; clear hl2 hY
          go_wp2_with fail
          go_region_held3 (fun w' => Hid (Below wa.heap.size wa w') ∧ w'.cell? ⟨w.heap.size + 1, 0, none⟩ = some (.int .i64 i) ∧ w'.cell? ⟨w.heap.size + 1, 1, none⟩ = some (.int .i64 j) ∧ w'.cell? ⟨w.heap.size, k, none⟩ = some (.int .i64 x) ∧ w'.cell? ⟨w.heap.size, 13 + k, none⟩ = some (.int .i64 y))
              (first | assumption | exact h4_start s0 s1 p0 p1 (Below.drew (Below.refl _ _)) | exact h4_keep (by assumption) (by assumption))
              (first
                | (go_at_call_of 67 (Value.int IntKind.i64 x); ((with_reducible refine (HL1.out _).mono ?_); rintro e' w' ⟨rfl, hb'⟩))
                | (go_at_call_of 67 (Value.int IntKind.i64 y); ((with_reducible refine (HL2.out _).mono ?_); rintro e' w' ⟨rfl, hb'⟩)))
          all_goals
            have hB : Below wa.heap.size wa w' := h4_out (by assumption)
            go_wp2
            go_roundw
            case rel => exact ⟨k + 1, by omega, by omega, by go_num, HST.out.1 HCL.out, HP1.out.below hB, HS1.out.below hB, Below.step HBE.out hB⟩
            case measure => simp [intOf]; omega
    · obtain rfl : k = j + 1 := by omega
      have hK := HK.out
      rw [Nat.sub_self] at hK
      have HT : Hid (R = true) := hK.symm
      have HBE := Lib.hid hbel
      clear HK hK hp hs hbel HP HS HB0 HR HL
      go_wp2
      go_ret
      exact ⟨by rw [HT.out]; first | done | rfl, HBE.out⟩

end Go.Proofs.Ytaeeopdiodaiaaa
