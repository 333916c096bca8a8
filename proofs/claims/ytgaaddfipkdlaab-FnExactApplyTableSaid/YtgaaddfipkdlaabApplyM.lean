/- ApplyTable of the model. -/
import Derived.Test.YtgaaddfipkdlaabApply
import Derived.Test.YtgaaddfipkdlaabRdLL
namespace Go.Proofs.Ytgaaddfipkdlaab
open Go.RowKit
set_option linter.unusedSimpArgs false
set_option linter.unusedVariables false

theorem take_dot (v : List Int) (ls : List (List Int)) (k : Nat) (h : k < ls.length) : (ls.take (k + 1)).map (dotR v) = (ls.take k).map (dotR v) ++ [dotR v (ls.getD k [])] := by
  rw [List.take_add_one, List.getElem?_eq_getElem h, Option.toList_some, List.map_append]; simp [List.getD, h]
set_option maxHeartbeats 2000000 in
set_option maxRecDepth 100000 in
theorem spec_ApplyTable (lo hi : Nat) (u : Value) (vs : List Value) (ls : List (List Int)) (w : World) (h : OwnLL lo hi w u vs ls) (u2 : Value) (v : List Int) (hv : Rd w u2 v) :
    Calls Try.prog 22 #[u, u2] w (Gives w (res_ApplyTable ls v) (ok_ApplyTable ls v)) := by
  obtain ⟨a1, c1, rfl, h2, h3⟩ := h.form
  unfold maxLen at h3
  have hrr := taRows_any lo hi (.slice a1 ls.length c1) vs ls w h
  have hv1 := hv
  obtain ⟨a2, c2, rfl, h4, h5, _, hrd⟩ := hv
  unfold maxLen at h5
  unfold res_ApplyTable
  have hall := fun R hR => l1All_any (.slice a2 v.length c2) v (-1000) 1000 R w hv1 hR
  obtain ⟨R, hR⟩ : ∃ R, ok_ApplyTable ls v = R := ⟨_, rfl⟩
  rw [hR]
  obtain ⟨L, hL⟩ : ∃ L, (if R = true then ls.map (dotR v) else []) = L := ⟨_, rfl⟩
  rw [hL]
  have HLL := Lib.hid hL
  clear hL hv1
  unfold ok_ApplyTable at hR
  have HO := Lib.hid h
  cases hro : rowsB ls with
  | false =>
    rw [hro, Bool.false_and] at hR
    subst hR
    rw [hro] at hrr
    have HRR := Lib.hid hrr
    clear hrr h hro hrd hall
    go_enter Try.func22, Try.ntmps22
    go_wp2_with (go_at_call 49; ((with_reducible refine HRR.out.mono ?_); rintro e w1 ⟨rfl, rfl⟩))
    go_ret2
    exact ⟨_, rfl, by rw [← HLL.out]; exact Own.nil _ _, Below.refl _ _⟩
  | true =>
    rw [hro, Bool.true_and] at hR
    rw [hro] at hrr
    have HRR := Lib.hid hrr
    by_cases hl : v.length = ls.length
    · rw [decide_eq_true hl, Bool.true_and] at hR
      cases hf : factB v with
      | false =>
        rw [hf] at hR
        subst hR
        have HALL := Lib.hid (hall false hf)
        rw [hl] at h4 HALL ⊢
        clear hrr h hro hrd hall hl hf
        go_enter Try.func22, Try.ntmps22
        go_wp2_with (first
          | (go_at_call 49; ((with_reducible refine HRR.out.mono ?_); rintro e w1 ⟨rfl, rfl⟩))
          | (go_at_call 50; ((with_reducible refine HALL.out.mono ?_); rintro e w1 ⟨rfl, rfl⟩)))
        go_ret2
        exact ⟨_, rfl, by rw [← HLL.out]; exact Own.nil _ _, Below.refl _ _⟩
      | true =>
        rw [hf] at hR
        subst hR
        have HALL := Lib.hid (hall true hf)
        have HAP := Lib.hid (ApplyIn.of hro hl hf)
        obtain ⟨h1, h14, -, -⟩ := rowsB_facts hro
        obtain ⟨off2, b2, rfl, hcell⟩ : ∃ off b, a2 = some ⟨b, off, none⟩ ∧ ∀ k, k < v.length → w.cell? ⟨b, off + k, none⟩ = some (.int .i64 (v.getD k 0)) := by
          rcases hrd with h0 | ⟨b, off, e, hc⟩
          · rw [h0] at hl; simp at hl; omega
          · exact ⟨off, b, e, hc⟩
        rw [hl] at h4 hcell HALL ⊢
        have HC := Lib.hid (fun W (hb : Below w.heap.size w W) k hk => (hb.cell (World.block_lt_of_cell? w _ (hcell k hk))).trans (hcell k hk))
        have hLL : ls.map (dotR v) = L := by have := HLL.out; simpa using this
        have HTD := Lib.hid (take_dot v ls)
        have HFULL : Hid ((ls.take ls.length).map (dotR v) = L) := by show _ = _; rw [List.take_length, hLL]
        have HLN : Hid (∀ k, ((ls.take k).map (dotR v)).length ≤ 14) := fun k => by rw [List.length_map, List.length_take]; omega
        clear hrr h hro hrd hall hl hf hcell hLL HLL
        go_enter Try.func22, Try.ntmps22
        go_wp2_with (first
          | (go_at_call 49; ((with_reducible refine HRR.out.mono ?_); rintro e w1 ⟨rfl, rfl⟩))
          | (go_at_call 50; ((with_reducible refine HALL.out.mono ?_); rintro e w1 ⟨rfl, rfl⟩)))
        go_loopw [6, 29] (fun o i wr => ∃ (k : Nat), k ≤ ls.length ∧ i = .int .i64 (k : Int) ∧ Hid (Own w.heap.size wr o ((ls.take k).map (dotR v))) ∧ Hid (Below w.heap.size w wr)) (fun _ i _ => ls.length - (intOf i).toNat)
        case atStart => exact ⟨0, by omega, rfl, Lib.hid (Own.nil _ _), Lib.hid (Below.refl _ _)⟩
        case round =>
          obtain ⟨k, hk, rfl, HOW, HBE⟩ := hrel
          generalize wr = wc at *
          by_cases hlt : k < ls.length
          · have hd := HO.out.below HBE.out
            obtain ⟨g1, rfl, _, _, hrow, _⟩ := hd.at (by omega)
            have hr := hrow k hlt
            have hpp := hd.own k hlt
            obtain ⟨p1, p3, hpv, hp1, hp2⟩ := hpp.form
            rw [hpv] at hr hpp
            have hrl := HAP.out.row k hlt
            rw [hrl] at hp1 hr
            unfold maxLen at hp2
            have HEN := Lib.hid (HAP.out.ent k hlt)
            have HBD := Lib.hid (dotN_bd v (ls.getD k []) ls.length HEN.out HAP.out.fac)
            have HS1 := Lib.hid (HTD.out k hlt); have HL0 := Lib.hid (HLN.out k)
            have HRL := Lib.hid hrl
            have HP := Lib.hid hpp
            clear hd hrow hpp hpv hrl
            unfold dotR at HS1
            rw [HRL.out] at HS1 HP
            generalize ls.getD k [] = l at *
            obtain ⟨o1, o2, o3, rfl⟩ := HOW.out.form'
            change Hid ((ls.take (k + 1)).map (dotR v) = (ls.take k).map (dotR v) ++ [dotN v l ls.length]) at HS1
            have HOW2 : Hid (Own w.heap.size wc (.slice o1 o2 o3) ((ls.take k).map (dotR v))) := HOW
            clear HOW
            generalize (ls.take k).map (dotR v) = B0 at *
            go_wp2_with fail
            go_loop [9, 35] (fun s i => ∃ (c : Nat), c ≤ ls.length ∧ i = .int .i64 (c : Int) ∧ s = .int .i64 (dotN v l c)) (fun _ i => ls.length - (intOf i).toNat)
            case atStart => exact ⟨0, by omega, rfl, rfl⟩
            case round =>
              obtain ⟨c, hc, rfl, rfl⟩ := hrel
              by_cases hcl : c < ls.length
              · obtain ⟨gr, rfl, -, -, hr3⟩ := OwnLL.elem (hi := 0) HP.out c (by rw [HRL.out]; exact hcl)
                have hv3 := HC.out wc HBE.out c hcl
                have hbd := HBD.out c hc
                have hpr := prod_bd (HEN.out c hcl) (HAP.out.fac c hcl)
                have HNX : Hid (dotN v l (c + 1) = dotN v l c + l.getD c 0 * v.getD c 0) := rfl
                clear HP
                generalize hx2 : dotN v l (c + 1) = x2 at *
                generalize dotN v l c = x at *
                generalize l.getD c 0 = y at *
                generalize v.getD c 0 = z at *
                have k1 : IntKind.i64.wrap (y * z) = y * z := IntWalk.i64_in _ (by omega)
                have k2 : IntKind.i64.wrap (x + y * z) = x + y * z := IntWalk.i64_in _ (by omega)
                go_wp2_with fail
                go_round
                case rel => exact ⟨c + 1, by omega, by go_num, by rw [hx2, HNX.out]⟩
                case measure => simp [intOf]; omega
              · obtain rfl : c = ls.length := by omega
                generalize dotN v l ls.length = x at *
                go_wp2_with (at_builtin; refine wp_append _ rfl (.tmp 49) (.tmp 51) rfl w.heap.size _ (.slice (some ⟨wc.heap.size, 0, none⟩) 1 1) B0 [x] rfl rfl (Own.below HOW2.out (Below.alloc1 _ _)) (Own.rd (Own.lit1 _ _ _ (Nat.le_refl _))) (by have := HL0.out; simp; omega) (by have := HBE.out.size; simp; omega) ?_; intro v1 w4 ho4 hg4 hb4; have HO4 := Lib.hid ho4; have HB4 := Lib.hid (((HBE.out.alloc HBE.out.size (.cells #[.int .i64 x] 3))).trans hb4); clear ho4 hg4 hb4)
                go_roundw
                case rel => exact ⟨k + 1, by omega, by go_num, by rw [HS1.out]; exact HO4, HB4⟩
                case measure => simp [intOf]; omega
          · obtain rfl : k = ls.length := by omega
            rw [HFULL.out] at HOW
            go_wp2_with fail
            go_ret2
            exact ⟨_, rfl, HOW.out, HBE.out⟩
    · rw [decide_eq_false hl, Bool.false_and] at hR
      subst hR
      clear hrr h hro hrd hall
      go_enter Try.func22, Try.ntmps22
      go_wp2_with (go_at_call 49; ((with_reducible refine HRR.out.mono ?_); rintro e w1 ⟨rfl, rfl⟩))
      go_ret2
      exact ⟨_, rfl, by rw [← HLL.out]; exact Own.nil _ _, Below.refl _ _⟩
theorem specR_ApplyTable (ls : List (List Int)) (v : List Int) (w : World) (u0 u1 : Value) (h0 : OwnsLL w u0 ls) (h1 : Rd w u1 v) (_ : v.length ≤ 1048576) : Calls Try.prog 22 #[u0, u1] w (Gives w (res_ApplyTable ls v) (ok_ApplyTable ls v)) :=
  let ⟨lo, hi, vs, h⟩ := h0
  spec_ApplyTable lo hi u0 vs ls w h u1 v h1
theorem implR_ApplyTable (ls : List (List Int)) (v : List Int) (w : World) (u0 u1 : Value) (h0 : OwnsLL w u0 ls) (h1 : Rd w u1 v) (_ : v.length ≤ 1048576) : Calls Try.prog 25 #[u0, u1] w (Gives w (res_ApplyTable ls v) (ok_ApplyTable ls v)) :=
  let ⟨lo, hi, vs, h⟩ := h0
  impl_ApplyTable lo hi u0 vs ls w h u1 v h1
theorem len_ApplyTable (ls : List (List Int)) (v : List Int) : (res_ApplyTable ls v).length ≤ 1000000 := by
  unfold res_ApplyTable
  split
  · next h =>
    unfold ok_ApplyTable at h
    simp only [Bool.and_eq_true] at h
    have := rowsB_facts h.1
    rw [List.length_map]; omega
  · simp
end Go.Proofs.Ytgaaddfipkdlaab
