/- The model's stGood. -/
import Derived.Test.YtllhdmpnjcemkacStModel
import Derived.Test.YtllhdmpnjcemkacStMark
import Derived.Test.YtllhdmpnjcemkacShift
import Derived.Test.YtllhdmpnjcemkacRowApp
import Derived.Test.YtllhdmpnjcemkacCrosses
namespace Go.Proofs.Ytllhdmpnjcemkac
open Go.RowKit
set_option linter.unusedSimpArgs false
set_option linter.unusedVariables false

theorem mdl_cons (O E : List Int) (x : Int) (r : List Int) : mdl O E (x :: r) = if x ∈ E then false else if x ∉ O then mdl (O ++ [x]) E r else if topIs O x then mdl (dropTop O) (E ++ [x]) r else false := by rw [mdl]

theorem ret_bg {x y : Bool} (h : x = y) : Ending.returned (.bool x) = .returned (.bool y) := by rw [h]

theorem l1In_b (n lo hi : Int) (w : World) : Calls Try.prog 50 #[.int .i64 n, .int .i64 lo, .int .i64 hi] w fun e w' => e = .returned (.bool (inB n lo hi)) ∧ w = w' := l1In_any n lo hi w

set_option maxHeartbeats 3000000 in
set_option maxRecDepth 100000 in
theorem stGood_loop (v1 v2 : Value) (u d : List Int) (c : Int) (w : World) (h1 : Rd w v1 u) (h2 : Rd w v2 d) (hu : u.length ≤ 6) (hd : d.length ≤ 6) (hc : inB c 0 6 = true)
    (ha1 : allFrom (fun i => inB (u.getD i 0) 0 6) 0 u.length = true) (ha2 : allFrom (fun i => inB (d.getD i 0) 0 6) 0 d.length = true) (e1 : decide (renU u = u) = true) (e2 : decide (renD u d = d) = true) :
    Calls Try.prog 59 #[.agg #[v1, v2, .int .i64 c]] w (Tells w (mdl [] [] (roundL u d))) := by
  have B1 : Below w.heap.size w (w.alloc (.cells #[v1, v2, .int .i64 c] 27)) := Below.alloc1 w _
  have hA := Box3.new 27 w v1 v2 (.int .i64 c)
  have hrn := fun w v1 v2 h1 h2 => stRename_any v1 v2 u d w h1 h2 (by omega) (by omega)
  have har := fun w v1 v2 h1 h2 => stAround_any v1 v2 u d c w h1 h2 (by omega) (by omega)
  have hrl : (roundL u d).length ≤ 12 := by unfold roundL; rw [List.length_append, List.length_reverse]; omega
  have hs1 := fun w x v hx hv => l1Same_any x v (renU u) u w hx hv
  have hs2 := fun w x v hx hv => l1Same_any x v (renD u d) d w hx hv
  rw [e1] at hs1
  rw [e2] at hs2
  have k0 := hA.c0; have k1 := hA.c1; have k2 := hA.c2
  have H1 := Lib.hid (h1.below B1); have H2 := Lib.hid (h2.below B1); have HA := Lib.hid hA; have HB := Lib.hid B1
  have HRN := Lib.hid hrn; have HAR := Lib.hid har; have HS1 := Lib.hid hs1; have HS2 := Lib.hid hs2
  have HC := Lib.hid hc; have HA1 := Lib.hid ha1; have HA2 := Lib.hid ha2
  generalize roundL u d = r at *
  generalize renU u = ru at *
  generalize renD u d = rd at *
  obtain ⟨F, hF⟩ : ∃ F, mdl [] [] r = F := ⟨_, rfl⟩
  rw [hF]
  have HR : Hid (mdl [] [] (r.drop 0) = F) := hF
  obtain ⟨a1, c1, rfl, _⟩ := h1
  obtain ⟨a2, c2, rfl, _⟩ := h2
  have HALL1 := Lib.hid (fun w h => l1All_any (.slice a1 u.length c1) u 0 6 true w h HA1.out)
  have HALL2 := Lib.hid (fun w h => l1All_any (.slice a2 d.length c2) d 0 6 true w h HA2.out)
  clear HA1 HA2
  obtain ⟨n1, hn1⟩ : ∃ n, n = u.length := ⟨_, rfl⟩
  obtain ⟨n2, hn2⟩ : ∃ n, n = d.length := ⟨_, rfl⟩
  have gu : ¬ 6 < (n1 : Int) := by omega
  have gd : ¬ 6 < (n2 : Int) := by omega
  have gu' : decide (6 < (n1 : Int)) = false := decide_eq_false gu
  have gd' : decide (6 < (n2 : Int)) = false := decide_eq_false gd
  rw [← hn1, ← hn2] at H1 H2 HA HB k0 k1 k2 ⊢
  rw [← hn1] at HALL1
  rw [← hn2] at HALL2
  clear hn1 hn2
  clear hF B1 hA hrn har hs1 hs2 ha1 ha2 e1 e2 hc
  go_enter Try.func59, Try.ntmps59
  go_wp2_with (first
    | (go_at_call 50; (with_reducible refine (l1In_b _ _ _ _).mono ?_); rintro e w' ⟨rfl, rfl⟩; rw [HC.out])
    | (go_at_call 83; (with_reducible refine (HALL1.out _ H1.out).mono ?_); rintro e w' ⟨rfl, rfl⟩)
    | (go_at_call 83; (with_reducible refine (HALL2.out _ H2.out).mono ?_); rintro e w' ⟨rfl, rfl⟩)
    | (go_at_call 75; ((with_reducible refine (HRN.out _ _ _ H1.out H2.out).mono ?_); rintro e w1 ⟨x1, x2, rfl, hx1, hx2, hb1⟩; have hA1 := HA.out.below hb1; have p0 := hA1.c0; have p1 := hA1.c1; have X1 := Lib.hid hx1.rd; have X2 := Lib.hid hx2.rd; have G1 := Lib.hid (H1.out.below hb1); have G2 := Lib.hid (H2.out.below hb1); have HA1' := Lib.hid hA1; have HB1 := Lib.hid (Below.step HB.out hb1); obtain ⟨f1, f2, f3, rfl⟩ := hx1.form'; obtain ⟨f4, f5, f6, rfl⟩ := hx2.form'; clear hx1 hx2 hb1 hA1))
    | (go_at_call 84; ((with_reducible refine (HS1.out _ _ _ X1.out G1.out).mono ?_); rintro e w2 ⟨rfl, hb2⟩; have hA2 := HA1'.out.below hb2; have q0 := hA2.c0; have q1 := hA2.c1; have HA2' := Lib.hid hA2; have X22 := Lib.hid (X2.out.below hb2); have G12 := Lib.hid (G1.out.below hb2); have G22 := Lib.hid (G2.out.below hb2); have HB2 := Lib.hid (Below.step HB1.out hb2); clear hb2 hA2))
    | (go_at_call 84; ((with_reducible refine (HS2.out _ _ _ X22.out G22.out).mono ?_); rintro e w3 ⟨rfl, hb3⟩; have hA3 := HA2'.out.below hb3; have s0 := hA3.c0; have s1 := hA3.c1; have s2 := hA3.c2; have G13 := Lib.hid (G12.out.below hb3); have G23 := Lib.hid (G22.out.below hb3); have HB3 := Lib.hid (Below.step HB2.out hb3); clear hb3 hA3))
    | (go_at_call 85; ((with_reducible refine (HAR.out _ _ _ G13.out G23.out).mono ?_); rintro e w4 ⟨rv, rfl, hrr, hb4⟩; have HRR := Lib.hid hrr; have HB4 := Lib.hid (Below.step HB3.out hb4); obtain ⟨ra, rc, rfl, hr1, hr2⟩ := hrr.form; unfold maxLen at hr2; clear hrr hb4)))
  have hz4 := HB4.out.size
  go_loopw [5, 6, 58] (fun o e i wr => ∃ (k : Nat) (O E : List Int), k ≤ r.length ∧ i = .int .i64 k ∧ O.length ≤ k ∧ E.length ≤ k ∧ Hid (mdl O E (r.drop k) = F) ∧ Own w4.heap.size wr o O ∧ Own w4.heap.size wr e E ∧ Hid (∀ q, o.ownBlock = some q → e.ownBlock ≠ some q) ∧ Below w4.heap.size w4 wr) (fun _ _ i _ => r.length - (intOf i).toNat)
  case atStart => exact ⟨0, [], [], by omega, rfl, Nat.le_refl _, Nat.le_refl _, HR, Own.nil _ _, Own.nil _ _, fun q hq => by simp [Value.ownBlock] at hq, Below.refl _ _⟩
  case round =>
    clear HR
    obtain ⟨k, O, E, hk, rfl, hok, hek, HC, hown, hown2, HAP, hbel⟩ := hrel
    generalize wr = wc at *
    by_cases hlt : k < r.length
    · obtain ⟨b1, o1, c1', e1, _, _, hcl⟩ := (HRR.out.rd.below hbel).at (by omega)
      simp only [Value.slice.injEq, true_and] at e1
      obtain ⟨rfl, rfl⟩ := e1
      have hck := hcl k hlt
      have hc := HC.out
      rw [drop_at hlt, mdl_cons] at hc
      generalize r.getD k 0 = x at *
      have hsz := hbel.size
      obtain ⟨a5, n5, c5, rfl⟩ := hown.form'
      obtain ⟨a6, n6, c6, rfl⟩ := hown2.form'
      have HO := Lib.hid hown; have HE := Lib.hid hown2; have HBE := Lib.hid hbel
      clear hcl HC hown hown2 hbel
      by_cases hxe : x ∈ E
      · rw [if_pos hxe] at hc
        subst hc
        have HX : Hid (decide (x ∈ E) = true) := decide_eq_true hxe
        go_wp2_with (go_at_call 86; ((with_reducible refine (l1Has_any _ E x _ HE.out.rd).mono ?_); rintro e w3 ⟨rfl, rfl⟩; rw [HX.out]))
        go_ret
        exact ⟨rfl, HB4.out.trans (HBE.out.mono hz4)⟩
      · rw [if_neg hxe] at hc
        have HX : Hid (decide (x ∈ E) = false) := decide_eq_false hxe
        by_cases hxo : x ∈ O
        · rw [if_neg (by simpa using hxo)] at hc
          have HY : Hid (decide (x ∈ O) = true) := decide_eq_true hxo
          have hOpos : 0 < O.length := List.length_pos_of_mem hxo
          rcases HO.out.2 with ⟨_, h0⟩ | ⟨g5, cap5, cur5, hv5, _, _, hnc5, hcm5, _, _⟩
          · omega
          simp only [Value.slice.injEq] at hv5
          obtain ⟨rfl, rfl, rfl⟩ := hv5
          obtain ⟨p, hp⟩ : ∃ p, p + 1 = O.length := ⟨O.length - 1, by omega⟩
          have hcell := HO.out.cellAt p (by omega)
          have hwp : IntKind.i64.wrap ((O.length : Int) - 1) = (p : Int) := by rw [IntWalk.i64_in _ (by omega)]; omega
          have hcut := HO.out.cut p (by omega)
          have hdt : dropTop O = O.take p := by unfold dropTop; rw [show O.length - 1 = p by omega]
          have htop : topIs O x = decide (O.getD p 0 = x) := by unfold topIs; rw [decide_eq_true hOpos, show O.length - 1 = p by omega, Bool.true_and]
          rw [htop] at hc
          have hlen : O.length ≤ 12 := by omega
          have hp0 : (0 : Int) ≤ (p : Int) := by omega
          have hp1 : (p : Int) < (O.length : Int) := by omega
          by_cases htx : O.getD p 0 = x
          · rw [decide_eq_true htx, if_pos rfl, hdt] at hc
            rw [htx] at hcell
            have HN := Lib.hid hc; have HCUT := Lib.hid hcut; have HP := Lib.hid hp
            have hxx : (x != x) = false := by simp
            have HOP : Hid ((O.take p).length ≤ k) := by show _ ≤ k; rw [List.length_take]; omega
            generalize hOL : O.length = ol at *
            clear hc hdt htop hcut htx hxo hOpos hp
            go_wp2_with (first
              | (go_at_call 86; ((with_reducible refine (l1Has_any (.slice a6 n6 c6) E x _ HE.out.rd).mono ?_); rintro e w3 ⟨rfl, rfl⟩; rw [HX.out]))
              | (go_at_call 86; ((with_reducible refine (l1Has_any (.slice (some ⟨g5, 0, none⟩) ol c5) O x _ HO.out.rd).mono ?_); rintro e w3 ⟨rfl, rfl⟩; rw [HY.out]))
              | (at_builtin; refine wp_appendW _ rfl (.tmp 67) (.tmp 69) rfl w4.heap.size wc.heap.size _ E x rfl rfl (by rw [cell_of_row _ _ _ _ _ _ (heap_alloc_new wc _)]; rfl) (HE.out.below (Below.alloc1 _ _)) (by omega) (by simp; omega) ?_; intro v4 w7 ho4 hg4 hb4 hw4; have HE4 := Lib.hid ho4; have HO4 := Lib.hid ((HCUT.out.below (Below.alloc1 wc (.cells #[.int .i64 x] 3))).grown hg4 (fun q hq e => HAP.out q hq e)); have HAP4 : Hid (∀ q, (Value.slice (some ⟨g5, 0, none⟩) p c5).ownBlock = some q → v4.ownBlock ≠ some q) := (fun q hq hq2 => by rcases hw4 q hq2 with h8 | h8; exact HAP.out q hq h8; have := (HO.out.lt q hq).2; simp at h8; omega); have HB7 := Lib.hid ((HBE.out.alloc hsz _).trans hb4); clear ho4 hg4 hb4 hw4))
            go_roundw
            case rel => exact ⟨k + 1, O.take p, E ++ [x], by omega, by go_num, by have := HOP.out; omega, by simp; omega, HN, HO4.out, HE4.out, HAP4, HB7.out⟩
            case measure => simp [intOf]; omega
          · rw [decide_eq_false htx, if_neg (by simp)] at hc
            have HF : Hid (F = false) := hc.symm
            generalize hOP : O.getD p 0 = y at *
            have hyx : (y != x) = true := by simp; exact htx
            generalize hOL : O.length = ol at *
            clear hc hdt htop hcut hxo hOpos hp
            go_wp2_with (first
              | (go_at_call 86; ((with_reducible refine (l1Has_any (.slice a6 n6 c6) E x _ HE.out.rd).mono ?_); rintro e w3 ⟨rfl, rfl⟩; rw [HX.out]))
              | (go_at_call 86; ((with_reducible refine (l1Has_any (.slice (some ⟨g5, 0, none⟩) ol c5) O x _ HO.out.rd).mono ?_); rintro e w3 ⟨rfl, rfl⟩; rw [HY.out])))
            go_ret
            exact ⟨by rw [HF.out]; rfl, HB4.out.trans (HBE.out.mono hz4)⟩
        · rw [if_pos hxo] at hc
          have HN := Lib.hid hc
          have HY : Hid (decide (x ∈ O) = false) := decide_eq_false hxo
          clear hc
          go_wp2_with (first
            | (go_at_call 86; ((with_reducible refine (l1Has_any (.slice a6 n6 c6) E x _ HE.out.rd).mono ?_); rintro e w3 ⟨rfl, rfl⟩; rw [HX.out]))
            | (go_at_call 86; ((with_reducible refine (l1Has_any (.slice a5 n5 c5) O x _ HO.out.rd).mono ?_); rintro e w3 ⟨rfl, rfl⟩; rw [HY.out]))
            | (at_builtin; refine wp_appendW _ rfl (.tmp 80) (.tmp 82) rfl w4.heap.size wc.heap.size _ O x rfl rfl (by rw [cell_of_row _ _ _ _ _ _ (heap_alloc_new wc _)]; rfl) (HO.out.below (Below.alloc1 _ _)) (by omega) (by simp; omega) ?_; intro v4 w7 ho4 hg4 hb4 hw4; have HO4 := Lib.hid ho4; have HE4 := Lib.hid ((HE.out.below (Below.alloc1 wc (.cells #[.int .i64 x] 3))).grown hg4 (fun q hq e => HAP.out q e hq)); have HAP4 : Hid (∀ q, v4.ownBlock = some q → (Value.slice a6 n6 c6).ownBlock ≠ some q) := (fun q hq hq2 => by rcases hw4 q hq with h8 | h8; exact HAP.out q h8 hq2; have := (HE.out.lt q hq2).2; simp at h8; omega); have HB7 := Lib.hid ((HBE.out.alloc hsz _).trans hb4); clear ho4 hg4 hb4 hw4))
          go_roundw
          case rel => exact ⟨k + 1, O ++ [x], E, by omega, by go_num, by simp; omega, by omega, HN, HO4.out, HE4.out, HAP4, HB7.out⟩
          case measure => simp [intOf]; omega
    · obtain rfl : k = r.length := by omega
      have hc := HC.out
      rw [List.drop_length] at hc
      have hF : decide (O.length = 0) = F := hc
      obtain ⟨a5, c5, rfl, _⟩ := hown.form
      have HBE := Lib.hid hbel
      clear hc HC hown hown2 hbel
      have HF : Hid ((((O.length : Nat) : Int) == 0) = F) := by
        show _ = _
        rw [← hF, Bool.eq_iff_iff]; simp
      clear hF
      generalize O.length = ol at *
      go_wp2
      go_ret
      exact ⟨ret_bg HF.out, HB4.out.trans (HBE.out.mono hz4)⟩

end Go.Proofs.Ytllhdmpnjcemkac
