/- StateBehind in the program: the loop over the points. -/
import Derived.Test.YtllhdmpnjcemkacBeh
namespace Go.Proofs.Ytllhdmpnjcemkac
open Go.RowKit
set_option linter.unusedSimpArgs false
set_option linter.unusedVariables false

def loadF (v : Value) : Sem Value := Instr.loadAt 77 v
theorem loadF_eq (v : Value) : Instr.loadAt 77 v = loadF v := rfl
def loadP (v : Value) : Sem Value := Instr.loadAt 69 v
theorem loadP_eq (v : Value) : Instr.loadAt 69 v = loadP v := rfl
def storeF (v x : Value) : Sem Unit := Instr.storeAt 77 v x
theorem storeF_eq (v x : Value) : Instr.storeAt 77 v x = storeF v x := rfl
theorem run_storeF (w : World) (g : Nat) (u d : List Int) (c : Int) (hu : u.length ≤ 6) (hd : d.length ≤ 6) (ht : w.there g 0 15) :
    (storeF (.pointer (some ⟨g, 0, none⟩)) (.agg (frC u d c))).run Try.prog w = .ok () (w.setCells g 0 (frC u d c).toList) :=
  run_storeAt_mid w g 0 77 (frC u d c) (by rw [frC_size c hu hd]; exact ht) (by rw [fr_info, frC_size c hu hd]) (frC_one u d c)
theorem run_loadF (w : World) (g : Nat) (u d : List Int) (c : Int) (hu : u.length ≤ 6) (hd : d.length ≤ 6) (h : FrIn w g u d c) :
    (loadF (.pointer (some ⟨g, 0, none⟩))).run Try.prog w = .ok (.agg (frC u d c)) w :=
  run_loadAt_mid w g 0 77 (frC u d c).toList _ (rowRange h) Try.underlying77 rfl (by rw [fr_info]; simp [frC_size c hu hd])
theorem run_loadP (w : World) (g : Nat) (t b : List Int) (h : PairIn w g t b) :
    (loadP (.pointer (some ⟨g, 0, none⟩))).run Try.prog w = .ok (.agg (pairC t b)) w :=
  run_loadAt_mid w g 0 69 (pairC t b).toList _ (rowRange h) Try.underlying69 rfl (by rw [pair_info]; rfl)
attribute [local go_sem ↓] storeF_eq loadF_eq loadP_eq
attribute [local go_sem] run_storeF

theorem BehS.to {w0 : World} {b g6 g8 : Nat} {t bb u d : List Int} {c : Int} {w' : World} (hu : u.length ≤ 6) (hd : d.length ≤ 6) (h : BehS w0 b g6 g8 t bb u d c w') :
    Hid (BehS w0 (b) g6 g8 t bb u d c w') ∧ (loadF (.pointer (some ⟨g8, 0, none⟩))).run Try.prog w' = .ok (.agg (frC u d c)) w' ∧ (loadP (.pointer (some ⟨g6, 0, none⟩))).run Try.prog w' = .ok (.agg (pairC t bb)) w' ∧ w'.there g8 0 15 :=
  ⟨h, run_loadF w' g8 u d c hu hd h.1, run_loadP w' g6 t bb h.2.1, there_row w' g8 0 _ _ h.1 15 (by rw [frC_size c hu hd]; omega)⟩
theorem BehS.keepR {w0 w1 : World} {b g6 g8 : Nat} {t bb u d : List Int} {c : Int} {w' : World} (hu : u.length ≤ 6) (hd : d.length ≤ 6)
    (hb : Below w1.heap.size w1 w') (h : Hid (BehS w0 b g6 g8 t bb u d c w1)) :
    Hid (BehS w0 (b) g6 g8 t bb u d c w') ∧ (loadF (.pointer (some ⟨g8, 0, none⟩))).run Try.prog w' = .ok (.agg (frC u d c)) w' ∧ (loadP (.pointer (some ⟨g6, 0, none⟩))).run Try.prog w' = .ok (.agg (pairC t bb)) w' ∧ w'.there g8 0 15 := BehS.to hu hd (BehS.below h.out hb)

set_option maxHeartbeats 8000000 in
set_option maxRecDepth 100000 in
theorem impl_SB_yes (t b : List Int) (m : Nat) (w : World) (u1 u2 : Value) (h1 : Rd w u1 t) (h2 : Rd w u2 b) (hp : pairOk t b = true) (hm : m ≤ t.length) :
    Calls Try.prog 15 #[.agg #[u1, u2], .int .i64 (m : Int)] w (GivesSt w (behS t b m).1 (behS t b m).2.1 (behS t b m).2.2 true) := by
  obtain ⟨q1, q2, q3⟩ := pairOk_facts hp
  have hA0 := Box2.new 30 w u1 u2
  have hA := hA0.below (Below.alloc1 _ (.cells #[.slice none 0 0, .slice none 0 0, .int .i64 0] 27))
  have hR := Box3.new 27 (w.alloc (.cells #[u1, u2] 30)) (.slice none 0 0) (.slice none 0 0) (.int .i64 0)
  rw [World.size_alloc] at hR
  have B2 := Below.step (Below.alloc1 w (.cells #[u1, u2] 30)) (Below.alloc1 _ (.cells #[.slice none 0 0, .slice none 0 0, .int .i64 0] 27))
  have hrd := readPair_any t b _ u1 u2 (h1.below B2) (h2.below B2)
  simp only [hp, if_true] at hrd
  have k0 := hA.c0; have k1 := hA.c1
  have HB := Lib.hid B2; have HR := Lib.hid hR; have HRD := Lib.hid hrd
  have HSZ := Lib.hid (fun w => pairSize_any t b w)
  have HAT := Lib.hid (fun (i : Nat) (hi : i < t.length) (w : World) => show Calls Try.prog 57 #[.agg (pairC t b), .int .i64 (i : Int)] w (fun e w' => e = .returned (.int .i64 (kindN t b i : Int)) ∧ Below w.heap.size w w') from by
    have := stepAt_any t b q1 q2 q3 i hi w
    rwa [stepV_kind q1 q2 q3 hi] at this)
  have hok := fun i (hi : i ≤ m) => beh_ok q1 q2 q3 i (by omega)
  have HLN := Lib.hid (fun i (hi : i ≤ m) => show (behS t b i).1.length ≤ 6 ∧ (behS t b i).2.1.length ≤ 6 from by have := state_facts (hok i hi).1; omega)
  have HST := Lib.hid (fun (i : Nat) (hi : i < m) (w : World) => show Calls Try.prog 56 #[.agg (frC (behS t b i).1 (behS t b i).2.1 (behS t b i).2.2), .int .i64 (kindN t b i : Int)] w (FrOut w (behS t b (i + 1)).1 (behS t b (i + 1)).2.1 (behS t b (i + 1)).2.2 true) from by
    have h := hok i (by omega)
    have hf := state_facts h.1
    have hw := state_wf h.1
    have := step_any (behS t b i).1 (behS t b i).2.1 (behS t b i).2.2 (kindN t b i) (kind_le t b i) w hf.1 hf.2.1 hf.2.2.1 hw.1 hw.2
    rw [h.2.2.2.2 (by omega)] at this
    exact this)
  have HFS := Lib.hid (fun w => frState_any (behS t b m).1 (behS t b m).2.1 (behS t b m).2.2 w (HLN.out m (Nat.le_refl _)).1 (HLN.out m (Nat.le_refl _)).2)
  have hn12 := good_len' q1
  obtain ⟨n, hn⟩ : ∃ n, n = t.length := ⟨_, rfl⟩
  rw [← hn] at hm hn12 HSZ HAT
  clear hA0 hA hR B2 h1 h2 hrd hok hp q1 q2 q3 hn
  have hdk : decide ((m : Int) < 0) = false := decide_eq_false (by omega)
  go_enter Try.func15, Try.ntmps15
  go_wp2_with fail
  refine HRD.out.mono ?_
  rintro e w1 ⟨rfl, hb1⟩
  have HR1 := Lib.hid (HR.out.below hb1); have HB1 := Lib.hid (Below.step HB.out hb1); clear hb1 k0 k1
  go_wp2_with (first
    | ((with_reducible refine wp_storePairN rfl (.tmp 6) (.tmp 13) rfl t b rfl rfl ?_); intro w2 hs2 hb2; have HS2 := Lib.hid hs2; have HR2 := Lib.hid (HR1.out.below hb2); have HB2 := Lib.hid (Below.step HB1.out hb2); clear hs2 hb2)
    | (with_reducible refine wp_loadPairG (.tmp 6) rfl w1.heap.size t b rfl HS2.out (by with_unfolding_all rfl) ?_)
    | (go_at_call 55; ((with_reducible refine (HSZ.out _).mono ?_); rintro e w3 ⟨rfl, hb3⟩; have HS3 := Lib.hid (HS2.out.below hb3); have HR3 := Lib.hid (HR2.out.below hb3); have HB3 := Lib.hid (Below.step HB2.out hb3); clear hb3))
    | ((with_reducible refine wp_storeFr rfl (.tmp 8) (.tmp 28) rfl _ [] [] [] [] 0 0 (Nat.zero_le _) (Nat.zero_le _) (Nat.zero_le _) (Nat.zero_le _) rfl rfl (fr_zero _) ?_); intro w4 hs4 hg4; have HS4 := Lib.hid hs4; have HG4 := Lib.hid hg4; clear hs4 hg4))
  have hb0 : BehS w (w.heap.size + 1) w1.heap.size w3.heap.size t b (behS t b 0).1 (behS t b 0).2.1 (behS t b 0).2.2 w4 :=
    ⟨HS4.out, PairIn.grown (PairIn.below HS3.out (Below.alloc1 _ _)) HG4.out (by have := HS3.out.lt; simp; omega), Box3.grown (Box3.below HR3.out (Below.alloc1 _ _)) HG4.out (by have := HR3.out.lt; simp; omega), (Below.step HB3.out (Below.alloc1 _ _)).grown HG4.out (Nat.le_of_lt (Nat.lt_of_le_of_lt HB3.out.size (fr0_lt w3))) (fun k hk => by have := HB3.out.size; simp at hk; omega)⟩
  have H0 := Lib.hid hb0
  have HN6 : Hid (w1.heap.size ≠ w3.heap.size) := by show _ ≠ _; have := HS3.out.lt; omega
  have HNB : Hid (w.heap.size + 1 ≠ w3.heap.size) := by show _ ≠ _; have := HR3.out.lt; omega
  have HN8 : Hid (w.heap.size ≤ w3.heap.size) := HB3.out.size
  clear hb0
  go_loopw [30] (fun i wr => ∃ q : Nat, q ≤ m ∧ i = .int .i64 (q : Int) ∧ Hid (BehS w (w.heap.size + 1) w1.heap.size w3.heap.size t b (behS t b q).1 (behS t b q).2.1 (behS t b q).2.2 wr)) (fun i _ => m - (intOf i).toNat)
  case atStart => exact ⟨0, by omega, rfl, H0⟩
  case round =>
    clear H0
    obtain ⟨q, hq, rfl, HR⟩ := hrel
    generalize wr = wc at *
    by_cases hlt : q < m
    · obtain ⟨l1, l2⟩ := HLN.out q (by omega)
      obtain ⟨l3, l4⟩ := HLN.out (q + 1) hlt
      have hat := fun w => HAT.out q (by omega) w
      have hst := fun w => HST.out q hlt w
      unfold FrOut at hst
      have HAT1 := Lib.hid hat; have HST1 := Lib.hid hst
      have L1 := l1; have L2 := l2; have L3 := l3; have L4 := l4
      clear hat hst l1 l2 l3 l4
      have HNEXT : Hid (∀ w', Hid (BehS w (w.heap.size + 1) w1.heap.size w3.heap.size t b (behS t b q).1 (behS t b q).2.1 (behS t b q).2.2 w') → Hid (BehS w (w.heap.size + 1) w1.heap.size w3.heap.size t b (behS t b (q + 1)).1 (behS t b (q + 1)).2.1 (behS t b (q + 1)).2.2 (w'.setCells w3.heap.size 0 (frC (behS t b (q + 1)).1 (behS t b (q + 1)).2.1 (behS t b (q + 1)).2.2).toList))) :=
        fun w' h => BehS.set L1 L2 L3 L4 HN6.out HNB.out HN8.out h.out
      have HRn := HR
      generalize hsn : behS t b (q + 1) = sn at HST1 L3 L4 HNEXT
      generalize behS t b q = sq at HST1 HNEXT L1 L2 HRn
      have HSN := Lib.hid hsn
      clear hsn HR HST HFS HLN
      obtain ⟨Y0, y1, y2, y3⟩ := BehS.to L1 L2 (BehS.drew HRn.out)
      go_wp2_with fail
      go_region_with (first
          | (go_at_call 57; ((with_reducible refine (HAT1.out _).mono ?_); rintro e' w' ⟨rfl, hb'⟩; obtain ⟨Y0, y1, y2, y3⟩ := BehS.keepR L1 L2 hb' (by assumption)))
          | (go_at_call 56; ((with_reducible refine (HST1.out _).mono ?_); rintro e' w' ⟨rfl, hb'⟩; obtain ⟨Y0, y1, y2, y3⟩ := BehS.keepR L1 L2 hb' (by assumption))))
      all_goals
        go_wp2_with fail
        go_roundw
        · exact ⟨q + 1, by omega, by simp, HSN.out ▸ HNEXT.out _ (by assumption)⟩
        · simp [intOf]; omega
    · obtain rfl : m = q := by omega
      have hln := HLN.out m (Nat.le_refl _)
      have hfs := HFS.out
      have HX := HR
      generalize hsm : behS t b m = sm at hln hfs HX
      have HSM := Lib.hid hsm
      clear hsm
      have M1 := Lib.hid hln.1; have M2 := Lib.hid hln.2; have HFS1 := Lib.hid hfs
      have HS4 := Lib.hid HX.out.1; have HR4 := Lib.hid HX.out.2.2.1; have HB4 := Lib.hid HX.out.2.2.2
      clear hln hfs HFS HLN HST HX HR HAT
      go_wp2_with (first
        | (with_reducible refine wp_loadFr rfl (.tmp 8) rfl w3.heap.size sm.1 sm.2.1 sm.2.2 M1.out M2.out rfl HS4.out ?_)
        | (go_at_call 58; ((with_reducible refine (HFS1.out _).mono ?_); rintro e w5 ⟨x1, x2, rfl, ho1, ho2, hap, hb5⟩; obtain ⟨f1, f2, f3, rfl⟩ := ho1.form'; obtain ⟨f4, f5, f6, rfl⟩ := ho2.form'; have HR5 := Lib.hid (HR4.out.below hb5); have HB5 := Lib.hid (Below.step HB4.out hb5); have HO1 := Lib.hid ho1; have HO2 := Lib.hid ho2; have HAP := Lib.hid hap; have HLT := Lib.hid HR4.out.lt; have r0 := HR5.out.c0; have r1 := HR5.out.c1; have r2 := HR5.out.c2; have g0 := HR5.out.free 0; have g1 := HR5.out.free 1; have g2 := HR5.out.free 2; clear ho1 ho2 hb5 hap)))
      have G1 : ∀ k, (Value.slice f1 f2 f3).ownBlock = some k → (some (w.heap.size + 1) : Option Nat) ≠ some k := fun k hk e => by have h5 := (HO1.out.lt k hk).1; have := HLT.out; simp at e; omega
      have G2 : ∀ k, (Value.slice f4 f5 f6).ownBlock = some k → (some (w.heap.size + 1) : Option Nat) ≠ some k := fun k hk e => by have h5 := (HO2.out.lt k hk).1; have := HLT.out; simp at e; omega
      rw [HSM.out]
      exact bodyPost_ret (results_isb _ _ (w.heap.size + 1) _ _ _ true (((HR5.out.set0 _).set1 _).set2 _) rfl rfl) rfl ⟨_, _, rfl, (HO1.out.grown (grownS_trans (grownS_trans grownS_setCell grownS_setCell) grownS_setCell) G1).mono HB4.out.size, (HO2.out.grown (grownS_trans (grownS_trans grownS_setCell grownS_setCell) grownS_setCell) G2).mono HB4.out.size, HAP.out, ((HB5.out.setCell (p := ⟨w.heap.size + 1, 0, none⟩) (Nat.le_succ _) _).setCell (p := ⟨w.heap.size + 1, 1, none⟩) (Nat.le_succ _) _).setCell (p := ⟨w.heap.size + 1, 2, none⟩) (Nat.le_succ _) _⟩

theorem impl_StateBehind (t b : List Int) (k : Int) (w : World) (u1 u2 : Value) (h1 : Rd w u1 t) (h2 : Rd w u2 b) (m1 : t.length ≤ 1048576) (m2 : b.length ≤ 1048576) :
    Calls Try.prog 15 #[.agg #[u1, u2], .int .i64 k] w (GivesSt w (res1_StateBehind t b k) (res2_StateBehind t b k) (res3_StateBehind t b k) (ok_StateBehind t b k)) := by
  unfold res1_StateBehind res2_StateBehind res3_StateBehind ok_StateBehind behO
  cases h : okSB t b k with
  | false =>
    simp only [Bool.false_eq_true, if_false]
    exact impl_SB_no t b k w u1 u2 h1 h2 m1 m2 h
  | true =>
    obtain ⟨hp, h0, hk⟩ := okSB_facts h
    obtain ⟨m, rfl⟩ : ∃ m : Nat, k = (m : Int) := ⟨k.toNat, by omega⟩
    simp only [if_true, Int.toNat_natCast]
    exact impl_SB_yes t b m w u1 u2 h1 h2 hp (by omega)

end Go.Proofs.Ytllhdmpnjcemkac
