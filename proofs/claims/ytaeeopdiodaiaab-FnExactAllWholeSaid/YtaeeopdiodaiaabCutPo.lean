/- PiecesOf, PiecesBack, IsSimple: the program's functions. -/
/- CountSimple, CountByPieces, AllWhole: the program's functions; AllWhole of the model. -/
import Derived.Test.YtaeeopdiodaiaabCutPi
import Derived.Test.YtaeeopdiodaiaabMeOf
namespace Go.Proofs.Ytaeeopdiodaiaab
open Go.RowKit
set_option linter.unusedSimpArgs false
set_option linter.unusedVariables false

theorem results_ra (tmps : Array Value) (w : World) (g : Nat) (t b : List Int) (ok : Bool) (hg : PairIn w g t b) (h2 : tmps.getD 2 undef = .pointer (some ⟨g, 0, none⟩)) (h3 : tmps.getD 3 undef = .bool ok) :
    (results Try.f60 tmps).run Try.prog w = .ok (.tuple #[.agg (pairC t b), .bool ok]) w := by
  have h2' : tmps[2]?.getD undef = .pointer (some ⟨g, 0, none⟩) := by simpa using h2
  have h3' : tmps[3]?.getD undef = .bool ok := by simpa using h3
  have hr : Try.f60.results = #[.cell 2 70, .tmp 3] := by kernel_rfl
  simp [results, hr, h2', h3', asAddr, run_loadPair w g t b hg]
set_option maxHeartbeats 2000000 in
theorem readArched_any (t b : List Int) (w : World) (u1 u2 : Value) (h1 : Rd w u1 t) (h2 : Rd w u2 b) :
    Calls Try.prog 60 #[.agg #[u1, u2]] w (PairOut w (if archedB t b then t else []) (if archedB t b then b else []) (archedB t b)) := by
  have hA := Box2.below (Box2.new 33 w u1 u2) (Below.alloc1 _ (.cells zeroQ 70))
  have hP := zero_in (w.alloc (.cells #[u1, u2] 33))
  rw [World.size_alloc] at hP
  have B2 := Below.step (Below.alloc1 w (.cells #[u1, u2] 33)) (Below.alloc1 _ (.cells zeroQ 70))
  have k0 := hA.c0; have k1 := hA.c1
  have hrd := readPair_any t b _ u1 u2 (h1.below B2) (h2.below B2)
  have HP := Lib.hid hP; have HB := Lib.hid B2
  have HSZ := Lib.hid (fun w => pairSize_any t b w)
  clear hA hP B2 h1 h2
  unfold zeroQ archedB at *
  cases h : pairOk t b with
  | false =>
    rw [h] at hrd
    simp only [Bool.false_eq_true, if_false, Bool.false_and] at hrd ⊢
    have HR := Lib.hid hrd; clear hrd h HSZ
    go_enter Try.func60, Try.ntmps60
    go_wp2_with fail
    refine HR.out.mono ?_
    rintro e w1 ⟨rfl, hb1⟩
    have HP1 := Lib.hid (HP.out.below hb1); have HB1 := Lib.hid (Below.step HB.out hb1); clear hb1 k0 k1
    go_wp2_with (first
      | ((with_reducible refine wp_storePairN rfl (.tmp 4) (.tmp 9) rfl [] [] rfl rfl ?_); intro w2 hs2 hb2; have HP2 := Lib.hid (HP1.out.below hb2); have HB2 := Lib.hid (Below.step HB1.out hb2); clear hs2 hb2)
      | ((with_reducible refine wp_storePair rfl (.tmp 2) (.tmp 18) rfl (w.heap.size + 1) [] [] [] [] rfl rfl HP2.out ?_); intro w5 hp5 hg5))
    exact bodyPost_ret (results_ra _ _ (w.heap.size + 1) [] [] false hp5 rfl rfl) rfl ⟨rfl, HB2.out.grown hg5 HB2.out.size (by intro k hk; simp at hk; omega)⟩
  | true =>
    rw [h] at hrd
    simp only [if_true, Bool.true_and] at hrd ⊢
    have HR := Lib.hid hrd; clear hrd h
    obtain ⟨n, hn⟩ : ∃ n, t.length = n := ⟨_, rfl⟩
    rw [hn] at HSZ ⊢
    clear hn
    by_cases h0 : 0 < n
    · rw [decide_eq_true h0]
      simp only [if_true]
      have hd : ((n : Int) == 0) = false := by simp; omega
      go_enter Try.func60, Try.ntmps60
      go_wp2_with fail
      refine HR.out.mono ?_
      rintro e w1 ⟨rfl, hb1⟩
      have HP1 := Lib.hid (HP.out.below hb1); have HB1 := Lib.hid (Below.step HB.out hb1); clear hb1 k0 k1
      go_wp2_with (first
        | ((with_reducible refine wp_storePairN rfl (.tmp 4) (.tmp 9) rfl t b rfl rfl ?_); intro w2 hs2 hb2; have HQ2 := Lib.hid hs2; have HP2 := Lib.hid (HP1.out.below hb2); have HB2 := Lib.hid (Below.step HB1.out hb2); clear hs2 hb2)
        | (with_reducible refine wp_loadPairG (.tmp 4) rfl w1.heap.size t b rfl HQ2.out (by with_unfolding_all rfl) ?_)
        | (go_at_call 76; ((with_reducible refine (HSZ.out _).mono ?_); rintro e w3 ⟨rfl, hb3⟩; have HQ3 := Lib.hid (HQ2.out.below hb3); have HP3 := Lib.hid (HP2.out.below hb3); have HB3 := Lib.hid (Below.step HB2.out hb3); clear hb3))
        | (with_reducible refine wp_loadPair rfl (.tmp 4) rfl w1.heap.size t b rfl HQ3.out ?_)
        | ((with_reducible refine wp_storePair rfl (.tmp 2) (.tmp 19) rfl (w.heap.size + 1) t b [] [] rfl rfl HP3.out ?_); intro w5 hp5 hg5))
      exact bodyPost_ret (results_ra _ _ (w.heap.size + 1) t b true hp5 rfl rfl) rfl ⟨rfl, HB3.out.grown hg5 HB3.out.size (by intro k hk; simp at hk; omega)⟩
    · obtain rfl : n = 0 := by omega
      simp only [Nat.lt_irrefl, decide_false, Bool.false_eq_true, if_false]
      go_enter Try.func60, Try.ntmps60
      go_wp2_with fail
      refine HR.out.mono ?_
      rintro e w1 ⟨rfl, hb1⟩
      have HP1 := Lib.hid (HP.out.below hb1); have HB1 := Lib.hid (Below.step HB.out hb1); clear hb1 k0 k1
      go_wp2_with (first
        | ((with_reducible refine wp_storePairN rfl (.tmp 4) (.tmp 9) rfl t b rfl rfl ?_); intro w2 hs2 hb2; have HQ2 := Lib.hid hs2; have HP2 := Lib.hid (HP1.out.below hb2); have HB2 := Lib.hid (Below.step HB1.out hb2); clear hs2 hb2)
        | (with_reducible refine wp_loadPairG (.tmp 4) rfl w1.heap.size t b rfl HQ2.out (by with_unfolding_all rfl) ?_)
        | (go_at_call 76; ((with_reducible refine (HSZ.out _).mono ?_); rintro e w3 ⟨rfl, hb3⟩; have HP3 := Lib.hid (HP2.out.below hb3); have HB3 := Lib.hid (Below.step HB2.out hb3); clear hb3))
        | ((with_reducible refine wp_storePair rfl (.tmp 2) (.tmp 18) rfl (w.heap.size + 1) [] [] [] [] rfl rfl HP3.out ?_); intro w5 hp5 hg5))
      exact bodyPost_ret (results_ra _ _ (w.heap.size + 1) [] [] false hp5 rfl rfl) rfl ⟨rfl, HB3.out.grown hg5 HB3.out.size (by intro k hk; simp at hk; omega)⟩

def bigB (p : List Int × List Int) : Bool := decide (2 < p.1.length)
theorem simple_any2 {t b : List Int} (hg : goodP t b) (h0 : 0 < t.length) : simpleB t b = !((piecesL false t b).any bigB) := by
  unfold simpleB
  have h := (pieces_len false hg h0).2
  rw [Bool.eq_iff_iff]
  simp only [decide_eq_true_eq, h, Bool.not_eq_true', List.any_eq_false, bigB]
  constructor
  · intro h p hp; have := h p hp; omega
  · intro h p hp; have := h p hp; omega
theorem big_any (t b : List Int) (w : World) : Calls Try.prog 94 #[.agg (pairC t b)] w (Tells w (bigB (t, b))) := by
  have HSZ := Lib.hid (fun w => pairSize_any t b w)
  have HP := Lib.hid (PairIn.new w t b)
  have HB := Lib.hid (Below.alloc1 w (.cells (pairC t b) 70))
  unfold bigB
  simp only
  generalize t.length = n at *
  have hd : decide (2 < n) = decide ((2 : Int) < (n : Int)) := by rw [Bool.eq_iff_iff]; simp; omega
  rw [hd]
  clear hd
  go_enter Try.func94, Try.ntmps94
  go_wp2_with (first
    | (with_reducible refine wp_loadPair rfl (.tmp 1) rfl w.heap.size t b rfl HP.out ?_)
    | (go_at_call 76; ((with_reducible refine (HSZ.out _).mono ?_); rintro e w1 ⟨rfl, hb1⟩; have HB1 := Lib.hid (Below.step HB.out hb1); clear hb1)))
  go_ret
  exact ⟨by first | rfl | simp, HB1.out⟩
set_option maxHeartbeats 2000000 in
theorem indexF_any (ps : List (List Int × List Int)) (hn : ps.length ≤ 1000) (B : Nat) (w : World) (v : Value) (hown : OwnP B w v ps) :
    Calls Try.prog 120 #[v, .func (.func 94) #[] #[]] w (fun e w' => ∃ x : Int, e = .returned (.int .i64 x) ∧ decide (0 ≤ x) = ps.any bigB ∧ Below w.heap.size w w') := by
  have HCK := Lib.hid (fun (k : Nat) w => big_any (ps.getD k ([], [])).1 (ps.getD k ([], [])).2 w)
  have HAN : Hid (∀ k, k < ps.length → bigB (ps.getD k ([], [])) = true → ps.any bigB = true) := fun k hk h => List.any_eq_true.2 ⟨ps.getD k ([], []), by simp [List.getD, hk], h⟩
  have HNO : Hid ((∀ k, k < ps.length → bigB (ps.getD k ([], [])) = false) → ps.any bigB = false) := fun h => by
    rw [List.any_eq_false]
    intro p hp
    obtain ⟨k, hk, rfl⟩ := List.mem_iff_getElem.1 hp
    have := h k hk
    rw [show ps.getD k ([], []) = ps[k] by simp [List.getD, hk]] at this
    simp [this]
  obtain ⟨a0, c0, rfl, hx1, hx2⟩ := hown.form
  unfold maxLen at hx2
  have HO := Lib.hid hown
  clear hown
  go_enter Try.func120, Try.ntmps120
  go_wp2_with fail
  go_loopw [8] (fun i wr => ∃ k : Nat, k ≤ ps.length ∧ i = .int .i64 (k : Int) ∧ Hid (∀ j, j < k → bigB (ps.getD j ([], [])) = false) ∧ Below w.heap.size w wr) (fun i _ => ps.length - (intOf i).toNat)
  case atStart => exact ⟨0, by omega, rfl, fun j hj => absurd hj (Nat.not_lt_zero _), Below.refl _ _⟩
  case round =>
    obtain ⟨k, hk, rfl, HF, hbel⟩ := hrel
    generalize wr = wc at *
    by_cases hlt : k < ps.length
    · obtain ⟨g, rfl, hy1, hy2, hy3, hrg, hth⟩ := (HO.out.below hbel).at (by omega)
      have hr := hrg k hlt
      have hcall := HCK.out k
      have han := HAN.out k hlt
      have hnf : bigB (ps.getD k ([], [])) = false → Hid (∀ j, j < k + 1 → bigB (ps.getD j ([], [])) = false) := fun h j hj => by
        rcases Nat.lt_or_ge j k with h1 | h1
        · exact HF.out j h1
        · rw [show j = k by omega]; exact h
      generalize ps.getD k ([], []) = p at *
      obtain ⟨t, b⟩ := p
      simp only at hr hcall
      generalize bigB (t, b) = M at *
      have HR := Lib.hid hr; have HCL := Lib.hid hcall; have HBE := Lib.hid hbel
      clear hy1 hy2 hy3 hrg hth hr hcall hbel
      cases M with
      | true =>
        have HT := Lib.hid (han rfl)
        clear han hnf
        go_wp2_with (first
          | (with_reducible refine boxP_load rfl (.tmp 14) rfl g (k * 26) t b rfl HR.out ?_)
          | (go_at_call 94; ((with_reducible refine (HCL.out _).mono ?_); rintro e w6 ⟨rfl, hb6⟩; have HB6 := Lib.hid (Below.step HBE.out hb6); clear hb6)))
        go_ret
        exact ⟨_, rfl, by rw [HT.out]; exact decide_eq_true (by omega), HB6.out⟩
      | false =>
        have HF2 := hnf rfl
        clear han hnf
        go_wp2_with (first
          | (with_reducible refine boxP_load rfl (.tmp 14) rfl g (k * 26) t b rfl HR.out ?_)
          | (go_at_call 94; ((with_reducible refine (HCL.out _).mono ?_); rintro e w6 ⟨rfl, hb6⟩; have HB6 := Lib.hid (Below.step HBE.out hb6); clear hb6)))
        go_roundw
        case rel => exact ⟨k + 1, by omega, by go_num, HF2, HB6.out⟩
        case measure => simp [intOf]; omega
    · obtain rfl : k = ps.length := by omega
      have HT := Lib.hid (HNO.out HF.out)
      have HBE := Lib.hid hbel
      clear hbel
      go_wp2_with fail
      go_ret
      exact ⟨_, rfl, by rw [HT.out]; rfl, HBE.out⟩
theorem containsF_any (ps : List (List Int × List Int)) (hn : ps.length ≤ 1000) (B : Nat) (w : World) (v : Value) (hown : OwnP B w v ps) :
    Calls Try.prog 93 #[v, .func (.func 94) #[] #[]] w (Tells w (ps.any bigB)) := by
  have HI := Lib.hid (indexF_any ps hn B w v hown)
  obtain ⟨a0, c0, rfl, -, -⟩ := hown.form
  clear hown
  generalize ps.any bigB = R at *
  go_enter Try.func93, Try.ntmps93
  go_wp2_with (go_at_call 120; ((with_reducible refine HI.out.mono ?_); rintro e w1 ⟨x, rfl, hx, hb1⟩; have HX := Lib.hid hx; have HB1 := Lib.hid hb1; clear hx hb1))
  go_ret
  exact ⟨by rw [← HX.out]; rfl, HB1.out⟩
set_option maxHeartbeats 1000000 in
theorem isSimple_any (t b : List Int) (hg : goodP t b) (h0 : 0 < t.length) (w : World) : Calls Try.prog 61 #[.agg (pairC t b)] w (Tells w (simpleB t b)) := by
  rw [simple_any2 hg h0]
  have HPI := Lib.hid (fun w => piecesFirst_any t b hg h0 w)
  have hle := (pieces_bd false hg h0).1
  have HCO := Lib.hid (fun B w v ho => containsF_any (piecesL false t b) (by omega) B w v ho)
  have HP := Lib.hid (PairIn.new w t b)
  have HB := Lib.hid (Below.alloc1 w (.cells (pairC t b) 70))
  generalize piecesL false t b = L at *
  generalize L.any bigB = R at *
  clear hg h0
  go_enter Try.func61, Try.ntmps61
  go_wp2_with (first
    | (with_reducible refine wp_loadPair rfl (.tmp 1) rfl w.heap.size t b rfl HP.out ?_)
    | (go_at_call 58; ((with_reducible refine (HPI.out _).mono ?_); rintro e w1 ⟨v, rfl, ho, hb1⟩; obtain ⟨a1, c1, rfl, -, -⟩ := ho.form; have HO := Lib.hid ho; have HB1 := Lib.hid (Below.step HB.out hb1); clear ho hb1))
    | (go_at_call 93; ((with_reducible refine (HCO.out _ _ _ HO.out).mono ?_); rintro e w2 ⟨rfl, hb2⟩; have HB2 := Lib.hid (Below.step HB1.out hb2); clear hb2)))
  go_ret
  exact ⟨rfl, HB2.out⟩

set_option maxHeartbeats 1000000 in
theorem impl_IsSimple (t b : List Int) (w : World) (u1 u2 : Value) (h1 : Rd w u1 t) (h2 : Rd w u2 b) (m1 : t.length ≤ 1048576) (m2 : b.length ≤ 1048576) :
    Calls Try.prog 35 #[.agg #[u1, u2]] w (GivesD w (res_IsSimple t b) (ok_IsSimple t b)) := by
  unfold res_IsSimple ok_IsSimple
  have hA := Box2.new 33 w u1 u2
  have B1 : Below w.heap.size w (w.alloc (.cells #[u1, u2] 33)) := Below.alloc1 w _
  have k0 := hA.c0; have k1 := hA.c1
  have hrd := readArched_any t b _ u1 u2 (h1.below B1) (h2.below B1)
  have HB := Lib.hid B1
  clear hA B1 h1 h2
  cases h : archedB t b with
  | false =>
    rw [h] at hrd
    simp only [Bool.false_eq_true, if_false, Bool.false_and] at hrd ⊢
    have HR := Lib.hid hrd; clear hrd h
    go_enter Try.func35, Try.ntmps35
    go_wp2_with fail
    refine HR.out.mono ?_
    rintro e w1 ⟨rfl, hb1⟩
    have HB1 := Lib.hid (Below.step HB.out hb1); clear hb1 k0 k1
    go_wp2_with ((with_reducible refine wp_storePairN rfl (.tmp 4) (.tmp 9) rfl [] [] rfl rfl ?_); intro w2 hs2 hb2; have HB2 := Lib.hid (Below.step HB1.out hb2); clear hs2 hb2)
    go_ret2
    exact ⟨rfl, HB2.out⟩
  | true =>
    rw [h] at hrd
    simp only [if_true, Bool.true_and] at hrd ⊢
    have hf := arched_facts h
    have HC := Lib.hid (fun w => isSimple_any t b hf.1 hf.2 w)
    have HR := Lib.hid hrd; clear hrd h hf
    generalize simpleB t b = N at *
    go_enter Try.func35, Try.ntmps35
    go_wp2_with fail
    refine HR.out.mono ?_
    rintro e w1 ⟨rfl, hb1⟩
    have HB1 := Lib.hid (Below.step HB.out hb1); clear hb1 k0 k1
    go_wp2_with (first
      | ((with_reducible refine wp_storePairN rfl (.tmp 4) (.tmp 9) rfl t b rfl rfl ?_); intro w2 hs2 hb2; have HS2 := Lib.hid hs2; have HB2 := Lib.hid (Below.step HB1.out hb2); clear hs2 hb2)
      | (with_reducible refine wp_loadPairG (.tmp 4) rfl w1.heap.size t b rfl HS2.out (by with_unfolding_all rfl) ?_)
      | (go_at_call 61; ((with_reducible refine (HC.out _).mono ?_); rintro e w3 ⟨rfl, hb3⟩; have HB3 := Lib.hid (Below.step HB2.out hb3); clear hb3)))
    go_ret2
    exact ⟨rfl, HB3.out⟩

set_option maxHeartbeats 1000000 in
theorem piecesByFirst_any (t b : List Int) (w : World) (u1 u2 : Value) (h1 : Rd w u1 t) (h2 : Rd w u2 b) :
    Calls Try.prog 50 #[.agg #[u1, u2], .func (.func 51) #[] #[]] w (GivesMF w (res_PiecesOf t b) (ok_PiecesOf t b)) := by
  unfold res_PiecesOf ok_PiecesOf
  have hA := Box2.new 33 w u1 u2
  have B1 : Below w.heap.size w (w.alloc (.cells #[u1, u2] 33)) := Below.alloc1 w _
  have k0 := hA.c0; have k1 := hA.c1
  have hrd := readArched_any t b _ u1 u2 (h1.below B1) (h2.below B1)
  have HB := Lib.hid B1
  clear hA B1 h1 h2
  cases h : archedB t b with
  | false =>
    rw [h] at hrd
    simp only [Bool.false_eq_true, if_false] at hrd ⊢
    have HR := Lib.hid hrd; clear hrd h
    go_enter Try.func50, Try.ntmps50
    go_wp2_with fail
    refine HR.out.mono ?_
    rintro e w1 ⟨rfl, hb1⟩
    have HB1 := Lib.hid (Below.step HB.out hb1); clear hb1 k0 k1
    go_wp2_with ((with_reducible refine wp_storePairN rfl (.tmp 6) (.tmp 11) rfl [] [] rfl rfl ?_); intro w2 hs2 hb2; have HB2 := Lib.hid (Below.step HB1.out hb2); clear hs2 hb2)
    go_ret2
    exact ⟨_, [], rfl, OwnMF.mono (OwnMF.nil _ _) HB2.out.size, HB2.out⟩
  | true =>
    rw [h] at hrd
    simp only [if_true] at hrd ⊢
    have hf := arched_facts h
    have hbd := pieces_bd false hf.1 hf.2
    have HPI := Lib.hid (fun w => piecesFirst_any t b hf.1 hf.2 w)
    have HMF := Lib.hid (fun B w v ho => meandersFrom_any (piecesL false t b) (fun k hk => hbd.2 _ (by simp [List.getD, hk])) (by omega) B w v ho)
    generalize piecesL false t b = M at *
    have HR := Lib.hid hrd; clear hrd h hf hbd
    go_enter Try.func50, Try.ntmps50
    go_wp2_with fail
    refine HR.out.mono ?_
    rintro e w1 ⟨rfl, hb1⟩
    have HB1 := Lib.hid (Below.step HB.out hb1); clear hb1 k0 k1
    go_wp2_with (first
      | ((with_reducible refine wp_storePairN rfl (.tmp 6) (.tmp 11) rfl t b rfl rfl ?_); intro w2 hs2 hb2; have HS2 := Lib.hid hs2; have HB2 := Lib.hid (Below.step HB1.out hb2); clear hs2 hb2)
      | (with_reducible refine wp_loadPair rfl (.tmp 6) rfl w1.heap.size t b rfl HS2.out ?_)
      | (go_at_call 58; ((with_reducible refine (HPI.out _).mono ?_); rintro e w3 ⟨v, rfl, ho, hb3⟩; obtain ⟨a1, c1, rfl, -, -⟩ := ho.form; have HO := Lib.hid ho; have HB3 := Lib.hid (Below.step HB2.out hb3); clear ho hb3))
      | (go_at_call 44; ((with_reducible refine (HMF.out _ _ _ HO.out).mono ?_); rintro e w5 ⟨rv, rvs, rfl, hor, hb5⟩; have HB5 := Lib.hid (Below.step HB3.out hb5); obtain ⟨ra, rc, rfl, -, -⟩ := hor.rd.form; have HOR := Lib.hid hor; clear hor hb5)))
    go_ret2
    exact ⟨_, _, rfl, HOR.out.mono HB3.out.size, HB5.out⟩
theorem impl_PiecesOf (t b : List Int) (w : World) (u1 u2 : Value) (h1 : Rd w u1 t) (h2 : Rd w u2 b) (m1 : t.length ≤ 1048576) (m2 : b.length ≤ 1048576) :
    Calls Try.prog 19 #[.agg #[u1, u2]] w (GivesMF w (res_PiecesOf t b) (ok_PiecesOf t b)) := by
  have hA := Box2.new 33 w u1 u2
  have B1 : Below w.heap.size w (w.alloc (.cells #[u1, u2] 33)) := Below.alloc1 w _
  have k0 := hA.c0; have k1 := hA.c1
  have HP := Lib.hid (piecesByFirst_any t b _ u1 u2 (h1.below B1) (h2.below B1))
  have HB := Lib.hid B1
  clear hA B1 h1 h2
  generalize res_PiecesOf t b = M at *
  generalize ok_PiecesOf t b = R at *
  go_enter Try.func19, Try.ntmps19
  go_wp2_with fail
  refine HP.out.mono ?_
  rintro e w1 ⟨rv, rvs, rfl, hor, hb1⟩
  obtain ⟨ra, rc, rfl, -, -⟩ := hor.rd.form
  have HOR := Lib.hid hor; clear hor
  go_wp2
  go_ret2
  exact ⟨_, _, rfl, HOR.out.mono HB.out.size, Below.step HB.out hb1⟩

set_option maxHeartbeats 1000000 in
theorem piecesByLast_any (t b : List Int) (w : World) (u1 u2 : Value) (h1 : Rd w u1 t) (h2 : Rd w u2 b) :
    Calls Try.prog 50 #[.agg #[u1, u2], .func (.func 52) #[] #[]] w (GivesMF w (res_PiecesBack t b) (ok_PiecesBack t b)) := by
  unfold res_PiecesBack ok_PiecesBack
  have hA := Box2.new 33 w u1 u2
  have B1 : Below w.heap.size w (w.alloc (.cells #[u1, u2] 33)) := Below.alloc1 w _
  have k0 := hA.c0; have k1 := hA.c1
  have hrd := readArched_any t b _ u1 u2 (h1.below B1) (h2.below B1)
  have HB := Lib.hid B1
  clear hA B1 h1 h2
  cases h : archedB t b with
  | false =>
    rw [h] at hrd
    simp only [Bool.false_eq_true, if_false] at hrd ⊢
    have HR := Lib.hid hrd; clear hrd h
    go_enter Try.func50, Try.ntmps50
    go_wp2_with fail
    refine HR.out.mono ?_
    rintro e w1 ⟨rfl, hb1⟩
    have HB1 := Lib.hid (Below.step HB.out hb1); clear hb1 k0 k1
    go_wp2_with ((with_reducible refine wp_storePairN rfl (.tmp 6) (.tmp 11) rfl [] [] rfl rfl ?_); intro w2 hs2 hb2; have HB2 := Lib.hid (Below.step HB1.out hb2); clear hs2 hb2)
    go_ret2
    exact ⟨_, [], rfl, OwnMF.mono (OwnMF.nil _ _) HB2.out.size, HB2.out⟩
  | true =>
    rw [h] at hrd
    simp only [if_true] at hrd ⊢
    have hf := arched_facts h
    have hbd := pieces_bd true hf.1 hf.2
    have HPI := Lib.hid (fun w => piecesLast_any t b hf.1 hf.2 w)
    have HMF := Lib.hid (fun B w v ho => meandersFrom_any (piecesL true t b) (fun k hk => hbd.2 _ (by simp [List.getD, hk])) (by omega) B w v ho)
    generalize piecesL true t b = M at *
    have HR := Lib.hid hrd; clear hrd h hf hbd
    go_enter Try.func50, Try.ntmps50
    go_wp2_with fail
    refine HR.out.mono ?_
    rintro e w1 ⟨rfl, hb1⟩
    have HB1 := Lib.hid (Below.step HB.out hb1); clear hb1 k0 k1
    go_wp2_with (first
      | ((with_reducible refine wp_storePairN rfl (.tmp 6) (.tmp 11) rfl t b rfl rfl ?_); intro w2 hs2 hb2; have HS2 := Lib.hid hs2; have HB2 := Lib.hid (Below.step HB1.out hb2); clear hs2 hb2)
      | (with_reducible refine wp_loadPair rfl (.tmp 6) rfl w1.heap.size t b rfl HS2.out ?_)
      | (go_at_call 58; ((with_reducible refine (HPI.out _).mono ?_); rintro e w3 ⟨v, rfl, ho, hb3⟩; obtain ⟨a1, c1, rfl, -, -⟩ := ho.form; have HO := Lib.hid ho; have HB3 := Lib.hid (Below.step HB2.out hb3); clear ho hb3))
      | (go_at_call 44; ((with_reducible refine (HMF.out _ _ _ HO.out).mono ?_); rintro e w5 ⟨rv, rvs, rfl, hor, hb5⟩; have HB5 := Lib.hid (Below.step HB3.out hb5); obtain ⟨ra, rc, rfl, -, -⟩ := hor.rd.form; have HOR := Lib.hid hor; clear hor hb5)))
    go_ret2
    exact ⟨_, _, rfl, HOR.out.mono HB3.out.size, HB5.out⟩
theorem impl_PiecesBack (t b : List Int) (w : World) (u1 u2 : Value) (h1 : Rd w u1 t) (h2 : Rd w u2 b) (m1 : t.length ≤ 1048576) (m2 : b.length ≤ 1048576) :
    Calls Try.prog 23 #[.agg #[u1, u2]] w (GivesMF w (res_PiecesBack t b) (ok_PiecesBack t b)) := by
  have hA := Box2.new 33 w u1 u2
  have B1 : Below w.heap.size w (w.alloc (.cells #[u1, u2] 33)) := Below.alloc1 w _
  have k0 := hA.c0; have k1 := hA.c1
  have HP := Lib.hid (piecesByLast_any t b _ u1 u2 (h1.below B1) (h2.below B1))
  have HB := Lib.hid B1
  clear hA B1 h1 h2
  generalize res_PiecesBack t b = M at *
  generalize ok_PiecesBack t b = R at *
  go_enter Try.func23, Try.ntmps23
  go_wp2_with fail
  refine HP.out.mono ?_
  rintro e w1 ⟨rv, rvs, rfl, hor, hb1⟩
  obtain ⟨ra, rc, rfl, -, -⟩ := hor.rd.form
  have HOR := Lib.hid hor; clear hor
  go_wp2
  go_ret2
  exact ⟨_, _, rfl, HOR.out.mono HB.out.size, Below.step HB.out hb1⟩

end Go.Proofs.Ytaeeopdiodaiaab

namespace Go.Proofs.Ytaeeopdiodaiaab
open Go.RowKit
set_option linter.unusedSimpArgs false
set_option linter.unusedVariables false

theorem isCutCount_any (n : Int) (w : World) :
    Calls Try.prog 43 #[.int .i64 n] w fun e w' => e = .returned (.bool (inB n 1 4)) ∧ w = w' := by
  go_enter Try.func43, Try.ntmps43
  go_wp2
  all_goals go_ret
  all_goals (simp [inB]; omega)

set_option maxRecDepth 100000 in
set_option maxHeartbeats 4000000 in
theorem chosen_isSimple (ps : List (List Int × List Int)) (hgd : ∀ k, k < ps.length → ∀ w, Calls Try.prog 61 #[.agg (pairC (ps.getD k ([], [])).1 (ps.getD k ([], [])).2)] w (Tells w (simpleP (ps.getD k ([], []))))) (hn : ps.length ≤ 20000) (B : Nat) (w : World) (v : Value) (hown : OwnP B w v ps) :
    Calls Try.prog 62 #[v, .func (.func 61) #[] #[]] w (MadeP w (ps.filter simpleP)) := by
  have HCK := Lib.hid hgd
  have HFT := Lib.hid (fun k => filterP_take_succ simpleP ps k)
  have HFL : Hid (∀ k, ((ps.take k).filter simpleP).length ≤ ps.length) := fun k => Nat.le_trans (List.length_filter_le _ _) (by rw [List.length_take]; omega)
  have hfl : ps.filter simpleP = (ps.take ps.length).filter simpleP := by rw [List.take_length]
  rw [hfl]
  clear hfl hgd
  obtain ⟨a0, c0, rfl, hx1, hx2⟩ := hown.form
  unfold maxLen at hx2
  have HO := Lib.hid hown
  clear hown
  go_enter Try.func62, Try.ntmps62
  go_wp2_with fail
  go_loopw [5, 10] (fun o i wr => ∃ k : Nat, k ≤ ps.length ∧ i = .int .i64 (k : Int) ∧ OwnP w.heap.size wr o ((ps.take k).filter simpleP) ∧ Below w.heap.size w wr) (fun _ i _ => ps.length - (intOf i).toNat)
  case atStart => exact ⟨0, by omega, rfl, OwnP.nil _ _, Below.refl _ _⟩
  case round =>
    obtain ⟨k, hk, rfl, hown, hbel⟩ := hrel
    generalize wr = wc at *
    by_cases hlt : k < ps.length
    · obtain ⟨g, rfl, hy1, hy2, hy3, hrg, hth⟩ := (HO.out.below hbel).at (by omega)
      have hr := hrg k hlt
      have hsuc := HFT.out k hlt
      have hle := HFL.out k
      have hcall := HCK.out k hlt
      generalize simpleP (ps.getD k ([], [])) = M at *
      generalize ps.getD k ([], []) = p at *
      obtain ⟨t, b⟩ := p
      generalize (ps.take k).filter simpleP = S at *
      have HR := Lib.hid hr; have HCL := Lib.hid hcall; have HOQ := Lib.hid hown; have HBE := Lib.hid hbel; have HSU := Lib.hid hsuc
      have hsz := hbel.size
      clear hy1 hy2 hy3 hrg hth hr hcall hown hbel hsuc
      cases M with
      | true =>
        go_wp2_with (first
          | (with_reducible refine boxP_load rfl (.tmp 12) rfl g (k * 26) t b rfl HR.out ?_)
          | ((with_reducible refine wp_storePairN rfl (.tmp 7) (.tmp 13) rfl t b rfl rfl ?_); intro w5 hs5 hb5; have HS5 := Lib.hid hs5; have HB5 := Lib.hid hb5; clear hs5 hb5)
          | (with_reducible refine wp_loadPair rfl (.tmp 7) rfl wc.heap.size t b rfl HS5.out ?_)
          | (go_at_call 61; ((with_reducible refine (HCL.out _).mono ?_); rintro e w6 ⟨rfl, hb6⟩; have HS6 := Lib.hid (HS5.out.below hb6); have HB6 := Lib.hid (Below.step HB5.out hb6); clear hb6))
          | (with_reducible refine wp_loadPair rfl (.tmp 7) rfl wc.heap.size t b rfl HS6.out ?_)
          | (with_reducible refine wp_buildP1 _ rfl (.tmp 18) rfl t b rfl ?_)
          | (at_builtin; refine wp_appendPs _ rfl (.tmp 17) (.tmp 19) rfl w.heap.size w6.heap.size 1 1 _ S [(t, b)] rfl rfl rfl (fun j hj => built_cells w6 t b j hj) ((HOQ.out.below HB6.out).below (Below.alloc1 _ _)) (by simp; omega) (by have := HB6.out.size; simp; omega) ?_; intro o' w7 ho7 hg7 hb7 hw7; have HO7 := Lib.hid ho7; have HB7 := Lib.hid ((HBE.out.trans ((HB6.out.trans ((Below.alloc1 w6 (.cells (pairC t b) 70)).mono HB6.out.size)).mono hsz)).trans hb7); clear ho7 hg7 hb7 hw7))
        go_roundw
        case rel => exact ⟨k + 1, by omega, by go_num, by rw [HSU.out]; exact HO7.out, HB7.out⟩
        case measure => simp [intOf]; omega
      | false =>
        go_wp2_with (first
          | (with_reducible refine boxP_load rfl (.tmp 12) rfl g (k * 26) t b rfl HR.out ?_)
          | ((with_reducible refine wp_storePairN rfl (.tmp 7) (.tmp 13) rfl t b rfl rfl ?_); intro w5 hs5 hb5; have HS5 := Lib.hid hs5; have HB5 := Lib.hid hb5; clear hs5 hb5)
          | (with_reducible refine wp_loadPair rfl (.tmp 7) rfl wc.heap.size t b rfl HS5.out ?_)
          | (go_at_call 61; ((with_reducible refine (HCL.out _).mono ?_); rintro e w6 ⟨rfl, hb6⟩; have HB6 := Lib.hid (Below.step HB5.out hb6); clear hb6)))
        go_roundw
        case rel => exact ⟨k + 1, by omega, by go_num, by rw [HSU.out]; simpa using HOQ.out.below HB6.out, Below.step HBE.out HB6.out⟩
        case measure => simp [intOf]; omega
    · obtain rfl : k = ps.length := by omega
      obtain ⟨a5, c5, rfl, _⟩ := hown.form
      have HOQ := Lib.hid hown; have HBE := Lib.hid hbel
      clear hown hbel
      go_wp2_with fail
      go_ret
      exact ⟨_, rfl, HOQ.out, HBE.out⟩

set_option maxHeartbeats 1000000 in
theorem impl_CountSimple (x : Int) (w : World) : Calls Try.prog 37 #[.int .i64 x] w (GivesN w (res_CountSimple x) (ok_CountSimple x)) := by
  unfold res_CountSimple ok_CountSimple
  have HI := Lib.hid (fun w => isCutCount_any x w)
  cases hb : inB x 1 4 with
  | false =>
    rw [hb] at HI
    simp only [Bool.false_eq_true, if_false]
    clear hb
    go_enter Try.func37, Try.ntmps37
    go_wp2_with (go_at_call 43; refine (HI.out _).mono ?_; rintro e w' ⟨rfl, rfl⟩)
    go_ret2
    exact ⟨rfl, Below.refl _ _⟩
  | true =>
    rw [hb] at HI
    have h1 := inB_iff.1 hb
    obtain ⟨n, rfl⟩ := Int.eq_ofNat_of_zero_le (by omega : 0 ≤ x)
    simp only [if_true, Int.toNat_natCast]
    have hn : n ≤ 4 := by omega
    have HPO := Lib.hid (fun w => pairsOf_any n hn w)
    have HC := Lib.hid (fun B w v ho => chosen_isSimple (pairsN n) (fun k hk w => by
      have hg := pairsN_good (n := n) (by omega) (pairsN_at hk)
      exact isSimple_any _ _ hg.1 (by omega) w) (Nat.le_trans (pairsN_len hn) (by omega)) B w v ho)
    clear hb h1
    generalize pairsN n = L at *
    go_enter Try.func37, Try.ntmps37
    go_wp2_with (first
      | (go_at_call 43; refine (HI.out _).mono ?_; rintro e w' ⟨rfl, rfl⟩)
      | (go_at_call 57; ((with_reducible refine (HPO.out _).mono ?_); rintro e w1 ⟨pv, rfl, hop, hb1⟩; have HOP := Lib.hid hop; have HB1 := Lib.hid hb1; obtain ⟨qa, qc, rfl, -, -⟩ := hop.form; clear hop hb1))
      | (go_at_call 62; ((with_reducible refine (HC.out _ _ _ HOP.out).mono ?_); rintro e w2 ⟨mv, rfl, hom, hb2⟩; have HB2 := Lib.hid (Below.step HB1.out hb2); obtain ⟨ma, mc, rfl, -, -⟩ := hom.form; clear hom hb2)))
    go_ret2
    exact ⟨rfl, HB2.out⟩

set_option maxRecDepth 100000 in
set_option maxHeartbeats 4000000 in
theorem impl_CountByPieces (x : Int) (w : World) : Calls Try.prog 30 #[.int .i64 x] w (Gives w (res_CountByPieces x) (ok_CountByPieces x)) := by
  unfold res_CountByPieces ok_CountByPieces
  have HI := Lib.hid (fun w => isCutCount_any x w)
  cases hb : inB x 1 4 with
  | false =>
    rw [hb] at HI
    simp only [Bool.false_eq_true, if_false]
    clear hb
    go_enter Try.func30, Try.ntmps30
    go_wp2_with (go_at_call 43; refine (HI.out _).mono ?_; rintro e w' ⟨rfl, rfl⟩)
    go_ret2
    exact ⟨_, rfl, Own.nil _ _, Below.refl _ _⟩
  | true =>
    rw [hb] at HI
    have h1 := inB_iff.1 hb
    obtain ⟨n, rfl⟩ := Int.eq_ofNat_of_zero_le (by omega : 0 ≤ x)
    simp only [if_true, Int.toNat_natCast]
    have hn : n ≤ 4 := by omega
    have hn1 : 1 ≤ n := by omega
    have HPO := Lib.hid (fun w => pairsOf_any n hn w)
    have hlen := pairsN_len hn
    have HCK : Hid (∀ k, k < (pairsN n).length → ∀ w, Calls Try.prog 58 #[.agg (pairC ((pairsN n).getD k ([], [])).1 ((pairsN n).getD k ([], [])).2), .func (.func 51) #[] #[]] w (MadeP w (piecesL false ((pairsN n).getD k ([], [])).1 ((pairsN n).getD k ([], [])).2))) := fun k hk w => by
      have hg := pairsN_good (n := n) (by omega) (pairsN_at hk)
      exact piecesFirst_any _ _ hg.1 (by omega) w
    have HCL : Hid (∀ k, k < (pairsN n).length → (piecesL false ((pairsN n).getD k ([], [])).1 ((pairsN n).getD k ([], [])).2).length ≤ n) := fun k hk => by
      have hg := pairsN_good (n := n) (by omega) (pairsN_at hk)
      have := (pieces_len false hg.1 (by omega)).1
      omega
    have HTK : Hid (∀ k, k < (pairsN n).length → cntQ (List.replicate (n + 1) 0) ((pairsN n).take (k + 1)) = incQ (cntQ (List.replicate (n + 1) 0) ((pairsN n).take k)) ((pairsN n).getD k ([], []))) := by
      intro k hk
      rw [List.take_add_one, List.getElem?_eq_getElem hk, Option.toList_some, cntQ_snoc]
      simp [List.getD, hk]
    have hfull : cntQ (List.replicate (n + 1) 0) (pairsN n) = cntQ (List.replicate (n + 1) 0) ((pairsN n).take (pairsN n).length) := by rw [List.take_length]
    rw [hfull]
    clear hfull hb h1
    generalize pairsN n = PS at *
    have HBD : Hid (∀ k j, 0 ≤ (cntQ (List.replicate (n + 1) 0) (PS.take k)).getD j 0 ∧ (cntQ (List.replicate (n + 1) 0) (PS.take k)).getD j 0 ≤ 196) := by
      intro k j
      have := cntq_bd (n + 1) (PS.take k) j
      rw [List.length_take] at this
      omega
    have HLN : Hid (∀ k, (cntQ (List.replicate (n + 1) 0) (PS.take k)).length = n + 1) := fun k => by rw [cntQ_len, List.length_replicate]
    have HZ : Hid (cntQ (List.replicate (n + 1) 0) (PS.take 0) = List.replicate (n + 1) 0) := rfl
    go_enter Try.func30, Try.ntmps30
    go_wp2_with (first
      | (go_at_call 43; refine (HI.out _).mono ?_; rintro e w' ⟨rfl, rfl⟩)
      | (at_make; refine wp_make _ rfl _ _ rfl (n + 1) _ _ rfl rfl (by omega) (by omega) (by omega) ?_; intro w1 hown1 hbel1 hsz1; have HO1 := Lib.hid hown1; have HB1 := Lib.hid hbel1; clear hown1 hbel1)
      | (go_at_call 57; ((with_reducible refine (HPO.out _).mono ?_); rintro e w2 ⟨pv, rfl, hop, hb2⟩; obtain ⟨pa, pc, rfl, hp1, hp2⟩ := hop.form; unfold maxLen at hp2; have HOP := Lib.hid hop; have HO2 := Lib.hid (HO1.out.below hb2); have HB2 := Lib.hid (Below.step HB1.out hb2); clear hb2 hop)))
    have hlt1 : w.heap.size < w1.heap.size := (HO1.out.lt w.heap.size rfl).2
    go_loopw [16] (fun i wr => ∃ k : Nat, k ≤ PS.length ∧ i = .int .i64 (k : Int) ∧ Own w.heap.size wr (.slice (some ⟨w.heap.size, 0, none⟩) (n + 1) (n + 1)) (cntQ (List.replicate (n + 1) 0) (PS.take k)) ∧ OwnP w1.heap.size wr (.slice pa PS.length pc) PS ∧ Below w.heap.size w wr) (fun i _ => PS.length - (intOf i).toNat)
    case atStart => exact ⟨0, by omega, rfl, by rw [HZ.out]; exact HO2.out, HOP.out, HB2.out⟩
    case round =>
      obtain ⟨k, hk, rfl, hown, hps, hbel⟩ := hrel
      clear HO1 HO2 HOP HB1 HB2
      generalize wr = wc at *
      by_cases hlt : k < PS.length
      · obtain ⟨g, rfl, hx1, hx2, hx3, hrg, hth⟩ := hps.at (by omega)
        have hr := hrg k hlt
        have hsuc := HTK.out k hlt
        have hln := HLN.out k
        have hc := HCL.out k hlt
        have hcall := HCK.out k hlt
        have hbd := HBD.out k (piecesL false (PS.getD k ([], [])).1 (PS.getD k ([], [])).2).length
        unfold incQ at hsuc
        generalize PS.getD k ([], []) = p at *
        obtain ⟨t, b⟩ := p
        simp only at hr hsuc hc hcall hbd
        generalize hpl : piecesL false t b = PL at *
        generalize hcc : PL.length = c at *
        have HCC := Lib.hid hcc; clear hcc hpl
        generalize cntQ (List.replicate (n + 1) 0) (PS.take k) = S at *
        generalize hy : S.getD c 0 = y at *
        have hy0 := hbd.1; have hy1 := hbd.2
        have HR := Lib.hid hr; have HSU := Lib.hid hsuc; have HL2 := Lib.hid hln; have HC2 := Lib.hid hcall; have HO := Lib.hid hown; have HP := Lib.hid hps; have HBE := Lib.hid hbel; have HY := Lib.hid hy
        have hsz := hbel.size
        clear hx1 hx3 hrg hth hr hsuc hln hcall hbd hown hps hbel hy
        go_wp2_with (first
          | (with_reducible refine boxP_load rfl (.tmp 18) rfl g (k * 26) t b rfl HR.out ?_)
          | ((with_reducible refine wp_storePairN rfl (.tmp 6) (.tmp 19) rfl t b rfl rfl ?_); intro w5 hs5 hb5; have HS5 := Lib.hid hs5; have HB5 := Lib.hid hb5; clear hs5 hb5)
          | (with_reducible refine wp_loadPair rfl (.tmp 6) rfl wc.heap.size t b rfl HS5.out ?_)
          | (go_at_call 58; ((with_reducible refine (HC2.out _).mono ?_); rintro e w6 ⟨qv, rfl, hq, hb6⟩; obtain ⟨qa, qc, rfl, -, -⟩ := hq.form; rw [HCC.out]; have hb7 := Below.step HB5.out hb6; have ho6 := HO.out.below hb7; have hdst := ho6.cellAt c (by rw [HL2.out]; omega); rw [HY.out] at hdst; have hfr := ho6.frozenAt c; have hnew := ho6.stored c (y + 1); rw [← HSU.out] at hnew; have HN := Lib.hid hnew; have HP7 := Lib.hid ((HP.out.below hb7).grown (grown_setCell (b := w.heap.size) (i := c) (v := .int .i64 (y + 1))) (fun kk hkk e => by have h9 : some g = some kk := hkk; cases h9; cases e; omega)); have HB7 := Lib.hid ((Below.step HBE.out hb7).setCell (p := ⟨w.heap.size, c, none⟩) (Nat.le_refl _) (.int .i64 (y + 1))); clear hb6 hb7 ho6 hnew hq)))
        go_roundw
        case rel => exact ⟨k + 1, by omega, by go_num, HN.out, HP7.out, HB7.out⟩
        case measure => simp [intOf]; omega
      · obtain rfl : k = PS.length := by omega
        have HO := Lib.hid hown; have HBE := Lib.hid hbel
        clear hown hps hbel
        go_wp2_with fail
        go_ret2
        exact ⟨_, rfl, HO.out, HBE.out⟩

end Go.Proofs.Ytaeeopdiodaiaab
