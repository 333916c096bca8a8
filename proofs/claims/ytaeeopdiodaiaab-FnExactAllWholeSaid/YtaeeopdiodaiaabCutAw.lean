/- AllWhole: the program's function and the model's. -/
import Derived.Test.YtaeeopdiodaiaabCutPo
import Derived.Test.YtaeeopdiodaiaabCutSm
namespace Go.Proofs.Ytaeeopdiodaiaab
open Go.RowKit
set_option linter.unusedSimpArgs false
set_option linter.unusedVariables false

set_option maxHeartbeats 2000000 in
theorem impl_AllWhole (x : Int) (w : World) : Calls Try.prog 12 #[.int .i64 x] w (GivesMF w (res_AllWhole x) (ok_AllWhole x)) := by
  unfold res_AllWhole ok_AllWhole
  have HI := Lib.hid (fun w => isCutCount_any x w)
  cases hb : inB x 1 4 with
  | false =>
    rw [hb] at HI
    simp only [Bool.false_eq_true, if_false]
    clear hb
    go_enter Try.func12, Try.ntmps12
    go_wp2_with (go_at_call 43; refine (HI.out _).mono ?_; rintro e w' ⟨rfl, rfl⟩)
    go_ret2
    exact ⟨_, _, rfl, OwnMF.nil _ _, Below.refl _ _⟩
  | true =>
    rw [hb] at HI
    have h1 := inB_iff.1 hb
    obtain ⟨n, rfl⟩ := Int.eq_ofNat_of_zero_le (by omega : 0 ≤ x)
    have hn : n ≤ 4 := by omega
    simp only [if_true, Int.toNat_natCast]
    have HW := Lib.hid (fun w => wholeOf_any n (by omega) w)
    have h12 : ∀ k, k < ((pairsN n).filter wholeP).length → (((pairsN n).filter wholeP).getD k ([], [])).1.length ≤ 12 ∧ (((pairsN n).filter wholeP).getD k ([], [])).2.length ≤ 12 := by
      intro k hk
      have hm : ((pairsN n).filter wholeP).getD k ([], []) ∈ (pairsN n).filter wholeP := by simp [List.getD, hk]
      exact pair12 (pairsN_good (n := n) (by omega) (List.mem_filter.1 hm).1).1
    have hlen : ((pairsN n).filter wholeP).length ≤ 20000 := Nat.le_trans (List.length_filter_le _ _) (Nat.le_trans (pairsN_len hn) (by omega))
    have HMF := Lib.hid (fun B w v ho => meandersFrom_any ((pairsN n).filter wholeP) h12 hlen B w v ho)
    clear h12 hb h1
    generalize (pairsN n).filter wholeP = M at *
    go_enter Try.func12, Try.ntmps12
    go_wp2_with (first
      | (go_at_call 43; refine (HI.out _).mono ?_; rintro e w' ⟨rfl, rfl⟩)
      | (go_at_call 45; ((with_reducible refine (HW.out _).mono ?_); rintro e w1 ⟨pv, rfl, hop, hb1⟩; have HOP := Lib.hid hop; have HB1 := Lib.hid hb1; obtain ⟨qa, qc, rfl, -, -⟩ := hop.form; clear hop hb1))
      | (go_at_call 44; ((with_reducible refine (HMF.out _ _ _ HOP.out).mono ?_); rintro e w5 ⟨rv, rvs, rfl, hor, hb5⟩; have HB5 := Lib.hid (Below.step HB1.out hb5); obtain ⟨ra, rc, rfl, -, -⟩ := hor.rd.form; have HOR := Lib.hid hor; clear hor hb5)))
    go_ret2
    exact ⟨_, _, rfl, HOR.out.mono HB1.out.size, HB5.out⟩

set_option maxHeartbeats 4000000 in
set_option maxRecDepth 100000 in
theorem spec_AllWhole (x : Int) (w : World) : Calls Try.prog 11 #[.int .i64 x] w (GivesRM w (res_AllWhole x) (ok_AllWhole x)) := by
  unfold res_AllWhole ok_AllWhole
  have HI := Lib.hid (fun w => l1In_any x 1 4 w)
  cases hb : inB x 1 4 with
  | false =>
    rw [hb] at HI
    simp only [Bool.false_eq_true, if_false]
    clear hb
    go_enter Try.func11, Try.ntmps11
    go_wp2_with (go_at_call 40; refine (HI.out _).mono ?_; rintro e w' ⟨rfl, rfl⟩)
    go_ret2
    exact ⟨_, _, rfl, (OwnMF.nil _ _).rd, Below.refl _ _⟩
  | true =>
    rw [hb] at HI
    have h1 := inB_iff.1 hb
    obtain ⟨n, rfl⟩ := Int.eq_ofNat_of_zero_le (by omega : 0 ≤ x)
    simp only [if_true, Int.toNat_natCast]
    have hn : n ≤ 4 := by omega
    have HP := Lib.hid (fun w => siPairs_any n (by omega) w)
    have hlen := pairsN_len hn
    have HW : Hid (∀ k, k < (pairsN n).length → ∀ w u1 u2, Rd w u1 ((pairsN n).getD k ([], [])).1 → Rd w u2 ((pairsN n).getD k ([], [])).2 → Calls Try.prog 42 #[.agg #[u1, u2]] w (Tells w (wholeP ((pairsN n).getD k ([], []))))) := fun k hk w u1 u2 h1 h2 => by
      have hg := pairsN_good (n := n) (by omega) (pairsN_at hk)
      exact siWhole_any _ _ hg.1.2.2 (pair12 hg.1).1 w u1 u2 h1 h2
    have HTF := Lib.hid (fun k hk => filterP_take_succ wholeP (pairsN n) k hk)
    have HFL : Hid (∀ k, (((pairsN n).take k).filter wholeP).length ≤ 1764) := fun k => Nat.le_trans (List.length_filter_le _ _) (by rw [List.length_take]; omega)
    have hfull : (pairsN n).filter wholeP = ((pairsN n).take (pairsN n).length).filter wholeP := by rw [List.take_length]
    rw [hfull]
    clear hfull hb h1
    generalize pairsN n = L at *
    go_enter Try.func11, Try.ntmps11
    go_wp2_with (first
      | (go_at_call 40; refine (HI.out _).mono ?_; rintro e w' ⟨rfl, rfl⟩)
      | (go_at_call 41; ((with_reducible refine (HP.out _).mono ?_); rintro e w1 ⟨v, es, rfl, ho, hb1⟩; obtain ⟨a1, c1, rfl, hc1, hm1⟩ := ho.form; unfold maxLen at hm1; have HO := Lib.hid ho; have HB1 := Lib.hid hb1; have hz1 := hb1.size; clear ho hb1)))
    go_loopw [4, 13] (fun o i wr => ∃ (k : Nat) (fs : List (Value × Value)), k ≤ L.length ∧ i = .int .i64 (k : Int) ∧ OwnML w.heap.size wr o fs ((L.take k).filter wholeP) ∧ (∀ b, o.ownBlock = some b → w1.heap.size ≤ b) ∧ Hid (Below w1.heap.size w1 wr)) (fun _ i _ => L.length - (intOf i).toNat)
    case atStart => exact ⟨0, [], by omega, rfl, by simpa using OwnML.nil _ _, fun b hb => by simp [Value.ownBlock] at hb, Below.refl _ _⟩
    case round =>
      obtain ⟨k, fs, hk, rfl, hown, haw, HBE⟩ := hrel
      generalize wr = wb at *
      by_cases hlt : k < L.length
      · have HE := HO.out.below HBE.out
        have hrows := HE.2.2 k hlt
        obtain ⟨g, rfl, e0, e1, r0, r1⟩ := HE.elem k hlt
        clear HE
        have htf := HTF.out k hlt
        have hfl := HFL.out k
        have hw := HW.out k hlt
        generalize L.getD k ([], []) = p at *
        generalize (L.take k).filter wholeP = S at *
        generalize (es.getD k noV).1 = u1 at *
        generalize (es.getD k noV).2 = u2 at *
        obtain ⟨x1, x2, x3, rfl⟩ : ∃ a n c, u1 = .slice a n c := by obtain ⟨a, c, e, -⟩ := r0; exact ⟨a, _, c, e⟩
        obtain ⟨y1, y2, y3, rfl⟩ : ∃ a n c, u2 = .slice a n c := by obtain ⟨a, c, e, -⟩ := r1; exact ⟨a, _, c, e⟩
        obtain ⟨oa, oc, rfl, -, -⟩ := hown.form
        have HW1 := Lib.hid hw; have HTF1 := Lib.hid htf; have R0 := Lib.hid r0; have R1 := Lib.hid r1; have HRW := Lib.hid hrows; have HN := Lib.hid hown; have HAW := Lib.hid haw
        have hzb : w1.heap.size ≤ wb.heap.size := HBE.out.size
        clear hw htf r0 r1 hrows hown haw
        cases hp : wholeP p with
        | true =>
          rw [hp] at HW1 HTF1
          clear hp
          go_wp2_with (first
            | (go_at_call 42; ((with_reducible refine (HW1.out _ _ _ (R0.out.below (Below.alloc1 wb _)) (R1.out.below (Below.alloc1 wb _))).mono ?_); rintro e w5 ⟨rfl, hb5⟩; have HB5 := Lib.hid (Below.step (Below.alloc1 wb (.cells #[.slice x1 x2 x3, .slice y1 y2 y3] 33)) hb5); have c50 := ((Box2.new 33 wb (.slice x1 x2 x3) (.slice y1 y2 y3)).below hb5).c0; have c51 := ((Box2.new 33 wb (.slice x1 x2 x3) (.slice y1 y2 y3)).below hb5).c1; clear hb5))
            | (at_builtin; refine wp_appendML _ rfl (.tmp 19) (.tmp 21) rfl w.heap.size w5.heap.size _ (.slice x1 x2 x3) (.slice y1 y2 y3) fs S p.1 p.2 rfl rfl (cells_new w5 _ _ _).1 (cells_new w5 _ _ _).2 ((HN.out.below HB5.out).below (Below.alloc1 _ _)) ((HRW.out.1.below HB5.out).below (Below.alloc1 _ _)) ((HRW.out.2.1.below HB5.out).below (Below.alloc1 _ _)) HRW.out.2.2 (by omega) (by have := HB5.out.size; simp; omega) ?_; intro o' w7 ho7 hg7 hb7 hw7; have HO7 := Lib.hid ho7; have HA7 : Hid (∀ b, o'.ownBlock = some b → w1.heap.size ≤ b) := (fun b hb => by rcases hw7 b hb with h8 | h8; exact HAW.out b h8; have := HB5.out.size; have := alloc_lt w5 (.cells #[.slice x1 x2 x3, .slice y1 y2 y3] 33); omega); have HB7 : Hid (Below w1.heap.size w1 w7) := (Below.step HBE.out (Below.step HB5.out (Below.alloc1 w5 (.cells #[.slice x1 x2 x3, .slice y1 y2 y3] 33)))).trans (below_grown hg7 (by have := HB5.out.size; have := alloc_lt w5 (.cells #[.slice x1 x2 x3, .slice y1 y2 y3] 33); omega) HAW.out); clear ho7 hg7 hb7 hw7))
          go_roundw
          case rel => exact ⟨k + 1, _, by omega, by go_num, by rw [HTF1.out]; exact HO7.out, HA7.out, HB7.out⟩
          case measure => simp [intOf]; omega
        | false =>
          rw [hp] at HW1 HTF1
          clear hp
          go_wp2_with (go_at_call 42; ((with_reducible refine (HW1.out _ _ _ (R0.out.below (Below.alloc1 wb _)) (R1.out.below (Below.alloc1 wb _))).mono ?_); rintro e w5 ⟨rfl, hb5⟩; have HB5 := Lib.hid (Below.step (Below.alloc1 wb (.cells #[.slice x1 x2 x3, .slice y1 y2 y3] 33)) hb5); clear hb5))
          go_roundw
          case rel => exact ⟨k + 1, fs, by omega, by go_num, by rw [HTF1.out]; simpa using HN.out.below HB5.out, HAW.out, Below.step HBE.out HB5.out⟩
          case measure => simp [intOf]; omega
      · obtain rfl : k = L.length := by omega
        obtain ⟨oa, oc, rfl, -, -⟩ := hown.form
        have HN := Lib.hid hown
        clear hown haw
        go_wp2_with fail
        go_ret2
        exact ⟨_, _, rfl, HN.out.rdML, Below.step HB1.out HBE.out⟩

end Go.Proofs.Ytaeeopdiodaiaab
