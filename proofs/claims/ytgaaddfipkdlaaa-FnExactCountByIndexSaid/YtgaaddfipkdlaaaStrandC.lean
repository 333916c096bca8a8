/- Strands chosen, and their lists. -/
import Derived.Test.YtgaaddfipkdlaaaStrandF
namespace Go.Proofs.Ytgaaddfipkdlaaa
open Go.RowKit
set_option linter.unusedSimpArgs false
set_option linter.unusedVariables false


set_option maxRecDepth 100000 in
set_option maxHeartbeats 1000000 in
theorem chosenisPath_any (xs : List (Value × List Int × Bool)) (hn : xs.length ≤ 1000) (B C : Nat) (w : World) (v : Value) (hown : OwnSd B C w v xs) :
    Calls Try.prog 53 #[v, .func (.func 37) #[] #[]] w (fun e w' => ∃ v', e = .returned v' ∧ OwnSd w.heap.size C w' v' (xs.filter (fun x => x.2.2)) ∧ Below w.heap.size w w') := by
  have HFT : Hid (∀ k (hk : k < xs.length), (xs.take (k + 1)).filter (fun x => x.2.2) = (xs.take k).filter (fun x => x.2.2) ++ (if xs[k].2.2 then [xs[k]] else [])) := fun k hk => by
    rw [List.take_succ_eq_append_getElem hk, List.filter_append]; congr 1; simp [List.filter_cons]
  have HFL : Hid (∀ k, ((xs.take k).filter (fun x => x.2.2)).length ≤ xs.length) := fun k => Nat.le_trans (List.length_filter_le _ _) (by rw [List.length_take]; omega)
  have hfl : xs.filter (fun x => x.2.2) = (xs.take xs.length).filter (fun x => x.2.2) := by rw [List.take_length]
  rw [hfl]
  clear hfl
  obtain ⟨a0, c0, rfl, hx1, hx2⟩ := hown.form
  unfold maxLen at hx2
  have HO := Lib.hid hown
  clear hown
  go_enter Try.func53, Try.ntmps53
  go_wp2_with fail
  go_loopw [5, 10] (fun o i wr => ∃ k : Nat, k ≤ xs.length ∧ i = .int .i64 (k : Int) ∧ Hid (OwnSd w.heap.size C wr o ((xs.take k).filter (fun x => x.2.2))) ∧ Hid (Below w.heap.size w wr)) (fun _ i _ => xs.length - (intOf i).toNat)
  case atStart => exact ⟨0, by omega, rfl, OwnSd.nil _ _ _, Below.refl _ _⟩
  case round =>
    obtain ⟨k, hk, rfl, HOQ, HBE⟩ := hrel
    generalize wr = wc at *
    by_cases hlt : k < xs.length
    · have hd := HO.out.below HBE.out
      obtain ⟨g, rfl, _, hrg⟩ := hd.at (by omega)
      have HR := Lib.hid (hrg k hlt)
      have HSU := Lib.hid (HFT.out k hlt)
      have HLE := Lib.hid (HFL.out k)
      have HP := Lib.hid (hd.2 xs[k] (List.getElem_mem hlt))
      clear hd hrg
      rcases hxk : xs[k] with ⟨p, l, b⟩
      rw [hxk] at HR HSU HP
      obtain ⟨p1, p2, p3, rfl⟩ := HP.out.form'
      have hsz := HBE.out.size
      generalize (xs.take k).filter (fun x => x.2.2) = S at *
      clear hxk
      have HA := Lib.hid (Box2.new 55 wc (.slice p1 p2 p3) (.bool b))
      have r0 : wc.cell? ⟨g, k * 2, none⟩ = some (.slice p1 p2 p3) := HR.out 0 _ rfl
      have r1 : wc.cell? ⟨g, k * 2 + 1, none⟩ = some (.bool b) := HR.out 1 _ rfl
      have q0 := HA.out.c0; have q1 := HA.out.c1
      cases b with
      | true =>
        go_wp2_with (first
          | (go_at_call 37; ((with_reducible refine (isPath_any _ _ _ _ _).mono ?_); rintro e w6 ⟨rfl, hb6⟩; have HA6 := Lib.hid (HA.out.below hb6); have s0 := HA6.out.c0; have s1 := HA6.out.c1; have HB6 := Lib.hid (Below.step (Below.alloc1 wc (.cells #[.slice p1 p2 p3, .bool true] 55)) hb6); clear hb6))
          | (at_builtin; refine wp_appendSd _ rfl (.tmp 17) (.tmp 19) rfl w.heap.size C w6.heap.size _ (.slice p1 p2 p3) l true S rfl rfl (Box2.new 55 w6 (.slice p1 p2 p3) (.bool true)).c0 (Box2.new 55 w6 (.slice p1 p2 p3) (.bool true)).c1 ((HOQ.out.below HB6.out).below (Below.alloc1 _ _)) ((HP.out.below HB6.out).below (Below.alloc1 _ _)) (by have := HLE.out; omega) (by have := HB6.out.size; simp; omega) ?_; intro v7 w7 ho7 hb7; have HO7 := Lib.hid ho7; have HB7 := Lib.hid (((Below.step HBE.out HB6.out).alloc (Below.step HBE.out HB6.out).size (.cells #[.slice p1 p2 p3, .bool true] 55)).trans hb7); clear ho7 hb7))
        go_roundw
        case rel => exact ⟨k + 1, by omega, by go_num, by rw [HSU.out]; exact HO7.out, HB7.out⟩
        case measure => simp [intOf]; omega
      | false =>
        go_wp2_with (first
          | (go_at_call 37; ((with_reducible refine (isPath_any _ _ _ _ _).mono ?_); rintro e w6 ⟨rfl, hb6⟩; have HB6 := Lib.hid (Below.step (Below.alloc1 wc (.cells #[.slice p1 p2 p3, .bool false] 55)) hb6); clear hb6)))
        go_roundw
        case rel => exact ⟨k + 1, by omega, by go_num, by rw [HSU.out]; show Hid (OwnSd _ _ _ _ (S ++ [])); rw [List.append_nil]; exact HOQ.out.below HB6.out, Below.step HBE.out HB6.out⟩
        case measure => simp [intOf]; omega
    · obtain rfl : k = xs.length := by omega
      obtain ⟨a5, c5, rfl, _⟩ := HOQ.out.form
      go_wp2_with fail
      go_ret
      exact ⟨_, rfl, HOQ.out, HBE.out⟩

set_option maxRecDepth 100000 in
set_option maxHeartbeats 1000000 in
theorem chosenisCycle_any (xs : List (Value × List Int × Bool)) (hn : xs.length ≤ 1000) (B C : Nat) (w : World) (v : Value) (hown : OwnSd B C w v xs) :
    Calls Try.prog 53 #[v, .func (.func 38) #[] #[]] w (fun e w' => ∃ v', e = .returned v' ∧ OwnSd w.heap.size C w' v' (xs.filter (fun x => !x.2.2)) ∧ Below w.heap.size w w') := by
  have HFT : Hid (∀ k (hk : k < xs.length), (xs.take (k + 1)).filter (fun x => !x.2.2) = (xs.take k).filter (fun x => !x.2.2) ++ (if !xs[k].2.2 then [xs[k]] else [])) := fun k hk => by
    rw [List.take_succ_eq_append_getElem hk, List.filter_append]; congr 1; simp [List.filter_cons]
  have HFL : Hid (∀ k, ((xs.take k).filter (fun x => !x.2.2)).length ≤ xs.length) := fun k => Nat.le_trans (List.length_filter_le _ _) (by rw [List.length_take]; omega)
  have hfl : xs.filter (fun x => !x.2.2) = (xs.take xs.length).filter (fun x => !x.2.2) := by rw [List.take_length]
  rw [hfl]
  clear hfl
  obtain ⟨a0, c0, rfl, hx1, hx2⟩ := hown.form
  unfold maxLen at hx2
  have HO := Lib.hid hown
  clear hown
  go_enter Try.func53, Try.ntmps53
  go_wp2_with fail
  go_loopw [5, 10] (fun o i wr => ∃ k : Nat, k ≤ xs.length ∧ i = .int .i64 (k : Int) ∧ Hid (OwnSd w.heap.size C wr o ((xs.take k).filter (fun x => !x.2.2))) ∧ Hid (Below w.heap.size w wr)) (fun _ i _ => xs.length - (intOf i).toNat)
  case atStart => exact ⟨0, by omega, rfl, OwnSd.nil _ _ _, Below.refl _ _⟩
  case round =>
    obtain ⟨k, hk, rfl, HOQ, HBE⟩ := hrel
    generalize wr = wc at *
    by_cases hlt : k < xs.length
    · have hd := HO.out.below HBE.out
      obtain ⟨g, rfl, _, hrg⟩ := hd.at (by omega)
      have HR := Lib.hid (hrg k hlt)
      have HSU := Lib.hid (HFT.out k hlt)
      have HLE := Lib.hid (HFL.out k)
      have HP := Lib.hid (hd.2 xs[k] (List.getElem_mem hlt))
      clear hd hrg
      rcases hxk : xs[k] with ⟨p, l, b⟩
      rw [hxk] at HR HSU HP
      obtain ⟨p1, p2, p3, rfl⟩ := HP.out.form'
      have hsz := HBE.out.size
      generalize (xs.take k).filter (fun x => !x.2.2) = S at *
      clear hxk
      have HA := Lib.hid (Box2.new 55 wc (.slice p1 p2 p3) (.bool b))
      have r0 : wc.cell? ⟨g, k * 2, none⟩ = some (.slice p1 p2 p3) := HR.out 0 _ rfl
      have r1 : wc.cell? ⟨g, k * 2 + 1, none⟩ = some (.bool b) := HR.out 1 _ rfl
      have q0 := HA.out.c0; have q1 := HA.out.c1
      cases b with
      | false =>
        go_wp2_with (first
          | (go_at_call 38; ((with_reducible refine (isCycle_any _ _ _ _ _).mono ?_); rintro e w6 ⟨rfl, hb6⟩; have HA6 := Lib.hid (HA.out.below hb6); have s0 := HA6.out.c0; have s1 := HA6.out.c1; have HB6 := Lib.hid (Below.step (Below.alloc1 wc (.cells #[.slice p1 p2 p3, .bool false] 55)) hb6); clear hb6))
          | (at_builtin; refine wp_appendSd _ rfl (.tmp 17) (.tmp 19) rfl w.heap.size C w6.heap.size _ (.slice p1 p2 p3) l false S rfl rfl (Box2.new 55 w6 (.slice p1 p2 p3) (.bool false)).c0 (Box2.new 55 w6 (.slice p1 p2 p3) (.bool false)).c1 ((HOQ.out.below HB6.out).below (Below.alloc1 _ _)) ((HP.out.below HB6.out).below (Below.alloc1 _ _)) (by have := HLE.out; omega) (by have := HB6.out.size; simp; omega) ?_; intro v7 w7 ho7 hb7; have HO7 := Lib.hid ho7; have HB7 := Lib.hid (((Below.step HBE.out HB6.out).alloc (Below.step HBE.out HB6.out).size (.cells #[.slice p1 p2 p3, .bool false] 55)).trans hb7); clear ho7 hb7))
        go_roundw
        case rel => exact ⟨k + 1, by omega, by go_num, by rw [HSU.out]; exact HO7.out, HB7.out⟩
        case measure => simp [intOf]; omega
      | true =>
        go_wp2_with (first
          | (go_at_call 38; ((with_reducible refine (isCycle_any _ _ _ _ _).mono ?_); rintro e w6 ⟨rfl, hb6⟩; have HB6 := Lib.hid (Below.step (Below.alloc1 wc (.cells #[.slice p1 p2 p3, .bool true] 55)) hb6); clear hb6)))
        go_roundw
        case rel => exact ⟨k + 1, by omega, by go_num, by rw [HSU.out]; show Hid (OwnSd _ _ _ _ (S ++ [])); rw [List.append_nil]; exact HOQ.out.below HB6.out, Below.step HBE.out HB6.out⟩
        case measure => simp [intOf]; omega
    · obtain rfl : k = xs.length := by omega
      obtain ⟨a5, c5, rfl, _⟩ := HOQ.out.form
      go_wp2_with fail
      go_ret
      exact ⟨_, rfl, HOQ.out, HBE.out⟩

set_option maxRecDepth 100000 in
set_option maxHeartbeats 1000000 in
theorem listsSd_any (xs : List (Value × List Int × Bool)) (hn : xs.length ≤ 1000) (hnn : ∀ x ∈ xs, 0 < x.2.1.length ∧ x.2.1.length ≤ 1000) (B C : Nat) (w : World) (v : Value) (hown : OwnSd B C w v xs) :
    Calls Try.prog 52 #[v] w (MadeLL w (xs.map (·.2.1))) := by
  have HTS : Hid (∀ k (hk : k < xs.length), (xs.take (k + 1)).map (·.2.1) = (xs.take k).map (·.2.1) ++ [xs[k].2.1]) := fun k hk => by
    rw [List.take_succ_eq_append_getElem hk, List.map_append]; rfl
  have HLE : Hid (∀ k, ((xs.take k).map (·.2.1)).length ≤ xs.length) := fun k => by rw [List.length_map, List.length_take]; omega
  have HNN := Lib.hid hnn
  clear hnn
  have hfl : xs.map (·.2.1) = (xs.take xs.length).map (·.2.1) := by rw [List.take_length]
  rw [hfl]
  clear hfl
  obtain ⟨a0, c0, rfl, hx1, hx2⟩ := hown.form
  unfold maxLen at hx2
  have HO := Lib.hid hown
  clear hown
  go_enter Try.func52, Try.ntmps52
  go_wp2_with fail
  go_loopw [3, 8] (fun o i wr => ∃ (k : Nat) (vs : List Value), k ≤ xs.length ∧ i = .int .i64 (k : Int) ∧ Hid (OwnLL w.heap.size wr.heap.size wr o vs ((xs.take k).map (·.2.1))) ∧ Hid (Below w.heap.size w wr)) (fun _ i _ => xs.length - (intOf i).toNat)
  case atStart => exact ⟨0, [], by omega, rfl, OwnLL.nil _ _ (Nat.le_refl _), Below.refl _ _⟩
  case round =>
    obtain ⟨k, vs, hk, rfl, HOQ, HBE⟩ := hrel
    generalize wr = wc at *
    by_cases hlt : k < xs.length
    · have hd := HO.out.below HBE.out
      obtain ⟨g, rfl, _, hrg⟩ := hd.at (by omega)
      have HR := Lib.hid (hrg k hlt)
      have HSU := Lib.hid (HTS.out k hlt)
      have HL := Lib.hid (HLE.out k)
      have HP := Lib.hid (hd.2 xs[k] (List.getElem_mem hlt))
      have HN := Lib.hid (HNN.out xs[k] (List.getElem_mem hlt))
      clear hd hrg
      rcases hxk : xs[k] with ⟨p, l, b⟩
      rw [hxk] at HR HSU HP HN
      obtain ⟨p1, p2, p3, rfl⟩ : ∃ p1 p2 p3, p = .slice (some ⟨p1, 0, none⟩) p2 p3 := by
        rcases HP.out.shape with ⟨_, h0⟩ | ⟨g, c, hv, _⟩
        · have := HN.out.1; simp only at h0; rw [h0] at this; simp at this
        · exact ⟨_, _, _, hv⟩
      have hsz := HBE.out.size
      generalize (xs.take k).map (·.2.1) = S at *
      clear hxk
      have HA := Lib.hid (Box2.new 55 wc (.slice (some ⟨p1, 0, none⟩) p2 p3) (.bool b))
      have HC := Lib.hid (listSd_any p1 p2 p3 b l _ (HP.out.below (Below.alloc1 wc (.cells #[.slice (some ⟨p1, 0, none⟩) p2 p3, .bool b] 55))).rd (by have := HN.out.2; simp only at this; omega))
      have r0 : wc.cell? ⟨g, k * 2, none⟩ = some (.slice (some ⟨p1, 0, none⟩) p2 p3) := HR.out 0 _ rfl
      have r1 : wc.cell? ⟨g, k * 2 + 1, none⟩ = some (.bool b) := HR.out 1 _ rfl
      have q0 := HA.out.c0; have q1 := HA.out.c1
      go_wp2_with (first
        | fail)
      show Calls Try.prog 102 #[.agg #[.slice (some ⟨p1, 0, none⟩) p2 p3, .bool b]] _ _
      refine HC.out.mono ?_
      rintro e w6 ⟨q, rfl, hq, hb6⟩
      obtain ⟨y1, y2, y3, rfl⟩ := hq.form'
      have HQ := Lib.hid (hq.mono (by simp : wc.heap.size ≤ (wc.alloc (.cells #[.slice (some ⟨p1, 0, none⟩) p2 p3, .bool b] 55)).heap.size)); have HB6 := Lib.hid (Below.step (Below.alloc1 wc (.cells #[.slice (some ⟨p1, 0, none⟩) p2 p3, .bool b] 55)) hb6)
      clear hq hb6
      go_wp2_with (at_builtin; refine wp_appendLL _ rfl (.tmp 12) (.tmp 16) rfl w.heap.size wc.heap.size wc.heap.size w6.heap.size _ (.slice y1 y2 y3) vs S l rfl rfl (cell_lit1 _ _ _) (OwnLL.below HOQ.out (HB6.out.alloc HB6.out.size _)) (Own.below HQ.out (Below.alloc1 _ _)) (Nat.le_refl _) hsz (by have := HL.out; omega) (by have := HB6.out.size; simp; omega) ?_; intro o' w7 hown7 hgr7 hbel7 hwh7; have HO7 := Lib.hid hown7; have HB7 := Lib.hid (((Below.step HBE.out HB6.out).alloc (Below.step HBE.out HB6.out).size _).trans hbel7); clear hown7 hgr7 hbel7 hwh7)
      go_roundw
      case rel => exact ⟨k + 1, _, by omega, by go_num, by rw [HSU.out]; exact HO7.out, HB7.out⟩
      case measure => simp [intOf]; omega
    · obtain rfl : k = xs.length := by omega
      obtain ⟨a5, c5, rfl, _⟩ := HOQ.out.form
      go_wp2_with fail
      go_ret
      exact ⟨_, vs, rfl, HOQ.out, HBE.out⟩
end Go.Proofs.Ytgaaddfipkdlaaa
