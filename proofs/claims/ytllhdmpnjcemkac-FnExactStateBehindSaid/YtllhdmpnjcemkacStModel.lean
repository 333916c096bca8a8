/- The model's states: stNames, stRename, stAround. -/
import Derived.Test.YtllhdmpnjcemkacStateMath
import Derived.Test.YtllhdmpnjcemkacStkSpec
import Derived.Test.YtllhdmpnjcemkacShift
import Derived.Test.YtllhdmpnjcemkacOwn
namespace Go.Proofs.Ytllhdmpnjcemkac
open Go.RowKit
set_option linter.unusedSimpArgs false
set_option linter.unusedVariables false

theorem idx_ne : ∀ (s : List Int) (x : Int) (k : Nat), k < s.idxOf x → s.getD k 0 ≠ x
  | [], x, k, h => by simp at h
  | a :: r, x, k, h => by
    by_cases e : a = x
    · subst e; simp at h
    · have h' : k < r.idxOf x + 1 := by simpa [List.idxOf_cons, beq_false_of_ne e] using h
      clear h
      cases k with
      | zero => simpa using e
      | succ k => have := idx_ne r x k (by omega); simpa using this
theorem idx_at (s : List Int) (x : Int) (h : x ∈ s) : s.idxOf x < s.length ∧ s.getD (s.idxOf x) 0 = x := by
  have h1 := List.idxOf_lt_length_iff.2 h
  exact ⟨h1, by simp [List.getD, h1]⟩

set_option maxHeartbeats 2000000 in
theorem stNames_any (v1 v2 : Value) (l s : List Int) (w : World) (h1 : Rd w v1 l) (h2 : Rd w v2 s) (hm : ∀ x ∈ l, x ∈ s) (hl : l.length ≤ 1000000) (hs : s.length ≤ 1000000) :
    Calls Try.prog 106 #[v1, v2] w (Made w (l.map fun x => (s.idxOf x : Int))) := by
  have hat : ∀ k, k < l.length → l.getD k 0 ∈ s := fun k hk => hm _ (by simp [List.getD, hk])
  have htk : ∀ k, k < l.length → (l.take (k + 1)).map (fun x => (s.idxOf x : Int)) = (l.take k).map (fun x => (s.idxOf x : Int)) ++ [(s.idxOf (l.getD k 0) : Int)] := by
    intro k hk
    rw [List.take_add_one, List.getElem?_eq_getElem hk, Option.toList_some, List.map_append]
    simp [List.getD, hk]
  have hlt : ∀ k, ((l.take k).map (fun x => (s.idxOf x : Int))).length ≤ 1000000 := fun k => by rw [List.length_map, List.length_take]; omega
  have hfull : l.map (fun x => (s.idxOf x : Int)) = (l.take l.length).map (fun x => (s.idxOf x : Int)) := by rw [List.take_length]
  rw [hfull]
  obtain ⟨a1, c1, rfl, hlc1, hcm1, hn1, hr1⟩ := h1
  obtain ⟨a2, c2, rfl, hlc2, hcm2, hn2, hr2⟩ := h2
  unfold maxLen at hcm1 hcm2
  obtain ⟨n, hn⟩ : ∃ n, n = l.length := ⟨_, rfl⟩
  obtain ⟨m, hms⟩ : ∃ m, m = s.length := ⟨_, rfl⟩
  rw [← hn] at hlc1 hr1 hat htk ⊢
  rw [← hms] at hlc2 hr2 ⊢
  have HR1 := Lib.hid hr1; have HR2 := Lib.hid hr2; have HAT := Lib.hid hat; have HTK := Lib.hid htk; have HLT := Lib.hid hlt
  have HMS := Lib.hid hms
  have HNL := Lib.hid hn
  have hn6 : n ≤ 1000000 := by omega
  have hm6 : m ≤ 1000000 := by omega
  clear hr1 hr2 hat htk hlt hfull hn hms hm hl hs
  go_enter Try.func106, Try.ntmps106
  go_wp2
  go_loopw [5, 11] (fun o i wr => ∃ k : Nat, k ≤ n ∧ i = .int .i64 (k : Int) ∧ Own w.heap.size wr o ((l.take k).map (fun x => (s.idxOf x : Int))) ∧ Below w.heap.size w wr) (fun _ i _ => n - (intOf i).toNat)
  case atStart => exact ⟨0, by omega, rfl, Own.nil _ _, Below.refl _ _⟩
  case round =>
    obtain ⟨k, hk, rfl, hown, hbel⟩ := hrel
    generalize wr = wb at *
    by_cases hkn : k < n
    · have hx := HAT.out k hkn
      have hsuc := HTK.out k hkn
      have hlen := HLT.out k
      have hid := idx_at s (l.getD k 0) hx
      rcases HR1.out with h9 | ⟨b1, o1, rfl, hc1⟩
      · have := HNL.out; rw [h9] at this; simp at this; omega
      rcases HR2.out with h9 | ⟨b2, o2, rfl, hc2⟩
      · rw [h9] at hx; simp at hx
      have hsrc : wb.cell? ⟨b1, o1 + k, none⟩ = some (.int .i64 (l.getD k 0)) := by
        have := hc1 k hkn
        exact (hbel.cell (p := ⟨b1, o1 + k, none⟩) (World.block_lt_of_cell? w _ this)).trans this
      have hsr2 : ∀ j, j < m → wb.cell? ⟨b2, o2 + j, none⟩ = some (.int .i64 (s.getD j 0)) := fun j hj => by
        have := hc2 j hj
        exact (hbel.cell (p := ⟨b2, o2 + j, none⟩) (World.block_lt_of_cell? w _ this)).trans this
      have hne := idx_ne s (l.getD k 0)
      rw [← HMS.out] at hid
      generalize (l.take k).map (fun x => (s.idxOf x : Int)) = S at *
      generalize l.getD k 0 = x at *
      generalize s.idxOf x = q at *
      have HO := Lib.hid hown; have HBE := Lib.hid hbel; have HSU := Lib.hid hsuc; have HS2 := Lib.hid hsr2; have HNE := Lib.hid hne; have HIX := Lib.hid hid.2; have hqm := hid.1
      have hsz := hbel.size
      have HLE := Lib.hid hlen
      clear hown hbel hsuc hsr2 hne hid hx hlen hc1 hc2
      go_wp2
      go_loopw [8] (fun i wr => ∃ j : Nat, j ≤ q ∧ i = .int .i64 (j : Int) ∧ wr = wb) (fun i _ => q - (intOf i).toNat)
      case atStart => exact ⟨0, by omega, rfl, rfl⟩
      case round =>
        obtain ⟨j, hj, rfl, rfl⟩ := hrel
        have hcj := HS2.out j (by omega)
        by_cases hjq : j < q
        · have hxx := HNE.out j hjq
          generalize s.getD j 0 = y at *
          go_wp2
          go_roundw
          case rel => exact ⟨j + 1, by omega, by go_num, trivial⟩
          case measure => first | (simp [intOf]; done) | (simp [intOf]; omega)
        · obtain rfl : j = q := by omega
          rw [HIX.out] at hcj
          go_wp2_with (at_builtin; refine wp_append _ rfl (.tmp 23) (.tmp 25) rfl w.heap.size _ _ S [(j : Int)] rfl rfl (HO.out.below (Below.alloc1 _ _)) (Own.lit1 w.heap.size _ (j : Int) hsz).rd (by have := HLE.out; simp; omega) (by simp; omega) ?_; intro v' w3 hown3 hgr hbel3)
          go_roundw
          case rel => exact ⟨k + 1, by omega, by go_num, by rw [HSU.out]; exact hown3, (Below.step HBE.out (Below.alloc1 _ _)).trans hbel3⟩
          case measure => first | (simp [intOf]; done) | (simp [intOf]; omega)
    · obtain rfl : k = n := by omega
      obtain ⟨oa, on, oc, rfl⟩ := hown.form'
      have HO := Lib.hid hown; have HBE := Lib.hid hbel
      clear hown hbel
      go_wp2_with fail
      go_ret
      exact ⟨_, rfl, HO.out, HBE.out⟩

set_option maxHeartbeats 2000000 in
theorem stAround_any (v1 v2 : Value) (u d : List Int) (c : Int) (w : World) (h1 : Rd w v1 u) (h2 : Rd w v2 d) (hu : u.length ≤ 1000) (hd : d.length ≤ 1000) :
    Calls Try.prog 85 #[.agg #[v1, v2, .int .i64 c]] w (Made w (roundL u d)) := by
  have B1 : Below w.heap.size w (w.alloc (.cells #[v1, v2, .int .i64 c] 27)) := Below.alloc1 w _
  have hbox : (w.alloc (.cells #[v1, v2, .int .i64 c] 27)).heap[w.heap.size]? = some (.cells #[v1, v2, .int .i64 c] 27 (0, 0)) := heap_alloc_new w _
  have hst : ∀ w', Below (w.heap.size + 1) (w.alloc (.cells #[v1, v2, .int .i64 c] 27)) w' → w'.cell? ⟨w.heap.size, 1, none⟩ = some v2 := fun w' hb => by
    rw [cell_of_row w' w.heap.size 1 _ _ _ ((hb.block _ (by omega)).trans hbox)]; rfl
  have hs0 : (w.alloc (.cells #[v1, v2, .int .i64 c] 27)).cell? ⟨w.heap.size, 0, none⟩ = some v1 := by rw [cell_of_row _ w.heap.size 0 _ _ _ hbox]; rfl
  have hown := l1Own_any v1 u (w.alloc (.cells #[v1, v2, .int .i64 c] 27)) (h1.below B1) (by omega)
  have hrd := h2.below B1
  have hgt : ∀ k, k < d.length → u ++ (d.drop k).reverse = (u ++ (d.drop (k + 1)).reverse) ++ [d.getD k 0] := by
    intro k hk
    rw [List.drop_eq_getElem_cons hk, List.reverse_cons, ← List.append_assoc]
    simp [List.getD, hk]
  have hln : ∀ k, (u ++ (d.drop k).reverse).length ≤ 2000 := fun k => by simp; omega
  have hz : u ++ (d.drop d.length).reverse = u := by simp
  have hfull : roundL u d = u ++ (d.drop 0).reverse := rfl
  rw [hfull]
  obtain ⟨n, hn⟩ : ∃ n, n = d.length := ⟨_, rfl⟩
  rw [← hn] at hgt hz hd
  obtain ⟨a2, c2, rfl, hlc2, hcm2, hn2, hr2⟩ := hrd
  unfold maxLen at hcm2
  rw [← hn] at hlc2 hr2 ⊢
  rw [← hn] at hbox hst hs0 hown
  have HOW := Lib.hid hown; have HGT := Lib.hid hgt; have HLN := Lib.hid hln; have HZ := Lib.hid hz; have HST := Lib.hid hst; have HR2 := Lib.hid hr2; have HB := Lib.hid B1; have HN := Lib.hid hn
  obtain ⟨a1, c1, rfl, _⟩ := h1
  clear hown hgt hln hz hst hr2 B1 hn hbox hfull h2
  go_enter Try.func85, Try.ntmps85
  have k1 := HST.out _ (Below.refl _ _)
  go_wp2_with (go_at_call 74; ((with_reducible refine HOW.out.mono ?_); rintro e w1 ⟨ov, rfl, ho, hb1⟩; have k2 := HST.out _ (by simpa using hb1); obtain ⟨oa, on, oc, rfl⟩ := ho.form'; have HO := Lib.hid ho; have HB1 := Lib.hid hb1; clear ho hb1))
  go_loopw [3, 4] (fun o i wr => ∃ k : Nat, k ≤ n ∧ i = .int .i64 ((k : Int) - 1) ∧ Own (w.heap.size + 1) wr o (u ++ (d.drop k).reverse) ∧ Below (w.heap.size + 1) (w.alloc (.cells #[.slice a1 u.length c1, .slice a2 n c2, .int .i64 c] 27)) wr) (fun _ i _ => (intOf i + 1).toNat)
  case atStart => exact ⟨n, by omega, by go_num, by rw [HZ.out]; simpa using HO.out, by simpa using HB1.out⟩
  case round =>
    obtain ⟨k, hk, rfl, hown, hbel⟩ := hrel
    clear HO HB1 k2 k1 hs0
    generalize wr = wb at *
    obtain ⟨oa2, on2, oc2, rfl⟩ := hown.form'
    by_cases hk0 : 0 < k
    · obtain ⟨j, rfl⟩ : ∃ j, k = j + 1 := ⟨k - 1, by omega⟩
      have e1 : (((j + 1 : Nat) : Int) - 1) = (j : Int) := by push_cast; omega
      rw [e1]
      rcases HR2.out with h9 | ⟨b2, o2, rfl, hc2⟩
      · have := HN.out; rw [h9] at this; simp at this; omega
      have hsrc : wb.cell? ⟨b2, o2 + j, none⟩ = some (.int .i64 (d.getD j 0)) := by
        have := hc2 j (by omega)
        exact (hbel.cell (p := ⟨b2, o2 + j, none⟩) (by have := World.block_lt_of_cell? _ _ this; simpa using this)).trans this
      have k3 := HST.out _ hbel
      have hsuc := HGT.out j (by omega)
      have hlen := HLN.out (j + 1)
      have hsz : w.heap.size + 1 ≤ wb.heap.size := by have := hbel.size; simpa using this
      generalize u ++ (d.drop (j + 1)).reverse = S at *
      generalize d.getD j 0 = x at *
      have HO := Lib.hid hown; have HBE := Lib.hid hbel; have HSU := Lib.hid hsuc; have HLE := Lib.hid hlen
      clear hown hbel hsuc hlen hc2 e1
      go_wp2_with (at_builtin; refine wp_append _ rfl (.tmp 16) (.tmp 22) rfl (w.heap.size + 1) _ _ S [x] rfl rfl (HO.out.below (Below.alloc1 _ _)) (Own.lit1 (w.heap.size + 1) _ x hsz).rd (by have := HLE.out; simp; omega) (by simp; omega) ?_; intro v' w3 hown3 hgr hbel3)
      go_roundw
      case rel => exact ⟨j, by omega, by go_num, by rw [HSU.out]; exact hown3, (HBE.out.trans ((Below.alloc1 _ _).mono hsz)).trans hbel3⟩
      case measure => first | (simp [intOf]; done) | (simp [intOf]; omega)
    · obtain rfl : k = 0 := by omega
      have HO := Lib.hid hown; have HBE := Lib.hid hbel
      clear hown hbel
      go_wp2_with fail
      go_ret
      exact ⟨_, rfl, HO.out.mono (Nat.le_succ _), (Below.alloc1 w _).trans (HBE.out.mono (Nat.le_succ _))⟩

theorem seenL_next (l : List Int) (k : Nat) (h : k < l.length) : seenL [] (l.take (k + 1)) = if l.getD k 0 ∈ seenL [] (l.take k) then seenL [] (l.take k) else seenL [] (l.take k) ++ [l.getD k 0] := by
  rw [List.take_add_one, List.getElem?_eq_getElem h, Option.toList_some, seenL_append]
  simp [seenL, List.getD, h]
set_option maxRecDepth 100000 in
set_option maxHeartbeats 4000000 in
theorem stRename_full (v1 v2 : Value) (u d : List Int) (w : World) (h1 : Rd w v1 u) (h2 : Rd w v2 d) (hu : u.length ≤ 1000) (hd : d.length ≤ 1000) :
    Calls Try.prog 75 #[v1, v2] w fun e w' => ∃ x1 x2, e = .returned (.tuple #[x1, x2]) ∧ Own w.heap.size w' x1 (renU u) ∧ Own w.heap.size w' x2 (renD u d) ∧ Below w.heap.size w w' ∧ (∀ k, x1.ownBlock = some k → x2.ownBlock ≠ some k) := by
  have hown := l1Own_any v1 u w h1 (by omega)
  have hsu := fun k => seenL_next (u ++ d) k
  have hln : ∀ k, (seenL [] ((u ++ d).take k)).length ≤ 2000 := fun k => by
    have := seenL_length ((u ++ d).take k) []
    simp at this; omega
  have hmem : ∀ x ∈ u ++ d, x ∈ seenL [] (u ++ d) := fun x hx => (seenL_mem _ _ _).2 (.inr hx)
  have hz : seenL [] ((u ++ d).take 0) = [] := rfl
  have htk : seenL [] ((u ++ d).take (u ++ d).length) = seenL [] (u ++ d) := by rw [List.take_length]
  rw [renU_map u d, renD_map u d]
  have hlen : (u ++ d).length ≤ 2000 := by simp; omega
  have hnm1 := fun w v1 v2 h1 h2 => stNames_any v1 v2 u (seenL [] (u ++ d)) w h1 h2 (fun x hx => hmem x (List.mem_append_left _ hx)) (by omega) (by have := hln (u ++ d).length; rw [htk] at this; omega)
  have hnm2 := fun w v1 v2 h1 h2 => stNames_any v1 v2 d (seenL [] (u ++ d)) w h1 h2 (fun x hx => hmem x (List.mem_append_right _ hx)) (by omega) (by have := hln (u ++ d).length; rw [htk] at this; omega)
  generalize hM1 : (u.map fun x => ((seenL [] (u ++ d)).idxOf x : Int)) = M1 at *
  generalize hM2 : (d.map fun x => ((seenL [] (u ++ d)).idxOf x : Int)) = M2 at *
  rw [← htk] at hnm1 hnm2
  generalize hL : u ++ d = L at *
  have HLE := Lib.hid hL
  have HOW := Lib.hid hown; have HSU := Lib.hid hsu; have HLN := Lib.hid hln; have HN1 := Lib.hid hnm1; have HN2 := Lib.hid hnm2; have H1 := Lib.hid h1; have H2 := Lib.hid h2
  obtain ⟨a1, c1, rfl, _⟩ := h1
  obtain ⟨a2, c2, rfl, _⟩ := h2
  clear hown hsu hln hmem hz htk hnm1 hnm2 hM1 hM2 hL
  go_enter Try.func75, Try.ntmps75
  go_wp2_with (first
    | (go_at_call 74; ((with_reducible refine HOW.out.mono ?_); rintro e w1 ⟨ov, rfl, ho, hb1⟩; obtain ⟨oa, on, oc, rfl⟩ := ho.form'; have HO := Lib.hid ho; have HB1 := Lib.hid hb1; clear ho hb1))
    | (at_builtin; refine wp_append _ rfl (.tmp 10) (.tmp 11) rfl w.heap.size _ _ u d rfl rfl HO.out (H2.out.below HB1.out) (by omega) HB1.out.size ?_; intro v' w2 hown2 hgr hbel2; rw [HLE.out] at hown2; have HRD := Lib.hid hown2.rd; have HB2 := Lib.hid (HB1.out.trans hbel2); obtain ⟨ra, rc, rfl, hcc1, hcc2, _⟩ := hown2.rd; unfold maxLen at hcc2; clear hown2 hgr hbel2))
  have hz2 := HB2.out.size
  go_loopw [6, 14] (fun o i wr => ∃ k : Nat, k ≤ L.length ∧ i = .int .i64 (k : Int) ∧ Own w2.heap.size wr o (seenL [] (L.take k)) ∧ Below w2.heap.size w2 wr) (fun _ i _ => L.length - (intOf i).toNat)
  case atStart => exact ⟨0, by omega, rfl, Own.nil _ _, Below.refl _ _⟩
  case round =>
    obtain ⟨k, hk, rfl, hown, hbel⟩ := hrel
    generalize wr = wb at *
    have hsz := hbel.size
    by_cases hkn : k < L.length
    · have hsuc := HSU.out k hkn
      have hlk := HLN.out k
      obtain ⟨b2, o2, c9, hv, _, _, hc2⟩ := HRD.out.at (by omega)
      simp at hv
      obtain ⟨rfl, rfl⟩ := hv
      have hsrc : wb.cell? ⟨b2, o2 + k, none⟩ = some (.int .i64 (L.getD k 0)) := by
        have := hc2 k hkn
        exact (hbel.cell (p := ⟨b2, o2 + k, none⟩) (World.block_lt_of_cell? _ _ this)).trans this
      generalize seenL [] (L.take k) = S at *
      generalize L.getD k 0 = x at *
      obtain ⟨oa2, on2, oc2, rfl⟩ := hown.form'
      have HO := Lib.hid hown; have HBE := Lib.hid hbel; have HSUC := Lib.hid hsuc; have HLK := Lib.hid hlk
      clear hown hbel hsuc hlk hc2
      by_cases hxs : x ∈ S
      · have HX : Hid (decide (x ∈ S) = true) := decide_eq_true hxs
        go_wp2_with (go_at_call 86; ((with_reducible refine (l1Has_any _ S x _ HO.out.rd).mono ?_); rintro e w3 ⟨rfl, rfl⟩; rw [HX.out]))
        go_roundw
        case rel => exact ⟨k + 1, by omega, by go_num, by rw [HSUC.out, if_pos hxs]; exact HO.out, HBE.out⟩
        case measure => first | (simp [intOf]; done) | (simp [intOf]; omega)
      · have HX : Hid (decide (x ∈ S) = false) := decide_eq_false hxs
        go_wp2_with (first
          | (go_at_call 86; ((with_reducible refine (l1Has_any _ S x _ HO.out.rd).mono ?_); rintro e w3 ⟨rfl, rfl⟩; rw [HX.out]))
          | (at_builtin; refine wp_append _ rfl (.tmp 22) (.tmp 24) rfl w2.heap.size _ _ S [x] rfl rfl (HO.out.below (Below.alloc1 _ _)) (Own.lit1 w2.heap.size _ x hsz).rd (by have := HLK.out; simp; omega) (by simp; omega) ?_; intro v' w3 hown3 hgr hbel3))
        go_roundw
        case rel => exact ⟨k + 1, by omega, by go_num, by rw [HSUC.out, if_neg hxs]; exact hown3, (Below.step HBE.out (Below.alloc1 _ _)).trans hbel3⟩
        case measure => first | (simp [intOf]; done) | (simp [intOf]; omega)
    · obtain rfl : k = L.length := by omega
      obtain ⟨oa2, on2, oc2, rfl⟩ := hown.form'
      have hbw : Below w.heap.size w wb := HB2.out.trans (hbel.mono hz2)
      have HO := Lib.hid hown; have HBW := Lib.hid hbw
      clear hown hbel hbw
      go_wp2_with (first
        | (go_at_call 106; ((with_reducible refine (HN1.out _ _ _ (H1.out.below HBW.out) HO.out.rd).mono ?_); rintro e w4 ⟨x1, rfl, hx1, hb4⟩; have HX1 := Lib.hid hx1; have HB4 := Lib.hid hb4; have HO4 := Lib.hid (HO.out.below hb4); have HBW4 := Lib.hid (Below.step HBW.out hb4); clear hx1 hb4))
        | (go_at_call 106; ((with_reducible refine (HN2.out _ _ _ (H2.out.below HBW4.out) HO4.out.rd).mono ?_); rintro e w5 ⟨x2, rfl, hx2, hb5⟩; have HX2 := Lib.hid hx2; have HX15 := Lib.hid (HX1.out.below hb5); have HBW5 := Lib.hid (Below.step HBW4.out hb5); have hz4 := HBW.out.size; have hz5 := HBW4.out.size; obtain ⟨f1, f2, f3, rfl⟩ := HX1.out.form'; obtain ⟨f4, f5, f6, rfl⟩ := hx2.form'; clear hx2 hb5)))
      go_ret2
      exact ⟨_, _, rfl, HX15.out.mono hz4, HX2.out.mono hz5, HBW5.out, fun k hk hk2 => by have h7 := (HX1.out.lt k hk).2; have h8 := (HX2.out.lt k hk2).1; omega⟩
theorem stRename_any (v1 v2 : Value) (u d : List Int) (w : World) (h1 : Rd w v1 u) (h2 : Rd w v2 d) (hu : u.length ≤ 1000) (hd : d.length ≤ 1000) :
    Calls Try.prog 75 #[v1, v2] w fun e w' => ∃ x1 x2, e = .returned (.tuple #[x1, x2]) ∧ Own w.heap.size w' x1 (renU u) ∧ Own w.heap.size w' x2 (renD u d) ∧ Below w.heap.size w w' :=
  (stRename_full v1 v2 u d w h1 h2 hu hd).mono fun _ _ ⟨x1, x2, h1, h2, h3, h4, _⟩ => ⟨x1, x2, h1, h2, h3, h4⟩

end Go.Proofs.Ytllhdmpnjcemkac
