/- Slices of slices of numbers that came in: how they read; the laws' szIntSS and toIntSS. -/
import Derived.Test.YtgaaddfipkdlaabListsLaw
import Derived.Deep.Matrix
namespace Go.Proofs.Ytgaaddfipkdlaab
open Go.RowKit
set_option linter.unusedSimpArgs false
set_option linter.unusedVariables false

/-- a slice of slices of numbers that can be read -/
structure RdLL (w : World) (v : Value) (rv : Nat → Value) (ls : List (List Int)) : Prop where
  shape : ∃ a c, v = .slice a ls.length c ∧ ls.length ≤ c ∧ c ≤ maxLen ∧ (ls = [] ∨ ∃ b off, a = some ⟨b, off, none⟩ ∧ ∀ k, k < ls.length → w.cell? ⟨b, off + k, none⟩ = some (rv k))
  row : ∀ k, k < ls.length → Rd w (rv k) (ls.getD k [])
theorem RdLL.below {w w' : World} {v : Value} {rv : Nat → Value} {ls : List (List Int)} (h : RdLL w v rv ls) (hb : Below w.heap.size w w') : RdLL w' v rv ls := by
  refine ⟨?_, fun k hk => (h.row k hk).below hb⟩
  obtain ⟨a, c, e, h1, h2, h3⟩ := h.shape
  refine ⟨a, c, e, h1, h2, ?_⟩
  rcases h3 with h0 | ⟨b, off, e2, hc⟩
  · exact .inl h0
  · exact .inr ⟨b, off, e2, fun k hk => (hb.cell (World.block_lt_of_cell? w _ (hc k hk))).trans (hc k hk)⟩
theorem RdLL.nil (w : World) : RdLL w (.slice none 0 0) (fun _ => .slice none 0 0) [] := ⟨⟨none, 0, rfl, Nat.le_refl _, by unfold maxLen; omega, .inl rfl⟩, fun k hk => by simp at hk⟩
theorem spot_none {w : World} {x : Addr} {v : Value} (hx : w.cell? (x.add 0) = some v) : x.spot = none := by
  simp only [Addr.add, if_true] at hx
  unfold World.cell? at hx
  cases hsp : x.spot with
  | none => rfl
  | some q =>
    rw [hsp] at hx
    split at hx <;> simp at hx
theorem RdLL.of {w : World} {base len cap : Nat} {a : Addr} {A : Nat → Option Addr} {L C : Nat → Nat} {Z : Nat → List Int} (hl : len ≤ cap) (hm : cap ≤ maxLen)
    (h : ∀ r, r < cap → w.cell? (a.add r) = some (.slice (A r) (L r) (C r)) ∧ L r ≤ C r ∧ C r ≤ maxLen ∧ (Z r).length = C r ∧ (∀ n ∈ Z r, (Lit.int .i64 n).wf = true) ∧ (A r = none → C r = 0) ∧
        ∀ a', A r = some a' → base ≤ a'.block ∧ ∀ c, c < C r → w.cell? (a'.add c) = some (.int .i64 ((Z r).getD c 0))) :
    RdLL w (.slice (some a) len cap) (fun r => .slice (A r) (L r) (C r)) ((List.range len).map fun r => (Z r).take (L r)) := by
  have hlen : ((List.range len).map fun r => (Z r).take (L r)).length = len := by simp
  refine ⟨⟨some a, cap, by rw [hlen], by omega, hm, ?_⟩, fun k hk => ?_⟩
  · by_cases h0 : len = 0
    · subst h0; exact .inl (by simp)
    · refine .inr ?_
      have hs := spot_none (h 0 (by omega)).1
      obtain ⟨b, off, sp⟩ := a
      simp at hs
      subst hs
      refine ⟨b, off, rfl, fun k hk => ?_⟩
      have := (h k (by omega)).1
      rwa [Addr.add_lit] at this
  · rw [hlen] at hk
    obtain ⟨_, r1, r2, r3, r4, r5, r6⟩ := h k (by omega)
    have e : ((List.range len).map fun r => (Z r).take (L r)).getD k [] = (Z k).take (L k) := by simp [List.getD, hk]
    rw [e]
    have hr : RowIn w (A k) (L k) (C k) (Z k) := by
      cases hA : A k with
      | none =>
        have := r5 hA
        exact .inl ⟨rfl, by omega, by omega, List.eq_nil_of_length_eq_zero (by omega)⟩
      | some x => exact .inr ⟨x, rfl, r1, r2, r3, fun i hi => (r6 x hA).2 i (by omega), r4⟩
    exact hr.rd

def OwnsLL (w : World) (u : Value) (ls : List (List Int)) : Prop := ∃ lo hi vs, OwnLL lo hi w u vs ls
set_option maxHeartbeats 400000 in
theorem szIntS_any (a : Option Addr) (n c : Nat) (k : Int) (hn : n ≤ maxLen) (h0 : 0 ≤ k) (h1 : k ≤ 1048576) (w : World) :
    Calls Try.prog 48 #[.slice a n c, .int .i64 k] w fun e w' => e = .returned (.int .i64 (if k - (n : Int) < 0 then -1 else k - (n : Int))) ∧ w = w' := by
  unfold maxLen at hn
  by_cases h : k - (n : Int) < 0
  · rw [if_pos h]
    go_enter Try.func48, Try.ntmps48
    go_wp2
    go_ret
    exact ⟨rfl, rfl⟩
  · rw [if_neg h]
    go_enter Try.func48, Try.ntmps48
    go_wp2
    go_ret
    exact ⟨rfl, rfl⟩
def Sized (w : World) (ls : List (List Int)) (k : Int) (e : Ending) (w' : World) : Prop := ∃ z : Int, e = .returned (.int .i64 z) ∧ w = w' ∧ (z < 0 ∨ (0 ≤ z ∧ (ls.length : Int) + (tot ls : Int) ≤ k))
set_option maxHeartbeats 1000000 in
theorem szIntSS_any (v : Value) (rv : Nat → Value) (ls : List (List Int)) (w : World) (h : RdLL w v rv ls) (k : Int) (h0 : 0 ≤ k) (h1 : k ≤ 1048576) :
    Calls Try.prog 21 #[v, .int .i64 k] w (Sized w ls k) := by
  obtain ⟨a, c, rfl, h2, h3, h4⟩ := h.shape
  unfold maxLen at h3
  have HR := Lib.hid h.row; have H4 := Lib.hid h4
  clear h h4
  by_cases hs : k - (ls.length : Int) < 0
  · go_enter Try.func21, Try.ntmps21
    go_wp2
    go_ret
    exact ⟨-1, rfl, rfl, .inl (by omega)⟩
  · go_enter Try.func21, Try.ntmps21
    go_wp2
    go_loop [1, 5] (fun s i => ∃ (j : Nat) (y : Int), j ≤ ls.length ∧ i = .int .i64 (j : Int) ∧ s = .int .i64 y ∧ 0 ≤ y ∧ y ≤ k ∧ Hid (y = k - (ls.length : Int) - (tot (ls.take j) : Int))) (fun _ i => ls.length - (intOf i).toNat)
    case atStart => exact ⟨0, k - (ls.length : Int), by omega, rfl, by go_num, by omega, by omega, by show _ = _; simp [tot]⟩
    case round =>
      obtain ⟨j, y, hj, rfl, rfl, hy0, hy1, HY⟩ := hrel
      by_cases hlt : j < ls.length
      · rcases H4.out with e | ⟨b, off, rfl, hcell⟩
        · rw [e] at hlt; simp at hlt
        have hc := hcell j hlt
        have hrd := HR.out j hlt
        obtain ⟨p1, p3, hpv, hp1, hp2, _⟩ := hrd
        rw [hpv] at hc
        have hts := tot_take_succ ls j hlt
        have HSZ := Lib.hid (fun w => szIntS_any p1 (ls.getD j []).length p3 y (by omega) hy0 (by omega) w)
        have HTS := Lib.hid hts
        generalize (ls.getD j []).length = m at *
        unfold maxLen at hp2
        clear hcell hpv hts
        by_cases hm : y - (m : Int) < 0
        · rw [if_pos hm] at HSZ
          go_wp2_with (go_at_call 48; ((with_reducible refine (HSZ.out _).mono ?_); rintro e w1 ⟨rfl, rfl⟩))
          go_ret
          exact ⟨-1, rfl, rfl, .inl (by omega)⟩
        · rw [if_neg hm] at HSZ
          go_wp2_with (go_at_call 48; ((with_reducible refine (HSZ.out _).mono ?_); rintro e w1 ⟨rfl, rfl⟩))
          go_round
          case rel => exact ⟨j + 1, y - (m : Int), by omega, by go_num, by go_num, by omega, by omega, by show _ = _; have := HY.out; have := HTS.out; omega⟩
          case measure => simp [intOf]; omega
      · obtain rfl : j = ls.length := by omega
        go_wp2
        go_ret
        exact ⟨y, rfl, rfl, .inr ⟨hy0, by have := HY.out; rw [List.take_length] at this; omega⟩⟩
theorem tot_each {ls : List (List Int)} (j : Nat) (h : j < ls.length) : (ls.getD j []).length ≤ tot ls := by
  have h1 := tot_take_succ ls j h
  have h2 := tot_take_le ls (j + 1)
  omega
def baseLL (ls : List (List Int)) (k : Nat) : List (List Int) := ls.take k ++ List.replicate (ls.length - k) []
theorem baseLL_len (ls : List (List Int)) (k : Nat) (h : k ≤ ls.length) : (baseLL ls k).length = ls.length := by simp [baseLL]; omega
theorem baseLL_zero (ls : List (List Int)) : baseLL ls 0 = List.replicate ls.length [] := by simp [baseLL]
theorem baseLL_all (ls : List (List Int)) : baseLL ls ls.length = ls := by simp [baseLL]
theorem baseLL_set (ls : List (List Int)) (k : Nat) (h : k < ls.length) : (baseLL ls k).set k (ls.getD k []) = baseLL ls (k + 1) := by
  unfold baseLL
  rw [List.set_append_right _ _ (by rw [List.length_take]; omega), List.length_take, Nat.min_eq_left (by omega), Nat.sub_self, show ls.length - k = (ls.length - (k + 1)) + 1 by omega, List.replicate_succ, List.set_cons_zero, List.take_add_one, List.append_assoc]
  simp [List.getD, h]
set_option maxHeartbeats 1000000 in
theorem toIntSS_ok (v : Value) (rv : Nat → Value) (ls : List (List Int)) (w : World) (h : RdLL w v rv ls) (hl : ls.length + tot ls ≤ 1048576) :
    Calls Try.prog 23 #[v] w (MadeLL w ls) := by
  obtain ⟨a, c, rfl, h2, h3, h4⟩ := h.shape
  unfold maxLen at h3
  have HR := Lib.hid h; have H4 := Lib.hid h4
  have HEA := Lib.hid (fun j hj => Nat.le_trans (tot_each (ls := ls) j hj) (by omega : tot ls ≤ 1048576))
  have hll : ls.length ≤ 1048576 := by omega
  have HZ := Lib.hid (baseLL_zero ls); have HAL := Lib.hid (baseLL_all ls); have HST := Lib.hid (baseLL_set ls); have HLN := Lib.hid (baseLL_len ls)
  clear h h4 hl
  go_enter Try.func23, Try.ntmps23
  go_wp2_with (at_make; refine wp_makeLL w rfl _ _ rfl ls.length _ _ rfl rfl rfl rfl (by omega) ?_; intro w1 ho1 hb1 hs1; have HO1 := Lib.hid ho1; have HB1 := Lib.hid hb1; clear ho1 hb1 hs1)
  go_loopw [4] (fun i wr => ∃ (k : Nat) (us : List Value), k ≤ ls.length ∧ i = .int .i64 (k : Int) ∧ Hid (OwnLL w.heap.size wr.heap.size wr (.slice (some ⟨w.heap.size, 0, none⟩) ls.length ls.length) us (baseLL ls k)) ∧ Hid (Below w.heap.size w wr)) (fun i _ => ls.length - (intOf i).toNat)
  case atStart => exact ⟨0, _, by omega, rfl, by rw [HZ.out]; exact HO1, HB1⟩
  case round =>
    clear HO1 HB1
    obtain ⟨k, us, hk, rfl, HL, HBE⟩ := hrel
    generalize wr = wc at *
    by_cases hlt : k < ls.length
    · rcases H4.out with e | ⟨b, off, rfl, hcell⟩
      · rw [e] at hlt; simp at hlt
      have hc := (HBE.out.cell (World.block_lt_of_cell? w _ (hcell k hlt))).trans (hcell k hlt)
      have hrd := (HR.out.below HBE.out).row k hlt
      have hto := toIntS_ok (rv k) (ls.getD k []) wc hrd (HEA.out k hlt)
      obtain ⟨p1, p3, hpv, hp1, hp2, _⟩ := hrd
      rw [hpv] at hc hto
      unfold maxLen at hp2
      have HTO := Lib.hid hto
      have HSK := Lib.hid (HST.out k hlt); have HLK := Lib.hid (HLN.out k hk)
      obtain ⟨gA, hgA, _, _, hcA, hfA⟩ := HL.out.at (by rw [HLK.out]; omega)
      have eA : gA = w.heap.size := by simpa using hgA.symm
      subst eA
      have HCA := Lib.hid (hcA k (by rw [HLK.out]; exact hlt))
      have hsz := HBE.out.size
      generalize ls.getD k [] = l at *
      generalize baseLL ls k = BB at *
      clear hcell hpv hto hgA hcA hfA
      go_wp2_with (go_at_call 24; ((with_reducible refine HTO.out.mono ?_); rintro e w2 ⟨v2, rfl, ho2, hb2⟩; obtain ⟨x2, y2, z2, rfl⟩ := ho2.form'; have hkA := (hb2.cell (p := ⟨w.heap.size, k, none⟩) (World.block_lt_of_cell? _ _ HCA.out)).trans HCA.out; have HL2 := Lib.hid (OwnLL.below HL.out hb2); have hkF : w2.frozen? ⟨w.heap.size, k, none⟩ = false := (by obtain ⟨gA, hgA, _, _, _, hfA⟩ := HL2.out.at (by rw [HLK.out]; omega); have eA : w.heap.size = gA := (by simpa using hgA); subst eA; exact hfA k); have HO2 := Lib.hid ho2; have HB2 := Lib.hid hb2; clear ho2 hb2))
      have hn := (OwnLL.stored HL2.out HO2.out (Nat.le_refl _) hsz k (by rw [HLK.out]; exact hlt)).mono (Nat.le_refl _) (show w2.heap.size ≤ (w2.setCell ⟨w.heap.size, k, none⟩ (.slice x2 y2 z2)).heap.size by simp) (Nat.le_refl _)
      rw [HSK.out] at hn
      have HN := Lib.hid hn
      have HBN : Hid (Below w.heap.size w (w2.setCell ⟨w.heap.size, k, none⟩ (.slice x2 y2 z2))) := (Below.step HBE.out HB2.out).setCell (p := ⟨w.heap.size, k, none⟩) (Nat.le_refl _) _
      clear hn
      go_roundw
      case rel => exact ⟨k + 1, _, by omega, by go_num, HN, HBN⟩
      case measure => simp [intOf]; omega
    · obtain rfl : k = ls.length := by omega
      rw [HAL.out] at HL
      go_wp2_with fail
      go_ret
      exact ⟨_, us, rfl, HL.out, HBE.out⟩
end Go.Proofs.Ytgaaddfipkdlaab
