/- The ends of a frontier: push, pop, rename. -/
import Derived.Test.YtnkkgbecdckigacStepC
import Derived.Test.YtnkkgbecdckigacStepMath
import Derived.RegionTactic
import Derived.BigRegion
import Derived.Deep.QuietTactic
import Derived.BigQuiet
import Derived.IntWalk
namespace Go.Proofs.Ytnkkgbecdckigac
open Go.RowKit Go.Maps
set_option linter.unusedSimpArgs false
set_option linter.unusedVariables false

def PushOut (w : World) (b o : Nat) (l m : List Int) (c : Int) (e : Ending) (w' : World) : Prop := e = .returned (.bool true) ∧ SdIn w' b o l m c ∧ w.grownBy w' (some b)
set_option maxHeartbeats 2000000 in
theorem push_any (b o : Nat) (ho : o = 0 ∨ o = 7) (l m : List Int) (c x : Int) (w : World) (h : SdIn w b o l m c) (hl : l.length < 6) (hm : m.length ≤ 6) :
    Calls Try.prog 92 #[.pointer (some ⟨b, o, none⟩), .int .i64 x] w (PushOut w b o (l ++ [x]) m c) := by
  have k6 := h.at (by omega) hm (o + 6) (by omega)
  rw [sdV_size ho] at k6
  have kn := h.at (by omega) hm (o + l.length) (by omega)
  rw [sdV_part ho _ _ _ _ hl] at kn
  have fn := h.free (o + l.length)
  have f6 := h.free (o + 6)
  have hp := sd_push ho x hl hm h
  generalize l.getD l.length 0 = y at kn
  have HP := Lib.hid hp
  obtain ⟨n, hn⟩ : ∃ n, n = l.length := ⟨_, rfl⟩
  rw [← hn] at k6 kn fn hl HP
  have hne : ¬ (o + n = o + 6) := by omega
  have hlit : ((n : Int) == 6) = false := by rw [beq_eq_false_iff_ne]; omega
  clear hp h hn
  go_enter Try.func92, Try.ntmps92
  go_wp2
  go_region
  all_goals
    go_wp2
    go_ret
    exact ⟨rfl, HP.out, grown_drewN (grown_trans grown_setCell grown_setCell) 1⟩
def PushNo (w : World) (e : Ending) (w' : World) : Prop := e = .returned (.bool false) ∧ w = w'
set_option maxHeartbeats 1000000 in
theorem push_full (b o : Nat) (ho : o = 0 ∨ o = 7) (l m : List Int) (c x : Int) (w : World) (h : SdIn w b o l m c) (hl : l.length = 6) (hm : m.length ≤ 6) :
    Calls Try.prog 92 #[.pointer (some ⟨b, o, none⟩), .int .i64 x] w (PushNo w) := by
  have k6 := h.at (by omega) hm (o + 6) (by omega)
  rw [sdV_size ho, hl] at k6
  clear h
  go_enter Try.func92, Try.ntmps92
  go_wp2
  go_ret
  exact ⟨rfl, rfl⟩
def PopOut (w : World) (b o : Nat) (x : Int) (l m : List Int) (c : Int) (e : Ending) (w' : World) : Prop := e = .returned (.tuple #[.int .i64 x, .bool true]) ∧ SdIn w' b o l m c ∧ w.grownBy w' (some b)
set_option maxHeartbeats 2000000 in
theorem pop_any (b o : Nat) (ho : o = 0 ∨ o = 7) (l m : List Int) (c x : Int) (w : World) (h : SdIn w b o (l ++ [x]) m c) (hl : l.length < 6) (hm : m.length ≤ 6) :
    Calls Try.prog 93 #[.pointer (some ⟨b, o, none⟩)] w (PopOut w b o x l m c) := by
  have hlx : (l ++ [x]).length ≤ 6 := by simp; omega
  have k6 := h.at hlx hm (o + 6) (by omega)
  rw [sdV_size ho, List.length_append, List.length_singleton] at k6
  have kn := h.at hlx hm (o + l.length) (by omega)
  rw [sdV_part ho _ _ _ _ hl, getD_snoc, if_pos rfl] at kn
  have fn := h.free (o + l.length)
  have f6 := h.free (o + 6)
  have hp := sd_pop ho hl hm h
  have HP := Lib.hid hp
  obtain ⟨n, hn⟩ : ∃ n, n = l.length := ⟨_, rfl⟩
  rw [← hn] at k6 kn fn hl HP
  rw [show ((n + 1 : Nat) : Int) = (n : Int) + 1 by omega] at k6
  have hne : ¬ (o + n = o + 6) := by omega
  have hlit : ((n : Int) + 1 == 0) = false := by rw [beq_eq_false_iff_ne]; omega
  have hsub : (n : Int) + 1 - 1 = (n : Int) := by omega
  clear hp h hn hlx
  go_enter Try.func93, Try.ntmps93
  go_wp2
  go_region
  all_goals
    go_wp2
    go_region
  all_goals
    go_wp2
    go_ret2
    exact ⟨rfl, HP.out, grown_drewN (grown_drewN (grown_trans grown_setCell grown_setCell) 1) 1⟩
def PopNo (w : World) (e : Ending) (w' : World) : Prop := e = .returned (.tuple #[.int .i64 0, .bool false]) ∧ w = w'
set_option maxHeartbeats 1000000 in
theorem pop_none (b o : Nat) (ho : o = 0 ∨ o = 7) (m : List Int) (c : Int) (w : World) (h : SdIn w b o [] m c) (hm : m.length ≤ 6) :
    Calls Try.prog 93 #[.pointer (some ⟨b, o, none⟩)] w (PopNo w) := by
  have k6 := h.at (by simp) hm (o + 6) (by omega)
  rw [sdV_size ho] at k6
  simp only [List.length_nil] at k6
  clear h
  go_enter Try.func93, Try.ntmps93
  go_wp2
  go_ret2
  exact ⟨rfl, rfl⟩
/-- the first k renamed -/
def rnK (y x : Int) (l : List Int) (k : Nat) : List Int := (l.take k).map (mgI x y) ++ l.drop k
theorem rnK_length (y x : Int) (l : List Int) (k : Nat) : (rnK y x l k).length = l.length := by simp [rnK]; omega
theorem rnK_zero (y x : Int) (l : List Int) : rnK y x l 0 = l := by simp [rnK]
theorem rnK_all (y x : Int) (l : List Int) : rnK y x l l.length = l.map (mgI x y) := by simp [rnK]
theorem rnK_get (y x : Int) (l : List Int) (k : Nat) (hk : k < l.length) : (rnK y x l k).getD k 0 = l.getD k 0 := by
  unfold rnK
  simp only [List.getD]
  rw [List.getElem?_append_right (by simp; omega)]
  simp [Nat.min_eq_left (Nat.le_of_lt hk)]
theorem rnK_next (y x : Int) (l : List Int) (k : Nat) (hk : k < l.length) : rnK y x l (k + 1) = (rnK y x l k).set k (mgI x y (l.getD k 0)) := by
  unfold rnK
  have hlen : ((l.take k).map (mgI x y)).length = k := by simp; omega
  rw [List.set_append_right _ _ (by omega), hlen, Nat.sub_self, List.drop_eq_getElem_cons hk, List.set_cons_zero, List.take_succ_eq_append_getElem hk, List.map_append, List.append_assoc]
  simp [List.getD, hk]
theorem rnK_keep (y x : Int) (l : List Int) (k : Nat) (hk : k < l.length) (hne : l.getD k 0 ≠ y) : rnK y x l (k + 1) = rnK y x l k := by
  rw [rnK_next y x l k hk, show mgI x y (l.getD k 0) = l.getD k 0 by unfold mgI; rw [if_neg hne]]
  have := rnK_get y x l k hk
  apply List.ext_getElem?
  intro i
  by_cases h : k = i
  · subst h
    rw [List.getElem?_set_self (by rw [rnK_length]; exact hk), ← this]
    simp [List.getD, show k < (rnK y x l k).length by rw [rnK_length]; exact hk]
  · rw [List.getElem?_set_ne h]
def RnOut (w : World) (b o : Nat) (l m : List Int) (c : Int) (e : Ending) (w' : World) : Prop := e = .returned (.tuple #[]) ∧ SdIn w' b o l m c ∧ w.grownBy w' (some b)
theorem sd_drewN {w : World} {b o : Nat} {l m : List Int} {c : Int} (h : SdIn w b o l m c) (q : Nat) : SdIn (w.drewN q) b o l m c := h
set_option maxHeartbeats 2000000 in
set_option maxRecDepth 100000 in
theorem rename_any (b o : Nat) (ho : o = 0 ∨ o = 7) (l m : List Int) (c y x : Int) (w : World) (h : SdIn w b o l m c) (hl : l.length ≤ 6) (hm : m.length ≤ 6) :
    Calls Try.prog 94 #[.pointer (some ⟨b, o, none⟩), .int .i64 y, .int .i64 x] w (RnOut w b o (l.map (mgI x y)) m c) := by
  have k6 := h.at hl hm (o + 6) (by omega)
  rw [sdV_size ho] at k6
  have HA := Lib.hid (fun (L : List Int) (hL : L.length ≤ 6) (w : World) (h : SdIn w b o L m c) (i : Nat) (hi : i < 6) => h.at hL hm (o + i) (by omega))
  have HV := Lib.hid (fun (L : List Int) (i : Nat) (hi : i < 6) => sdV_part ho L m c i hi)
  have HS := Lib.hid (fun (L : List Int) (hL : L.length ≤ 6) (w : World) (h : SdIn w b o L m c) (k : Nat) (z : Int) (hk : k < L.length) => sd_set ho k z hk hL hm h)
  have hal := fun b o w => run_parts_at b o l.length w hl
  have HNX := Lib.hid (fun k (hk : k < l.length) => rnK_next y x l k hk)
  have HKP := Lib.hid (fun k (hk : k < l.length) (hne : l.getD k 0 ≠ y) => rnK_keep y x l k hk hne)
  have HGT := Lib.hid (fun k (hk : k < l.length) => rnK_get y x l k hk)
  have HLN := Lib.hid (fun k => rnK_length y x l k)
  have HFI := Lib.hid (rnK_all y x l)
  have h0 : SdIn w b o (rnK y x l 0) m c := by rw [rnK_zero]; exact h
  have H0 := Lib.hid h0
  obtain ⟨n, hn⟩ : ∃ n, n = l.length := ⟨_, rfl⟩
  rw [← hn] at k6 hl hal HNX HKP HGT HLN HFI
  clear h h0 hn
  go_enter Try.func94, Try.ntmps94
  go_wp2
  go_quiet (fail)
  go_wp2
  go_loopw [17] (fun i wr => ∃ k : Nat, k ≤ n ∧ i = .int .i64 k ∧ Hid (SdIn wr b o (rnK y x l k) m c) ∧ Hid (w.grownBy wr (some b))) (fun i _ => n - (intOf i).toNat)
  case atStart => exact ⟨0, by omega, rfl, sd_drewN H0.out _, grown_drewN ⟨rfl, rfl, rfl, Nat.le_refl _, fun _ _ _ => rfl⟩ _⟩
  case round =>
    clear k6 H0
    obtain ⟨k, hk, rfl, HR, HG⟩ := hrel
    by_cases hlt : k < n
    · have hk6 : k < 6 := by omega
      have hL : (rnK y x l k).length ≤ 6 := by rw [HLN.out]; exact hl
      have hc := HA.out _ hL _ HR.out k hk6
      rw [HV.out _ k hk6, HGT.out k hlt] at hc
      have hf := HR.out.free (o + k)
      have hnx := HNX.out k hlt
      have hkp := HKP.out k hlt
      have hset := fun z => HS.out _ hL _ HR.out k z (by rw [HLN.out]; exact hlt)
      generalize l.getD k 0 = z at hc hnx hkp
      by_cases hz : z = y
      · subst hz
        rw [show mgI x z z = x by unfold mgI; rw [if_pos rfl]] at hnx
        have hs2 := hset x
        rw [← hnx] at hs2
        have HS2 := Lib.hid hs2
        have HG2 := Lib.hid (grown_trans HG.out (grown_setCell (w := wr) (b := b) (i := o + k) (v := .int .i64 x)))
        clear hnx hkp hset hs2
        go_wp2
        go_roundw
        case rel => exact ⟨k + 1, by omega, by go_num, HS2.out, HG2.out⟩
        case measure => simp [intOf]; omega
      · have hz2 : (z == y) = false := by rw [beq_eq_false_iff_ne]; exact hz
        have hk2 := hkp hz
        have HR2 : Hid (SdIn wr b o (rnK y x l (k + 1)) m c) := by rw [hk2]; exact HR.out
        clear hnx hkp hset hz hk2
        go_wp2
        go_roundw
        case rel => exact ⟨k + 1, by omega, by go_num, HR2.out, HG.out⟩
        case measure => simp [intOf]; omega
    · obtain rfl : k = n := by omega
      go_wp2
      go_end0
      rw [HFI.out] at HR
      exact ⟨rfl, HR.out, HG.out⟩

end Go.Proofs.Ytnkkgbecdckigac
