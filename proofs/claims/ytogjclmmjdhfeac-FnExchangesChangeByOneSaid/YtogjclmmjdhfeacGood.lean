/- The model's own test for arch systems. -/
import Derived.Test.YtogjclmmjdhfeacOwn
import Derived.Test.YtogjclmmjdhfeacNum
import Derived.Deep.QuietTactic
import Derived.BigQuiet
namespace Go.Proofs.Ytogjclmmjdhfeac
open Go.RowKit
set_option linter.unusedSimpArgs false
set_option linter.unusedVariables false

def Says (w : World) (b : Bool) (e : Ending) (w' : World) : Prop := e = .returned (.bool b) ∧ w = w'
def Tells (w : World) (b : Bool) (e : Ending) (w' : World) : Prop := e = .returned (.bool b) ∧ Below w.heap.size w w'

set_option maxHeartbeats 400000 in
theorem l1All_any (v : Value) (l : List Int) (lo hi : Int) (R : Bool) (w : World) (h : Rd w v l) (hR : allFrom (fun i => inB (l.getD i 0) lo hi) 0 l.length = R) :
    Calls Try.prog 86 #[v, .int .i64 lo, .int .i64 hi] w (Says w R) := by
  obtain ⟨a, c, rfl, hlc, hcm, _, hrd⟩ := h
  obtain ⟨n, hn⟩ : ∃ n, n = l.length := ⟨_, rfl⟩
  rw [← hn] at hrd hlc hR ⊢
  unfold maxLen at hcm
  have HN := Lib.hid hn; clear hn
  have HC := Lib.hid hrd; clear hrd
  have HR := Lib.hid hR; clear hR
  go_enter Try.func86, Try.ntmps86
  go_wp2
  go_loop [11] (fun i => ∃ k : Nat, k ≤ n ∧ i = .int .i64 k ∧ Hid (allFrom (fun i => inB (l.getD i 0) lo hi) k (n - k) = R)) (fun i => n - (intOf i).toNat)
  case atStart => exact ⟨0, by omega, rfl, HR.out⟩
  case round =>
    obtain ⟨k, hk, rfl, HK⟩ := hrel
    clear HR
    by_cases hlt : k < n
    · rcases HC.out with h0 | ⟨b, off, rfl, hcell⟩
      · exfalso; rw [HN.out, h0] at hlt; simp at hlt
      have hc := hcell k hlt
      clear hcell
      have hK := HK.out
      rw [show n - k = (n - (k + 1)) + 1 by omega] at hK
      clear HK
      cases hb : inB (l.getD k 0) lo hi with
      | true =>
        have HK := Lib.hid (allFrom_yes hK hb); clear hK
        generalize l.getD k 0 = x at hc hb
        have HB := Lib.hid hb; clear hb
        go_wp2_with (go_at_call 107; refine (l1In_any _ _ _ _).mono ?_; rintro e w' ⟨rfl, rfl⟩; rw [HB.out])
        go_round
        case rel => exact ⟨k + 1, by omega, by go_num, HK.out⟩
        case measure => simp [intOf]; omega
      | false =>
        have HK := Lib.hid (allFrom_no hK hb); clear hK
        generalize l.getD k 0 = x at hc hb
        have HB := Lib.hid hb; clear hb
        go_wp2_with (go_at_call 107; refine (l1In_any _ _ _ _).mono ?_; rintro e w' ⟨rfl, rfl⟩; rw [HB.out])
        go_ret
        exact ⟨by rw [HK.out]; rfl, rfl⟩
    · obtain rfl : k = n := by omega
      go_wp2
      go_ret
      have hK := HK.out
      rw [Nat.sub_self] at hK
      exact ⟨by rw [← hK]; rfl, rfl⟩

theorem run_push {m : Nat → Nat} {f k : Nat} {st : List Nat} {R : Bool} (h : stackRun m (f + 1) k st = R) (h1 : k < m k) (h2 : m (m k) = k) : stackRun m f (k + 1) (k :: st) = R := by
  rw [stackRun, if_pos ⟨h1, h2⟩] at h; exact h
theorem run_pop {m : Nat → Nat} {f k t : Nat} {st : List Nat} {R : Bool} (h : stackRun m (f + 1) k (t :: st) = R) (h1 : m k < k) (h2 : t = m k) : stackRun m f (k + 1) st = R := by
  rw [stackRun, if_neg (by omega), if_pos ⟨h1, by simp [h2]⟩] at h; exact h
theorem run_stop {m : Nat → Nat} {f k : Nat} {st : List Nat} {R : Bool} (h : stackRun m (f + 1) k st = R) (h1 : ¬ (k < m k ∧ m (m k) = k)) (h2 : ¬ (m k < k ∧ st.head? = some (m k))) : R = false := by
  rw [stackRun, if_neg h1, if_neg h2] at h; exact h.symm

def nats (l : List Nat) : List Int := l.map fun (t : Nat) => (t : Int)

set_option maxHeartbeats 1000000 in
theorem ahGood_run (v : Value) (l : List Int) (R : Bool) (w : World) (h : Rd w v l) (hev : l.length % 2 = 0) (h12 : l.length ≤ 12) (hr : rangeB l = true) (hR : stackRun (par l) l.length 0 [] = R) :
    Calls Try.prog 46 #[v] w (Tells w R) := by
  have hall := l1All_any v l 0 ((l.length : Int) - 1) true
  have HRng := Lib.hid ((allFrom_iff _ _ _).1 hr); clear hr
  obtain ⟨a, c, rfl, hlc, hcm, hnc, hrd⟩ := h
  have hall' : ∀ w, Rd w (.slice a l.length c) l → Calls Try.prog 86 #[.slice a l.length c, .int .i64 0, .int .i64 ((l.length : Int) - 1)] w (Says w true) := fun w hh => hall w hh ((allFrom_iff _ _ _).2 HRng.out)
  have hrd0 : Rd w (.slice a l.length c) l := ⟨a, c, rfl, hlc, hcm, hnc, hrd⟩
  clear hall
  obtain ⟨n, hn⟩ : ∃ n, n = l.length := ⟨_, rfl⟩
  rw [← hn] at hrd hlc hR hev h12 hall' hrd0 ⊢
  unfold maxLen at hcm
  have HN := Lib.hid hn; clear hn
  have HC := Lib.hid hrd; clear hrd
  have HR := Lib.hid hR; clear hR
  have HA := Lib.hid hall'; clear hall'
  have HRD := Lib.hid hrd0; clear hrd0
  have hev2 : (n : Int) % 2 = 0 := by omega
  go_enter Try.func46, Try.ntmps46
  go_wp2_with (go_at_call 86; refine (HA.out _ HRD.out).mono ?_; rintro e w' ⟨rfl, rfl⟩)
  clear hev hev2 HA HRD
  go_loopw [3, 25] (fun o i wr => ∃ (k : Nat) (st : List Nat), k ≤ n ∧ st.length ≤ k ∧ i = .int .i64 k ∧ Rd wr o (nats st) ∧ Below w.heap.size w wr ∧ Hid (stackRun (par l) (n - k) k st = R)) (fun _ i _ => n - (intOf i).toNat)
  case atStart => exact ⟨0, [], by omega, by simp, rfl, (Own.nil 0 w).rd, Below.refl _ _, HR.out⟩
  case round =>
    obtain ⟨k, st, hk, hst, rfl, hrdo, hbel, HK⟩ := hrel
    clear HR
    by_cases hlt : k < n
    · rcases HC.out with h0 | ⟨b, off, rfl, hcell⟩
      · exfalso; rw [HN.out, h0] at hlt; simp at hlt
      have hbw : ∀ t, t < n → wr.cell? ⟨b, off + t, none⟩ = some (.int .i64 (l.getD t 0)) := fun t ht =>
        (hbel.cell (p := ⟨b, off + t, none⟩) (World.block_lt_of_cell? w _ (hcell t ht))).trans (hcell t ht)
      have hr1 := inB_iff.1 (HRng.out k (by omega) (by have := HN.out; omega))
      have e1 := par_int hr1.1
      obtain ⟨j, hj⟩ : ∃ j, j = par l k := ⟨_, rfl⟩
      have hjn : j < n := by have := HN.out; omega
      have hr2 := inB_iff.1 (HRng.out j (by omega) (by have := HN.out; omega))
      have e2 := par_int hr2.1
      obtain ⟨jj, hjj⟩ : ∃ jj, jj = par l j := ⟨_, rfl⟩
      have hc1 := hbw k hlt
      rw [← e1, ← hj] at hc1
      have hc2 := hbw j hjn
      rw [← e2, ← hjj] at hc2
      have hK := HK.out
      rw [show n - k = (n - (k + 1)) + 1 by omega] at hK
      have hsz : w.heap.size ≤ wr.heap.size := hbel.size
      clear HK hbw hcell e1 e2 hr1 hr2
      have HJ := Lib.hid hj; clear hj
      have HJJ := Lib.hid hjj; clear hjj
      by_cases h1 : k < j
      · by_cases h2 : jj = k
        · have HK := Lib.hid (run_push hK (by rw [← HJ.out]; exact h1) (by rw [← HJ.out, ← HJJ.out]; exact h2)); clear hK
          rw [h2] at hc2
          clear HJJ h2
          have hrd2 := hrdo.below (Below.alloc1 wr (.cells #[.int .i64 (k : Int)] 3))
          go_wp2_with (at_builtin; refine wp_append _ rfl _ _ rfl wr.heap.size _ _ [(k : Int)] (nats st) rfl rfl (Own.lit1 _ _ _ (Nat.le_refl _)) hrd2 (by simp [nats]; omega) (by simp) ?_; intro v' w1 hown hgr hbel1)
          have HREL : Hid (Rd w1 v' (nats (k :: st)) ∧ Below w.heap.size w w1) := ⟨hown.rd, (hbel.trans ((Below.refl _ _).alloc hsz _)).trans (hbel1.mono hsz)⟩
          clear hown hgr hbel1 hrdo hbel hrd2
          go_wp2
          go_roundw
          case rel => exact ⟨k + 1, k :: st, by omega, by simp; omega, by go_num, HREL.out.1, HREL.out.2, HK.out⟩
          case measure => simp [intOf]; omega
        · have HK := Lib.hid (run_stop hK (fun h => h2 (by rw [HJJ.out, HJ.out]; exact h.2)) (fun h => by have := HJ.out; omega)); clear hK
          have h3 : ((jj : Int) == (k : Int)) = false := by simp; omega
          go_wp2
          go_ret
          exact ⟨by rw [HK.out]; rfl, hbel⟩
      · by_cases h2 : j < k
        · obtain ⟨oa, oc, rfl, hol, hom, hon, hoc⟩ := hrdo
          cases st with
          | nil =>
            have HK := Lib.hid (run_stop hK (fun h => h1 (by rw [HJ.out]; exact h.1)) (fun h => by simp at h)); clear hK
            simp only [nats, List.map_nil, List.length_nil] at *
            have h3 : decide (k < j) = false := by simpa using h1
            go_wp2
            go_ret
            exact ⟨by rw [HK.out]; rfl, hbel⟩
          | cons t st' =>
            rcases hoc with h0 | ⟨ob, ooff, rfl, hocell⟩
            · simp [nats] at h0
            have hc3 := hocell 0 (by simp [nats])
            have htail : Rd wr (.slice (if oc = 1 then some ⟨ob, ooff, none⟩ else some ⟨ob, ooff + 1, none⟩) st'.length (oc - 1)) (nats st') := Rd.tail (by simp [nats]) hol hom hocell
            have e : (nats (t :: st')).length = st'.length + 1 := by simp [nats]
            rw [e] at hol ⊢
            have e0 : (nats (t :: st')).getD 0 0 = (t : Int) := by simp [nats]
            rw [e0, Nat.add_zero] at hc3
            clear hocell e e0
            have h4 : decide (k < j) = false := by simpa using h1
            have HT := Lib.hid htail; clear htail
            unfold maxLen at hom
            simp only [List.length_cons] at hst
            by_cases h3 : t = j
            · have HK := Lib.hid (run_pop hK (by rw [← HJ.out]; exact h2) (by rw [h3, HJ.out])); clear hK
              rw [h3] at hc3
              clear h3
              go_wp2
              go_roundw
              case rel => exact ⟨k + 1, st', by omega, by omega, by go_num, HT.out, hbel, HK.out⟩
              case measure => simp [intOf]; omega
            · have HK := Lib.hid (run_stop hK (fun h => h1 (by rw [HJ.out]; exact h.1)) (fun h => by simp at h; exact h3 (by rw [HJ.out]; exact h.2))); clear hK
              have h5 : ((t : Int) == (j : Int)) = false := by simp; omega
              go_wp2
              go_ret
              exact ⟨by rw [HK.out]; rfl, hbel⟩
        · have HK := Lib.hid (run_stop hK (fun h => h1 (by rw [HJ.out]; exact h.1)) (fun h => h2 (by rw [HJ.out]; exact h.1))); clear hK
          have h3 : decide (k < j) = false := by simpa using h1
          have h4 : decide (j < k) = false := by simpa using h2
          go_wp2
          go_ret
          exact ⟨by rw [HK.out]; rfl, hbel⟩
    · obtain rfl : k = n := by omega
      go_wp2
      go_ret
      have hK := HK.out
      rw [Nat.sub_self] at hK
      exact ⟨by rw [← hK]; rfl, hbel⟩

set_option maxHeartbeats 400000 in
theorem ahGood_no (v : Value) (l : List Int) (w : World) (h : Rd w v l) (hc : l.length % 2 = 1 ∨ 12 < l.length ∨ rangeB l = false) (hl : l.length ≤ 1048576) :
    Calls Try.prog 46 #[v] w (Tells w false) := by
  have hall' := fun w hh hR => l1All_any v l 0 ((l.length : Int) - 1) false w hh hR
  have hrd0 := h
  obtain ⟨a, c, rfl, hlc, hcm, hnc, hrd⟩ := h
  obtain ⟨n, hn⟩ : ∃ n, n = l.length := ⟨_, rfl⟩
  unfold rangeB at hc
  rw [← hn] at hlc hc hall' hrd0 hl ⊢
  unfold maxLen at hcm
  have HA := Lib.hid hall'; clear hall'
  have HRD := Lib.hid hrd0; clear hrd0 hrd hn hnc
  by_cases h1 : n % 2 = 1
  · have h2 : (n : Int) % 2 = 1 := by omega
    clear hc h1
    go_enter Try.func46, Try.ntmps46
    go_wp2_with fail
    go_ret
    exact ⟨rfl, Below.refl _ _⟩
  · have h2 : (n : Int) % 2 = 0 := by omega
    by_cases h3 : 12 < n
    · clear hc h1
      go_enter Try.func46, Try.ntmps46
      go_wp2_with fail
      go_ret
      exact ⟨rfl, Below.refl _ _⟩
    · have h4 := HA.out w HRD.out (by rcases hc with hc | hc | hc <;> first | omega | exact hc)
      have H4 := Lib.hid h4; clear h4 hc h1
      go_enter Try.func46, Try.ntmps46
      go_wp2_with (go_at_call 86; refine H4.out.mono ?_; rintro e w' ⟨rfl, rfl⟩)
      go_ret
      exact ⟨rfl, Below.refl _ _⟩

theorem ahGood_any (v : Value) (l : List Int) (w : World) (h : Rd w v l) (hl : l.length ≤ 1048576) : Calls Try.prog 46 #[v] w (Tells w (goodB l)) := by
  by_cases h1 : l.length % 2 = 1
  · have e : goodB l = false := by simp [goodB, h1]
    rw [e]; exact ahGood_no v l w h (.inl h1) hl
  · by_cases h2 : 12 < l.length
    · have e : goodB l = false := by simp [goodB, show ¬ l.length ≤ 12 by omega]
      rw [e]; exact ahGood_no v l w h (.inr (.inl h2)) hl
    · cases h3 : rangeB l with
      | false =>
        have e : goodB l = false := by simp [goodB, h3]
        rw [e]; exact ahGood_no v l w h (.inr (.inr h3)) hl
      | true =>
        refine ahGood_run v l _ w h (by omega) (by omega) h3 ?_
        simp [goodB, h3, show l.length % 2 = 0 by omega, show l.length ≤ 12 by omega]

end Go.Proofs.Ytogjclmmjdhfeac
