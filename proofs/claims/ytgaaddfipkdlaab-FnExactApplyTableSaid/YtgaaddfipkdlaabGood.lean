/- The model's own test for arch systems. -/
import Derived.Test.YtgaaddfipkdlaabBase
import Derived.Test.YtgaaddfipkdlaabNum
import Derived.Deep.QuietTactic
import Derived.BigQuiet
namespace Go.Proofs.Ytgaaddfipkdlaab
open Go.RowKit
set_option linter.unusedSimpArgs false
set_option linter.unusedVariables false

def Says (w : World) (b : Bool) (e : Ending) (w' : World) : Prop := e = .returned (.bool b) ∧ w = w'
def Tells (w : World) (b : Bool) (e : Ending) (w' : World) : Prop := e = .returned (.bool b) ∧ Below w.heap.size w w'

set_option maxHeartbeats 400000 in
theorem l1All_any (v : Value) (l : List Int) (lo hi : Int) (R : Bool) (w : World) (h : Rd w v l) (hR : allFrom (fun i => inB (l.getD i 0) lo hi) 0 l.length = R) :
    Calls Try.prog 50 #[v, .int .i64 lo, .int .i64 hi] w (Says w R) := by
  obtain ⟨a, c, rfl, hlc, hcm, _, hrd⟩ := h
  obtain ⟨n, hn⟩ : ∃ n, n = l.length := ⟨_, rfl⟩
  rw [← hn] at hrd hlc hR ⊢
  unfold maxLen at hcm
  have HN := Lib.hid hn; clear hn
  have HC := Lib.hid hrd; clear hrd
  have HR := Lib.hid hR; clear hR
  go_enter Try.func50, Try.ntmps50
  go_wp2
  go_loop [11] (fun i => ∃ k : Nat, k ≤ n ∧ i = .int .i64 k ∧ Hid (allFrom (fun i => inB (l.getD i 0) lo hi) k (n - k) = R)) (fun i => n - (intOf i).toNat)
  case atStart => exact ⟨0, by omega, rfl, HR.out⟩
  case round =>
    obtain ⟨k, hk, rfl, HK⟩ := hrel
    clear HR
    by_cases hlt : k < n
    · rcases HC.out with h0 | ⟨b, off, rfl, hcell⟩
      · exfalso; rw [HN.out, h0] at hlt; simp at hlt
      have hc := hcell k hlt
      clear hcell
      have hK := HK.out
      rw [show n - k = (n - (k + 1)) + 1 by omega] at hK
      clear HK
      cases hb : inB (l.getD k 0) lo hi with
      | true =>
        have HK := Lib.hid (allFrom_yes hK hb); clear hK
        generalize l.getD k 0 = x at hc hb
        have HB := Lib.hid hb; clear hb
        go_wp2_with (go_at_call 66; refine (l1In_any _ _ _ _).mono ?_; rintro e w' ⟨rfl, rfl⟩; rw [HB.out])
        go_round
        case rel => exact ⟨k + 1, by omega, by go_num, HK.out⟩
        case measure => simp [intOf]; omega
      | false =>
        have HK := Lib.hid (allFrom_no hK hb); clear hK
        generalize l.getD k 0 = x at hc hb
        have HB := Lib.hid hb; clear hb
        go_wp2_with (go_at_call 66; refine (l1In_any _ _ _ _).mono ?_; rintro e w' ⟨rfl, rfl⟩; rw [HB.out])
        go_ret
        exact ⟨by rw [HK.out]; rfl, rfl⟩
    · obtain rfl : k = n := by omega
      go_wp2
      go_ret
      have hK := HK.out
      rw [Nat.sub_self] at hK
      exact ⟨by rw [← hK]; rfl, rfl⟩

theorem run_push {m : Nat → Nat} {f k : Nat} {st : List Nat} {R : Bool} (h : stackRun m (f + 1) k st = R) (h1 : k < m k) (h2 : m (m k) = k) : stackRun m f (k + 1) (k :: st) = R := by
  rw [stackRun, if_pos ⟨h1, h2⟩] at h; exact h
theorem run_pop {m : Nat → Nat} {f k t : Nat} {st : List Nat} {R : Bool} (h : stackRun m (f + 1) k (t :: st) = R) (h1 : m k < k) (h2 : t = m k) : stackRun m f (k + 1) st = R := by
  rw [stackRun, if_neg (by omega), if_pos ⟨h1, by simp [h2]⟩] at h; exact h
theorem run_stop {m : Nat → Nat} {f k : Nat} {st : List Nat} {R : Bool} (h : stackRun m (f + 1) k st = R) (h1 : ¬ (k < m k ∧ m (m k) = k)) (h2 : ¬ (m k < k ∧ st.head? = some (m k))) : R = false := by
  rw [stackRun, if_neg h1, if_neg h2] at h; exact h.symm

def nats (l : List Nat) : List Int := l.map fun (t : Nat) => (t : Int)

end Go.Proofs.Ytgaaddfipkdlaab
