/- slices.Index and slices.Contains on ints. -/
import Derived.Test.YtogjclmmjdhfeabSlice
import Derived.Deep.QuietTactic
import Derived.BigQuiet
namespace Go.Proofs.Ytogjclmmjdhfeab
open Go.RowKit
set_option linter.unusedSimpArgs false
set_option linter.unusedVariables false

def idxI (l : List Int) (x : Int) : Int := if x ∈ l then (l.idxOf x : Int) else -1
theorem idxI_no {l : List Int} {x : Int} (h : x ∉ l) : idxI l x = -1 := if_neg h
theorem idxI_yes {l : List Int} {x : Int} (h : x ∈ l) : idxI l x = (l.idxOf x : Int) := if_pos h
theorem idxI_at {l : List Int} {x : Int} {k : Nat} (hk : k < l.length) (h0 : x ∉ l.take k) (e : l.getD k 0 = x) : idxI l x = (k : Int) := by
  have e' : l[k] = x := by rw [← e]; simp [List.getD, hk]
  have hm : x ∈ l := by rw [← e']; exact List.getElem_mem hk
  rw [idxI_yes hm]
  congr 1
  have hs : l = l.take k ++ l.drop k := (List.take_append_drop k l).symm
  rw [hs, List.idxOf_append, if_neg h0, List.length_take, Nat.min_eq_left (by omega), List.drop_eq_getElem_cons hk, e', List.idxOf_cons_self]
  omega
theorem take_no {l : List Int} {x : Int} {k : Nat} (hk : k < l.length) (h0 : x ∉ l.take k) (e : l.getD k 0 ≠ x) : x ∉ l.take (k + 1) := by
  rw [List.take_succ_eq_append_getElem hk]
  intro hm
  rcases List.mem_append.1 hm with h | h
  · exact h0 h
  · simp at h
    exact e (by rw [h]; simp [List.getD, hk])

def IdxOut (w : World) (l : List Int) (x : Int) (e : Ending) (w' : World) : Prop := e = .returned (.int .i64 (idxI l x)) ∧ w = w'
def HasOut (w : World) (b : Bool) (e : Ending) (w' : World) : Prop := e = .returned (.bool b) ∧ w = w'

set_option maxHeartbeats 1000000 in
theorem index_any (v : Value) (l : List Int) (x : Int) (w : World) (h : Rd w v l) (hl : l.length ≤ 1000000) :
    Calls Try.prog 229 #[v, .int .i64 x] w (IdxOut w l x) := by
  obtain ⟨a, c, rfl, hlc, hcm, hnc, hrd⟩ := h
  obtain ⟨n, hn⟩ : ∃ n, n = l.length := ⟨_, rfl⟩
  rw [← hn] at hlc hl hrd ⊢
  unfold maxLen at hcm
  have HN := Lib.hid hn; have HC := Lib.hid hrd
  clear hn hrd hnc
  go_enter Try.func229, Try.ntmps229
  go_wp2
  go_loop [8] (fun i => ∃ k : Nat, k ≤ n ∧ i = .int .i64 k ∧ Hid (x ∉ l.take k)) (fun i => n - (intOf i).toNat)
  case atStart => exact ⟨0, by omega, rfl, Lib.hid (by simp)⟩
  case round =>
    obtain ⟨k, hk, rfl, HK⟩ := hrel
    by_cases hlt : k < n
    · rcases HC.out with h0 | ⟨bb, off, rfl, hcell⟩
      · exfalso; rw [HN.out, h0] at hlt; simp at hlt
      have hsrc := hcell k hlt
      by_cases he : l.getD k 0 = x
      · have HI := Lib.hid (idxI_at (by rw [← HN.out]; exact hlt) HK.out he)
        rw [he] at hsrc
        clear hcell he
        go_wp2
        go_ret
        exact ⟨by rw [HI.out]; rfl, rfl⟩
      · have HT := Lib.hid (take_no (by rw [← HN.out]; exact hlt) HK.out he)
        generalize l.getD k 0 = y at hsrc he
        have h1 : (x == y) = false := by simp; omega
        clear hcell he
        go_wp2
        go_round
        case rel => exact ⟨k + 1, by omega, by go_num, HT⟩
        case measure => simp [intOf]; omega
    · obtain rfl : k = n := by omega
      have HI : Hid (idxI l x = -1) := idxI_no (by have := HK.out; rw [HN.out, List.take_length] at this; exact this)
      go_wp2
      go_ret
      exact ⟨by rw [HI.out]; rfl, rfl⟩

set_option maxHeartbeats 1000000 in
theorem contains_any (v : Value) (l : List Int) (x : Int) (w : World) (h : Rd w v l) (hl : l.length ≤ 1000000) :
    Calls Try.prog 226 #[v, .int .i64 x] w (HasOut w (decide (x ∈ l))) := by
  have H := Lib.hid h; clear h
  by_cases hm : x ∈ l
  · have HD : Hid (decide (x ∈ l) = true) := decide_eq_true hm
    have hi := idxI_yes hm
    generalize l.idxOf x = k at hi
    have HI := Lib.hid hi; clear hi hm
    go_enter Try.func226, Try.ntmps226
    go_wp2_with (go_at_call 229; refine (index_any _ l x _ H.out hl).mono ?_; rintro e w' ⟨rfl, rfl⟩; rw [HI.out])
    go_ret
    exact ⟨by rw [HD.out]; rfl, rfl⟩
  · have HD : Hid (decide (x ∈ l) = false) := decide_eq_false hm
    have HI := Lib.hid (idxI_no hm); clear hm
    go_enter Try.func226, Try.ntmps226
    go_wp2_with (go_at_call 229; refine (index_any _ l x _ H.out hl).mono ?_; rintro e w' ⟨rfl, rfl⟩; rw [HI.out])
    go_ret
    exact ⟨by rw [HD.out]; rfl, rfl⟩
end Go.Proofs.Ytogjclmmjdhfeab
