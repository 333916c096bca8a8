/- TurnFolding, ReverseFolding, RenumberFolding in the program. -/
import Derived.Test.YtnkkgbecdckigaaMoved
import Derived.Test.YtnkkgbecdckigaaSlice
namespace Go.Proofs.Ytnkkgbecdckigaa
open Go.RowKit
set_option linter.unusedSimpArgs false
set_option linter.unusedVariables false

def turnF (l : List Int) (b : Int) : List Int := movedL (shiftTo b (l.length : Int)) l l.length
def revF (l : List Int) : List Int := movedL (fun i => (l.length : Int) - 1 - i) l l.length
theorem turnF_length (l : List Int) (b : Int) : (turnF l b).length = l.length := movedL_length _ _ _
theorem revF_length (l : List Int) : (revF l).length = l.length := movedL_length _ _ _
/-- renumbered so far -/
def renK (l : List Int) (k : Nat) : List Int := (l.take k).map (fun x => (l.length : Int) - 1 - x) ++ l.drop k
def renF (l : List Int) : List Int := l.map (fun x => (l.length : Int) - 1 - x)
theorem renK_length (l : List Int) (k : Nat) : (renK l k).length = l.length := by simp [renK]; omega
theorem renF_length (l : List Int) : (renF l).length = l.length := by simp [renF]
theorem renK_zero (l : List Int) : renK l 0 = l := by simp [renK]
theorem renK_all (l : List Int) : renK l l.length = renF l := by simp [renK, renF]
theorem renK_succ (l : List Int) (k : Nat) (hk : k < l.length) : renK l (k + 1) = (renK l k).set k ((l.length : Int) - 1 - l.getD k 0) := by
  unfold renK
  rw [List.take_succ_eq_append_getElem hk, List.drop_eq_getElem_cons hk, List.set_append_right _ _ (by simp; omega)]
  simp only [List.length_map, List.length_take, Nat.min_eq_left (Nat.le_of_lt hk), Nat.sub_self, List.set_cons_zero, List.map_append, List.map_cons, List.map_nil, List.append_assoc, List.singleton_append]
  rw [show l.getD k 0 = l[k] by simp [List.getD, hk]]

def ok_TurnFolding (l : List Int) (b : Int) : Bool := stackB l && inB b (-100) 100
def res_TurnFolding (l : List Int) (b : Int) : List Int := if stackB l && inB b (-100) 100 then turnF l b else []
def ok_ReverseFolding (l : List Int) : Bool := stackB l
def res_ReverseFolding (l : List Int) : List Int := if stackB l then revF l else []
def ok_RenumberFolding (l : List Int) : Bool := stackB l
def res_RenumberFolding (l : List Int) : List Int := if stackB l then renF l else []
theorem len_TurnFolding (l : List Int) (b : Int) : (res_TurnFolding l b).length ≤ 1000000 := by
  unfold res_TurnFolding
  split
  · next h => rw [turnF_length]; have := stack_len (by simp at h; exact h.1); omega
  · simp
theorem len_ReverseFolding (l : List Int) : (res_ReverseFolding l).length ≤ 1000000 := by
  unfold res_ReverseFolding
  split
  · next h => rw [revF_length]; have := stack_len h; omega
  · simp
theorem len_RenumberFolding (l : List Int) : (res_RenumberFolding l).length ≤ 1000000 := by
  unfold res_RenumberFolding
  split
  · next h => rw [renF_length]; have := stack_len h; omega
  · simp

theorem results_turned (tmps : Array Value) (w : World) (g : Nat) (l : List Int) (hl : l.length ≤ 8) (hg : StkIn w g l) (h : tmps.getD 4 undef = .pointer (some ⟨g, 0, none⟩)) :
    (results Try.f63 tmps).run Try.prog w = .ok (.agg (stkC l)) w := by
  have h' : tmps[4]?.getD undef = .pointer (some ⟨g, 0, none⟩) := by simpa using h
  have hr : Try.f63.results = #[.cell 4 42] := by kernel_rfl
  simp [results, hr, h', asAddr, run_loadStk w g l hl hg]

set_option maxHeartbeats 1000000 in
theorem turned_any (l : List Int) (b : Int) (w : World) (hs : stackB l = true) (hb0 : -100 ≤ b) (hb1 : b ≤ 100) :
    Calls Try.prog 63 #[.agg (stkC l), .int .i64 b] w (StkRet w (turnF l b)) := by
  have h8 := stack_len hs
  have hlast := stkC_last h8
  have h1 := (stack_facts hs).1
  have hm := Lib.hid (fun w => moved_shift (shiftTo b (l.length : Int)) (.agg #[.int .i64 b, .int .i64 (l.length : Int)]) l w h8 (fun i w i0 i1 => shift_place b (l.length : Int) i w hb0 hb1 (by omega) (by omega) i0 (by omega)) (fun k hk => shiftTo_in b _ k (by omega)))
  have HL8 : Hid ((turnF l b).length ≤ 8) := by show _ ≤ 8; rw [turnF_length]; exact h8
  have HS := Lib.hid (show StkIn ((w.alloc (.cells (stkC l) 42)).alloc (.cells #[.int .i64 0, .int .i64 0, .int .i64 0, .int .i64 0, .int .i64 0, .int .i64 0, .int .i64 0, .int .i64 0, .int .i64 0] 42)) w.heap.size l from StkIn.below (heap_alloc_new w _) (Below.alloc1 _ _))
  have hz := StkIn.zero (w.alloc (.cells (stkC l) 42))
  rw [World.size_alloc] at hz
  have HZ := Lib.hid hz
  have H8 := Lib.hid h8
  change Hid (∀ w, Calls _ _ _ w (StkRet w (turnF l b))) at hm
  obtain ⟨n, hn⟩ : ∃ n, n = l.length := ⟨_, rfl⟩
  rw [← hn] at hlast hm h8
  clear hn hz hs h1
  go_enter Try.func63, Try.ntmps63
  go_wp2_with (first
    | (with_reducible refine wp_loadStk rfl (.tmp 2) rfl w.heap.size l H8.out rfl HS.out ?_)
    | (go_at_call 76; ((with_reducible refine (hm.out _).mono ?_); rintro e w1 ⟨rfl, hb1⟩; have hz1 := HZ.out.below hb1))
    | ((with_reducible refine wp_storeStk rfl (.tmp 4) (.tmp 11) rfl (w.heap.size + 1) (turnF l b) [] HL8.out (Nat.zero_le _) rfl rfl hz1 ?_); intro w2 hs2 hg2))
  refine bodyPost_ret (results_turned _ _ (w.heap.size + 1) (turnF l b) HL8.out hs2 rfl) rfl ⟨rfl, ?_⟩
  have hs1 := hb1.size
  simp only [World.size_alloc] at hs1
  exact ((((Below.alloc1 w _).alloc (by simp) _).trans (hb1.mono (by simp; omega)))).grown hg2 (by omega) (by intro k hk; simp at hk; omega)






end Go.Proofs.Ytnkkgbecdckigaa
