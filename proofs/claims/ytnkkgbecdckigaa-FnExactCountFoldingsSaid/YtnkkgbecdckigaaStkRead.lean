/- readStack; slices.Index and slices.Contains on ints. -/
import Derived.Test.YtnkkgbecdckigaaStk
import Derived.Test.YtnkkgbecdckigaaRead
namespace Go.Proofs.Ytnkkgbecdckigaa
open Go.RowKit
set_option linter.unusedSimpArgs false
set_option linter.unusedVariables false

def idxI (l : List Int) (x : Int) : Int := if x ∈ l then (l.idxOf x : Int) else -1
theorem idxI_no {l : List Int} {x : Int} (h : x ∉ l) : idxI l x = -1 := if_neg h
theorem idxI_yes {l : List Int} {x : Int} (h : x ∈ l) : idxI l x = (l.idxOf x : Int) := if_pos h
theorem idxI_at {l : List Int} {x : Int} {k : Nat} (hk : k < l.length) (h0 : x ∉ l.take k) (e : l.getD k 0 = x) : idxI l x = (k : Int) := by
  have e' : l[k] = x := by rw [← e]; simp [List.getD, hk]
  have hm : x ∈ l := by rw [← e']; exact List.getElem_mem hk
  rw [idxI_yes hm]
  congr 1
  have hs : l = l.take k ++ l.drop k := (List.take_append_drop k l).symm
  rw [hs, List.idxOf_append, if_neg h0, List.length_take, Nat.min_eq_left (by omega), List.drop_eq_getElem_cons hk, e', List.idxOf_cons_self]
  omega
theorem take_no {l : List Int} {x : Int} {k : Nat} (hk : k < l.length) (h0 : x ∉ l.take k) (e : l.getD k 0 ≠ x) : x ∉ l.take (k + 1) := by
  rw [List.take_succ_eq_append_getElem hk]
  intro hm
  rcases List.mem_append.1 hm with h | h
  · exact h0 h
  · simp at h
    exact e (by rw [h]; simp [List.getD, hk])

def IdxOut (w : World) (l : List Int) (x : Int) (e : Ending) (w' : World) : Prop := e = .returned (.int .i64 (idxI l x)) ∧ w = w'
def HasOut (w : World) (b : Bool) (e : Ending) (w' : World) : Prop := e = .returned (.bool b) ∧ w = w'

set_option maxHeartbeats 1000000 in
theorem index_any (v : Value) (l : List Int) (x : Int) (w : World) (h : Rd w v l) (hl : l.length ≤ 1000000) :
    Calls Try.prog 71 #[v, .int .i64 x] w (IdxOut w l x) := by
  obtain ⟨a, c, rfl, hlc, hcm, hnc, hrd⟩ := h
  obtain ⟨n, hn⟩ : ∃ n, n = l.length := ⟨_, rfl⟩
  rw [← hn] at hlc hl hrd ⊢
  unfold maxLen at hcm
  have HN := Lib.hid hn; have HC := Lib.hid hrd
  clear hn hrd hnc
  go_enter Try.func71, Try.ntmps71
  go_wp2
  go_loop [8] (fun i => ∃ k : Nat, k ≤ n ∧ i = .int .i64 k ∧ Hid (x ∉ l.take k)) (fun i => n - (intOf i).toNat)
  case atStart => exact ⟨0, by omega, rfl, Lib.hid (by simp)⟩
  case round =>
    obtain ⟨k, hk, rfl, HK⟩ := hrel
    by_cases hlt : k < n
    · rcases HC.out with h0 | ⟨bb, off, rfl, hcell⟩
      · exfalso; rw [HN.out, h0] at hlt; simp at hlt
      have hsrc := hcell k hlt
      by_cases he : l.getD k 0 = x
      · have HI := Lib.hid (idxI_at (by rw [← HN.out]; exact hlt) HK.out he)
        rw [he] at hsrc
        clear hcell he
        go_wp2
        go_ret
        exact ⟨by rw [HI.out]; rfl, rfl⟩
      · have HT := Lib.hid (take_no (by rw [← HN.out]; exact hlt) HK.out he)
        generalize l.getD k 0 = y at hsrc he
        have h1 : (x == y) = false := by simp; omega
        clear hcell he
        go_wp2
        go_round
        case rel => exact ⟨k + 1, by omega, by go_num, HT⟩
        case measure => simp [intOf]; omega
    · obtain rfl : k = n := by omega
      have HI : Hid (idxI l x = -1) := idxI_no (by have := HK.out; rw [HN.out, List.take_length] at this; exact this)
      go_wp2
      go_ret
      exact ⟨by rw [HI.out]; rfl, rfl⟩

set_option maxHeartbeats 1000000 in
theorem contains_any (v : Value) (l : List Int) (x : Int) (w : World) (h : Rd w v l) (hl : l.length ≤ 1000000) :
    Calls Try.prog 59 #[v, .int .i64 x] w (HasOut w (decide (x ∈ l))) := by
  have H := Lib.hid h; clear h
  by_cases hm : x ∈ l
  · have HD : Hid (decide (x ∈ l) = true) := decide_eq_true hm
    have hi := idxI_yes hm
    generalize l.idxOf x = k at hi
    have HI := Lib.hid hi; clear hi hm
    go_enter Try.func59, Try.ntmps59
    go_wp2_with (go_at_call 71; refine (index_any _ l x _ H.out hl).mono ?_; rintro e w' ⟨rfl, rfl⟩; rw [HI.out])
    go_ret
    exact ⟨by rw [HD.out]; rfl, rfl⟩
  · have HD : Hid (decide (x ∈ l) = false) := decide_eq_false hm
    have HI := Lib.hid (idxI_no hm); clear hm
    go_enter Try.func59, Try.ntmps59
    go_wp2_with (go_at_call 71; refine (index_any _ l x _ H.out hl).mono ?_; rintro e w' ⟨rfl, rfl⟩; rw [HI.out])
    go_ret
    exact ⟨by rw [HD.out]; rfl, rfl⟩

theorem run_loadStk (w : World) (g : Nat) (l : List Int) (hl : l.length ≤ 8) (hg : StkIn w g l) : (loadVar 42 ⟨g, 0, none⟩).run Try.prog w = .ok (.agg (stkC l)) w :=
  run_loadVar_row w g _ _ (stkC l) _ _ hg Try.underlying42 rfl (by rw [stk_info, stkC_size hl])

theorem results_rstk (tmps : Array Value) (w : World) (g : Nat) (l : List Int) (b : Bool) (hl : l.length ≤ 8) (hg : StkIn w g l) (h2 : tmps.getD 2 undef = .pointer (some ⟨g, 0, none⟩)) (h3 : tmps.getD 3 undef = .bool b) :
    (results Try.f36 tmps).run Try.prog w = .ok (.tuple #[.agg (stkC l), .bool b]) w := by
  have h2' : tmps[2]?.getD undef = .pointer (some ⟨g, 0, none⟩) := by simpa using h2
  have h3' : tmps[3]?.getD undef = .bool b := by simpa using h3
  have hr : Try.f36.results = #[.cell 2 42, .tmp 3] := by kernel_rfl
  simp [results, hr, h2', h3', asAddr, run_loadStk w g l hl hg]

def keepIf (R : Bool) (l : List Int) : List Int := if R then l else []
theorem keepIf_yes (l : List Int) : keepIf true l = l := rfl
theorem keepIf_no (l : List Int) : keepIf false l = [] := rfl
def StkOut (w : World) (l : List Int) (b : Bool) (e : Ending) (w' : World) : Prop := e = .returned (.tuple #[.agg (stkC l), .bool b]) ∧ Below w.heap.size w w'

set_option maxHeartbeats 1000000 in
theorem readStack_len (v : Value) (l : List Int) (w : World) (h : Rd w v l) (hc : l.length < 1 ∨ 8 < l.length) :
    Calls Try.prog 36 #[v] w (StkOut w [] false) := by
  obtain ⟨a, c, rfl, hlc, hcm, hnc, hrd⟩ := h
  obtain ⟨n, hn⟩ : ∃ n, n = l.length := ⟨_, rfl⟩
  rw [← hn] at hlc hc ⊢
  unfold maxLen at hcm
  clear hrd hn hnc
  rcases hc with h1 | h1
  · obtain rfl : n = 0 := by omega
    clear h1
    go_enter Try.func36, Try.ntmps36
    go_wp2
    refine bodyPost_ret (results_rstk _ _ w.heap.size [] false (by simp) ?_ rfl rfl) rfl ⟨rfl, Below.alloc1 _ _⟩
    exact heap_alloc_new w _
  · have h2 : ¬ (n : Int) < 1 := by omega
    go_enter Try.func36, Try.ntmps36
    go_wp2
    refine bodyPost_ret (results_rstk _ _ w.heap.size [] false (by simp) ?_ rfl rfl) rfl ⟨rfl, Below.alloc1 _ _⟩
    exact heap_alloc_new w _

/-- the array filled from the list -/
theorem splice_stk (l : List Int) (hl : l.length ≤ 8) (n : Nat) (hn : n = l.length) : splice [.int .i64 0, .int .i64 0, .int .i64 0, .int .i64 0, .int .i64 0, .int .i64 0, .int .i64 0, .int .i64 0, .int .i64 (n : Int)] 0 (ints l) = stkL l := by
  subst hn
  show splice (ints (List.replicate 8 0) ++ [.int .i64 (l.length : Int)]) 0 (ints l) = stkL l
  unfold splice stkL ints
  have e : List.replicate 8 (0 : Int) = List.replicate l.length 0 ++ List.replicate (8 - l.length) 0 := by
    rw [List.replicate_append_replicate]; congr 1; omega
  rw [e, List.map_append, List.map_append, List.map_replicate, List.append_assoc, List.length_map, Nat.zero_add, List.drop_left' (by simp)]
  simp

theorem stk0_of {w w1 : World} (h : Below (w.heap.size + 1) (w.alloc (.cells #[.int .i64 0, .int .i64 0, .int .i64 0, .int .i64 0, .int .i64 0, .int .i64 0, .int .i64 0, .int .i64 0, .int .i64 0] 42)) w1) : StkIn w1 w.heap.size [] :=
  StkIn.under (show StkIn (w.alloc (.cells (stkC []) 42)) w.heap.size [] from heap_alloc_new w _) h (Nat.lt_succ_self _)

theorem read_below1 {w w1 w3 : World} {A : Obj} (h1 : Below (w.heap.size + 1) (w.alloc A) w1) (h3 : w1.grownBy w3 (some w.heap.size)) : Below w.heap.size w w3 := by
  have hs : w.heap.size ≤ w1.heap.size := by have := h1.size; simp at this; omega
  exact ((Below.alloc1 w A).trans (h1.mono (Nat.le_succ _))).grown h3 (by omega) (by intro k hk; simp at hk; omega)

set_option maxHeartbeats 2000000 in
theorem readStack_run (v : Value) (l : List Int) (R : Bool) (w : World) (h : Rd w v l) (h1 : 1 ≤ l.length) (h8 : l.length ≤ 8) (hR : hasAllB l = R) :
    Calls Try.prog 36 #[v] w (StkOut w (keepIf R l) R) := by
  have h0 := h
  obtain ⟨a, c, rfl, hlc, hcm, hnc, hrd⟩ := h
  have hsrc : 0 < (ints l).length → ∃ ad, a = some ad ∧ ∀ j v, (ints l)[j]? = some v → w.cell? (ad.add j) = some v := by
    intro hpos
    rcases hrd with rfl | ⟨b, off, rfl, hcell⟩
    · simp [ints] at hpos
    · refine ⟨_, rfl, fun j v hj => ?_⟩
      have hjl : j < l.length := by
        have := (List.getElem?_eq_some_iff.1 hj).1
        simpa [ints] using this
      rw [Addr.add_lit, hcell j hjl]
      simp [ints, List.getElem?_eq_getElem hjl] at hj
      simp [List.getD, List.getElem?_eq_getElem hjl, hj]
  unfold hasAllB at hR
  obtain ⟨n, hn⟩ : ∃ n, n = l.length := ⟨_, rfl⟩
  have hspl := splice_stk l h8 n hn
  have hlen : (ints l).length = Nat.min n 8 := by rw [ints_length, ← hn]; exact (Nat.min_eq_left (by omega)).symm
  rw [← hn] at hlc h8 h1 h0 hR ⊢
  unfold maxLen at hcm
  have HN := Lib.hid hn; clear hn hrd
  have H0 := Lib.hid h0; clear h0
  have HS := Lib.hid hspl; clear hspl
  have HR := Lib.hid hR; clear hR
  have HL := Lib.hid hlen; clear hlen
  have HN8 : Hid (l.length ≤ 8) := by rw [← HN.out]; exact h8
  have HL8 : Hid ((ints l).length ≤ 8) := by rw [ints_length, ← HN.out]; exact h8
  have HSRC := Lib.hid hsrc; clear hsrc
  have h2 : ¬ (n : Int) < 1 := by omega
  have hall := run_stamps_all
  go_enter Try.func36, Try.ntmps36
  go_wp2_with ((with_reducible refine wpList_copy_splice rfl (.tmp 19) (.tmp 20) 22 22 rfl 3 Try.underlying22 infoInt1 _ _ _ _ _ _ rfl rfl (w.heap.size + 1) 0 [.int .i64 0, .int .i64 0, .int .i64 0, .int .i64 0, .int .i64 0, .int .i64 0, .int .i64 0, .int .i64 0, .int .i64 (n : Int)] 42 (heap_alloc2_new w _ _) (ints l) HL.out (fun hp => ⟨rfl, (HSRC.out hp).imp fun ad h => ⟨h.1, fun j v hj => cell_two _ _ (h.2 j v hj)⟩⟩) (by have := HL8.out; simp only [List.length_cons, List.length_nil]; omega) (ints_one _) (w.heap.size + 1) _ (below_two w _ _) (Nat.le_refl _) ?_); (intro w1 hcp hbel1; have hstk1 : StkIn w1 (w.heap.size + 1) l := (by unfold StkIn stkC; rw [← HS.out]; exact hcp.out); have hstk0 : StkIn w1 w.heap.size [] := stk0_of hbel1; have hcs := hstk1.size HN8.out; rw [← HN.out] at hcs))
  have hrd1 : Rd w1 (.slice a n c) l := Rd.below (Rd.below H0.out (Below.alloc1 _ _)) ((hbel1.mono (by simp)))
  have H1 := Lib.hid hrd1; clear hrd1 hall
  go_loop [24] (fun i => ∃ k : Nat, k ≤ n ∧ i = .int .i64 k ∧ Hid (allFrom (fun s => decide ((s : Int) ∈ l)) k (n - k) = R)) (fun i => n - (intOf i).toNat)
  case atStart => exact ⟨0, by omega, rfl, HR.out⟩
  case round =>
    obtain ⟨k, hk, rfl, HK⟩ := hrel
    clear HR
    by_cases hlt : k < n
    · have hK := HK.out
      rw [show n - k = (n - (k + 1)) + 1 by omega] at hK
      clear HK
      cases hm : decide ((k : Int) ∈ l) with
      | true =>
        have HK := Lib.hid (allFrom_yes hK hm); have HM := Lib.hid hm; clear hK hm
        go_wp2_with (go_at_call 59; refine (contains_any _ l k _ H1.out (by have := HN8.out; omega)).mono ?_; rintro e w' ⟨rfl, rfl⟩; rw [HM.out])
        go_round
        case rel => exact ⟨k + 1, by omega, by go_num, HK.out⟩
        case measure => simp [intOf]; omega
      | false =>
        have HK := Lib.hid (allFrom_no hK hm); have HM := Lib.hid hm; clear hK hm
        go_wp2_with (first
          | (go_at_call 59; refine (contains_any _ l k _ H1.out (by have := HN8.out; omega)).mono ?_; rintro e w' ⟨rfl, rfl⟩; rw [HM.out])
          | ((with_reducible refine wp_storeStk0 rfl (.tmp 2) (.tmp 31) rfl w.heap.size [] (Nat.zero_le _) rfl rfl (by assumption) ?_); intro w3 hs3 hg3))
        rw [HK.out, keepIf_no]
        exact bodyPost_ret (results_rstk _ _ w.heap.size [] false (Nat.zero_le _) hs3 rfl rfl) rfl ⟨rfl, read_below1 hbel1 hg3⟩
    · obtain rfl : k = n := by omega
      have hK := HK.out
      rw [Nat.sub_self] at hK
      have HR : Hid (R = true) := hK.symm
      clear hK HK
      go_wp2_with (first
        | (with_reducible refine wp_loadStk rfl (.tmp 4) rfl (w.heap.size + 1) l HN8.out rfl (by assumption) ?_)
        | ((with_reducible refine wp_storeStk rfl (.tmp 2) (.tmp 33) rfl w.heap.size l [] HN8.out (Nat.zero_le _) rfl rfl (by assumption) ?_); intro w3 hs3 hg3))
      rw [HR.out, keepIf_yes]
      exact bodyPost_ret (results_rstk _ _ w.heap.size l true HN8.out hs3 rfl rfl) rfl ⟨rfl, read_below1 hbel1 hg3⟩

/-- readStack, at any list -/
theorem readStack_any (v : Value) (l : List Int) (w : World) (h : Rd w v l) : Calls Try.prog 36 #[v] w (StkOut w (keepIf (stackB l) l) (stackB l)) := by
  unfold stackB
  by_cases h1 : 1 ≤ l.length
  · by_cases h2 : l.length ≤ 8
    · simp only [h1, h2, decide_true, Bool.true_and]
      exact readStack_run v l _ w h h1 h2 rfl
    · simp only [h2, decide_false, Bool.and_false, Bool.false_and]
      exact readStack_len v l w h (.inr (by omega))
  · simp only [h1, decide_false, Bool.false_and]
    exact readStack_len v l w h (.inl (by omega))

theorem readStack_yes (v : Value) (l : List Int) (w : World) (h : Rd w v l) (hg : stackB l = true) : Calls Try.prog 36 #[v] w (StkOut w l true) := by
  have := readStack_any v l w h
  rw [hg] at this
  exact this
theorem readStack_no (v : Value) (l : List Int) (w : World) (h : Rd w v l) (hg : stackB l = false) : Calls Try.prog 36 #[v] w (StkOut w [] false) := by
  have := readStack_any v l w h
  rw [hg] at this
  exact this

/-- 's, ok := readStack(p)': the stack is stored into a variable that has just been laid -/
theorem wp_storeNewStk {ops : Array Oper} {rest : List Oper} {o : Oper} {a : Act} {Q : Exit → Act → World → Prop} (hgd : o.guard = none) (x y : Operand) (ho : o.op = .store 42 x y)
    (w : World) (l : List Int) (hl : l.length ≤ 8) (hx : a.eval x = .pointer (some ⟨w.heap.size, 0, none⟩)) (hy : a.eval y = .agg (stkC l))
    (h : ∀ w', StkIn w' w.heap.size l → Below w.heap.size w w' → wpList Try.prog ops Q rest (a.put o.dst undef) w') : wpList Try.prog ops Q (o :: rest) a (w.alloc (.cells #[.int .i64 0, .int .i64 0, .int .i64 0, .int .i64 0, .int .i64 0, .int .i64 0, .int .i64 0, .int .i64 0, .int .i64 0] 42)) := by
  refine wp_storeStk hgd x y ho w.heap.size l [] hl (by simp) hx hy (show StkIn (w.alloc (.cells (stkC []) 42)) w.heap.size [] from heap_alloc_new w _) ?_
  intro w' hs hg
  exact h w' hs ((Below.alloc1 w _).grown hg (by simp) (by intro k hk; simp at hk; omega))

end Go.Proofs.Ytnkkgbecdckigaa
