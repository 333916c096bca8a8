/- withLast: a number added at the end, for which the others make room. -/
import Derived.Test.YteeoepbbocdchaaWdMe
namespace Go.Proofs.Yteeoepbbocdchaa
open Go.RowKit
set_option linter.unusedSimpArgs false
set_option linter.unusedVariables false

def roomI (x y : Int) : Int := if y < x then y else y + 1
def lastL (l : List Int) (x : Nat) : List Int := l.map (roomI (x : Int)) ++ [(x : Int)]
theorem lastL_length (l : List Int) (x : Nat) : (lastL l x).length = l.length + 1 := by simp [lastL]
theorem lastL_get (l : List Int) (x k : Nat) (hk : k < l.length) : (lastL l x).getD k 0 = roomI (x : Int) (l.getD k 0) := by
  simp [lastL, List.getD, List.getElem?_append, hk]
theorem lastL_last (l : List Int) (x : Nat) : (lastL l x).getD l.length 0 = (x : Int) := by
  simp [lastL, List.getD, List.getElem?_append]
theorem lastL_end {l : List Int} (h : InRange l) : lastL l l.length = l ++ [(l.length : Int)] := by
  unfold lastL
  congr 1
  refine ext_getD (by simp) fun i hi => ?_
  have hi' : i < l.length := by simpa using hi
  have := h i hi'
  have e : (l.map (roomI (l.length : Int))).getD i 0 = roomI (l.length : Int) (l.getD i 0) := by simp [List.getD, hi']
  rw [e]
  unfold roomI
  rw [if_pos this.2]

theorem results_wl (tmps : Array Value) (w : World) (g : Nat) (p b : List Int) (hl : p.length ≤ 12) (hb : b.length = 12) (hg : WdIn w g p b) (h2 : tmps.getD 4 undef = .pointer (some ⟨g, 0, none⟩)) :
    (results Try.f92 tmps).run Try.prog w = .ok (.agg (wdC p b)) w := by
  have h2' : tmps[4]?.getD undef = .pointer (some ⟨g, 0, none⟩) := by simpa using h2
  have hr : Try.f92.results = #[.cell 4 72] := by kernel_rfl
  simp [results, hr, h2', asAddr, run_loadWd w g p b hl hb hg]

def WlOut (w : World) (p b : List Int) (e : Ending) (w' : World) : Prop := e = .returned (.agg (wdC p b)) ∧ Below w.heap.size w w'

set_option maxHeartbeats 8000000 in
theorem withLast_any (l : List Int) (x : Nat) (w : World) (hw : wordB l = true) (h11 : l.length ≤ 11) (hx : x ≤ l.length) :
    Calls Try.prog 92 #[.agg (wdC l (idxK l l.length)), .int .i64 (x : Int)] w (WlOut w (lastL l x) (idxW (lastL l x))) := by
  have hl : l.length ≤ 12 := by omega
  have hin : ∀ i, i < l.length → 0 ≤ l.getD i 0 ∧ l.getD i 0 < (l.length : Int) := (word_facts hw).2.1
  have hix := idxK_length l l.length
  have hwd : WdIn (w.alloc (.cells (wdC l (idxK l l.length)) 72)) w.heap.size l (idxK l l.length) := heap_alloc_new w _
  have B1 : Below w.heap.size w (w.alloc (.cells (wdC l (idxK l l.length)) 72)) := Below.alloc1 w _
  have hz0 := wd_new0 (w.alloc (.cells (wdC l (idxK l l.length)) 72))
  rw [World.size_alloc] at hz0
  have hwd2 := hwd.below (Below.alloc1 _ (.cells #[.int .i64 0, .int .i64 0, .int .i64 0, .int .i64 0, .int .i64 0, .int .i64 0, .int .i64 0, .int .i64 0, .int .i64 0, .int .i64 0, .int .i64 0, .int .i64 0, .int .i64 0, .int .i64 0, .int .i64 0, .int .i64 0, .int .i64 0, .int .i64 0, .int .i64 0, .int .i64 0, .int .i64 0, .int .i64 0, .int .i64 0, .int .i64 0, .int .i64 0] 72))
  have B2 := Below.step B1 (Below.alloc1 _ (.cells #[.int .i64 0, .int .i64 0, .int .i64 0, .int .i64 0, .int .i64 0, .int .i64 0, .int .i64 0, .int .i64 0, .int .i64 0, .int .i64 0, .int .i64 0, .int .i64 0, .int .i64 0, .int .i64 0, .int .i64 0, .int .i64 0, .int .i64 0, .int .i64 0, .int .i64 0, .int .i64 0, .int .i64 0, .int .i64 0, .int .i64 0, .int .i64 0, .int .i64 0] 72))
  have hz1 := wd_new0 ((w.alloc (.cells (wdC l (idxK l l.length)) 72)).alloc (.cells #[.int .i64 0, .int .i64 0, .int .i64 0, .int .i64 0, .int .i64 0, .int .i64 0, .int .i64 0, .int .i64 0, .int .i64 0, .int .i64 0, .int .i64 0, .int .i64 0, .int .i64 0, .int .i64 0, .int .i64 0, .int .i64 0, .int .i64 0, .int .i64 0, .int .i64 0, .int .i64 0, .int .i64 0, .int .i64 0, .int .i64 0, .int .i64 0, .int .i64 0] 72))
  rw [World.size_alloc, World.size_alloc] at hz1
  have hwd3 := hwd2.below (Below.alloc1 _ (.cells #[.int .i64 0, .int .i64 0, .int .i64 0, .int .i64 0, .int .i64 0, .int .i64 0, .int .i64 0, .int .i64 0, .int .i64 0, .int .i64 0, .int .i64 0, .int .i64 0, .int .i64 0, .int .i64 0, .int .i64 0, .int .i64 0, .int .i64 0, .int .i64 0, .int .i64 0, .int .i64 0, .int .i64 0, .int .i64 0, .int .i64 0, .int .i64 0, .int .i64 0] 72))
  have hz03 := hz0.below (Below.alloc1 _ (.cells #[.int .i64 0, .int .i64 0, .int .i64 0, .int .i64 0, .int .i64 0, .int .i64 0, .int .i64 0, .int .i64 0, .int .i64 0, .int .i64 0, .int .i64 0, .int .i64 0, .int .i64 0, .int .i64 0, .int .i64 0, .int .i64 0, .int .i64 0, .int .i64 0, .int .i64 0, .int .i64 0, .int .i64 0, .int .i64 0, .int .i64 0, .int .i64 0, .int .i64 0] 72))
  have B3 := Below.step B2 (Below.alloc1 _ (.cells #[.int .i64 0, .int .i64 0, .int .i64 0, .int .i64 0, .int .i64 0, .int .i64 0, .int .i64 0, .int .i64 0, .int .i64 0, .int .i64 0, .int .i64 0, .int .i64 0, .int .i64 0, .int .i64 0, .int .i64 0, .int .i64 0, .int .i64 0, .int .i64 0, .int .i64 0, .int .i64 0, .int .i64 0, .int .i64 0, .int .i64 0, .int .i64 0, .int .i64 0] 72))
  have hs2 := hwd2.size hl
  have hs3 := hwd3.size hl
  have hll := lastL_length l x
  have hlg := fun k hk => lastL_get l x k hk
  have hle := lastL_last l x
  have hal := atK_all (lastL l x)
  unfold idxW
  rw [hll] at hal ⊢
  have ha0 : atK (lastL l x) 0 = List.replicate (l.length + 1) 0 := by rw [atK, hll]
  generalize lastL l x = L at *
  obtain ⟨n, hn⟩ : ∃ n, n = l.length := ⟨_, rfl⟩
  have hixn : idxK l l.length = idxK l n := by rw [hn]
  rw [hixn] at hwd2 hwd3 B3 hz1 hz03 hs2 hs3 hix ⊢
  generalize idxK l n = ix at *
  rw [← hn] at hs2 hs3 hll hlg hle hal ha0 hin h11 hx ⊢
  have HL : Hid (l.length ≤ 12) := hl
  have HN := Lib.hid hn; have HIX := Lib.hid hix; have HW3 := Lib.hid hwd3; have HZ1 := Lib.hid hz1; have HZ03 := Lib.hid hz03; have HB3 := Lib.hid B3
  have HLL := Lib.hid hll; have HLG := Lib.hid hlg; have HLE := Lib.hid hle; have HAL := Lib.hid hal; have HA0 := Lib.hid ha0; have HIN := Lib.hid hin
  have HLL12 : Hid (L.length ≤ 12) := by show L.length ≤ 12; omega
  have hzl := zero12_length
  have hzk : zero12 = idxK L 0 := rfl
  have hw1 : IntKind.i64.wrap ((n : Int) + 1) = ((n + 1 : Nat) : Int) := by rw [IntWalk.i64_in _ (by omega)]; omega
  have hn1 : n + 1 ≤ 12 := by omega
  have hn12 : n ≤ 12 := by omega
  have hsl := fun b w => run_ats b n w hn12
  clear hwd B1 hz0 hwd2 B2 hz1 hwd3 hz03 B3 hll hlg hle hal ha0 hin hn hixn hl hw
  go_enter Try.func92, Try.ntmps92
  go_wp2_with (refine wp_storeWdN rfl (.tmp 5) (.tmp 13) rfl (w.heap.size + 2) (n + 1) hn1 rfl rfl HZ1.out ?_; intro w4 hs4 hg4; have hwd4 := HW3.out.grown hg4 (by omega); have HW4 := Lib.hid hwd4; have HZ4 := Lib.hid (HZ03.out.grown hg4 (by omega)); have HS4 := Lib.hid hs4; have HB4 := Lib.hid (HB3.out.grown hg4 (by first | (simp; done) | (simp; omega)) (by intro k hk; simp at hk; omega)); have hz4 := hwd4.size HL.out; rw [← HN.out] at hz4; clear hs4 hg4 hwd4)
  clear hs2 hs3 hsl
  go_loopw [21] (fun iv wr => ∃ k : Nat, k ≤ n ∧ iv = .int .i64 k ∧ Hid (WdIn wr (w.heap.size + 2) (atK L k) (idxK L k)) ∧ Hid (WdIn wr w.heap.size l ix) ∧ Hid (WdIn wr (w.heap.size + 1) [] zero12) ∧ Hid (Below w.heap.size w wr)) (fun iv _ => n - (intOf iv).toNat)
  case atStart => exact ⟨0, by omega, rfl, by rw [HA0.out, ← hzk]; exact HS4, HW4, HZ4, HB4⟩
  case round =>
    obtain ⟨k, hk, rfl, HS, HW, HZ, HB⟩ := hrel
    clear HS4 HW4 HZ4 HB4 hz4
    have hlk : (atK L k).length = n + 1 := by rw [atK_length]; exact HLL.out
    have hik := idxK_length L k
    have hzs := HW.out.size HL.out
    rw [← HN.out] at hzs
    by_cases hlt : k < n
    · have hsrc := HW.out.cell HL.out k (by omega)
      have hb := HIN.out k hlt
      obtain ⟨y, hy⟩ : ∃ y : Nat, l.getD k 0 = (y : Int) := ⟨(l.getD k 0).toNat, by omega⟩
      have hg := HLG.out k hlt
      rw [hy] at hsrc hb hg
      have hwy : IntKind.i64.wrap ((y : Int) + 1) = ((y + 1 : Nat) : Int) := by rw [IntWalk.i64_in _ (by omega)]; omega
      have hput : ∀ z : Nat, z < 12 → L.getD k 0 = (z : Int) → ∀ wj, WdIn wj (w.heap.size + 2) (atK L k) (idxK L k) → Calls Try.prog 132 #[.pointer (some ⟨w.heap.size + 2, 0, none⟩), .int .i64 k, .int .i64 z] wj (PutOut wj (w.heap.size + 2) (atK L (k + 1)) (idxK L (k + 1))) := by
        intro z hz e wj h
        have := put_any (w.heap.size + 2) k z (atK L k) (idxK L k) wj h (by omega) hik (by omega) hz
        have e1 : (atK L k).set k (z : Int) = atK L (k + 1) := by rw [← e]; rfl
        have e2 : (idxK L k).set z (k : Int) = idxK L (k + 1) := by rw [idxK, e, Int.toNat_natCast]
        rwa [e1, e2] at this
      by_cases hyx : y < x
      · have hge : ¬ (x : Int) ≤ (y : Int) := by omega
        have hgd : decide ((x : Int) ≤ (y : Int)) = false := decide_eq_false hge
        have HP := Lib.hid (hput y (by omega) (by rw [hg]; unfold roomI; rw [if_pos (by omega)]))
        clear hput hg hy hlk hik
        go_wp2_with (go_at_call 132; refine (HP.out _ HS.out).mono ?_; rintro e w5 ⟨rfl, hp5, hg5⟩; have HS5 := Lib.hid hp5; have HW5 := Lib.hid (HW.out.grown hg5 (by omega)); have HZ5 := Lib.hid (HZ.out.grown hg5 (by omega)); have HB5 := Lib.hid (HB.out.grown hg5 HB.out.size (by intro k hk; simp at hk; omega)); clear hp5 hg5)
        go_roundw
        case rel => exact ⟨k + 1, by omega, by go_num, HS5, HW5, HZ5, HB5⟩
        case measure => simp [intOf]; omega
      · have hge : (x : Int) ≤ (y : Int) := by omega
        have hgd : decide ((x : Int) ≤ (y : Int)) = true := decide_eq_true hge
        have HP := Lib.hid (hput (y + 1) (by omega) (by rw [hg]; unfold roomI; rw [if_neg (by omega)]; omega))
        have ey : ((y + 1 : Nat) : Int) = (y : Int) + 1 := by omega
        rw [ey] at HP hwy
        clear hput hg hy hlk hik
        go_wp2_with (go_at_call 132; refine (HP.out _ HS.out).mono ?_; rintro e w5 ⟨rfl, hp5, hg5⟩; have HS5 := Lib.hid hp5; have HW5 := Lib.hid (HW.out.grown hg5 (by omega)); have HZ5 := Lib.hid (HZ.out.grown hg5 (by omega)); have HB5 := Lib.hid (HB.out.grown hg5 HB.out.size (by intro k hk; simp at hk; omega)); clear hp5 hg5)
        go_roundw
        case rel => exact ⟨k + 1, by omega, by go_num, HS5, HW5, HZ5, HB5⟩
        case measure => simp [intOf]; omega
    · obtain rfl : k = n := by omega
      have hput := put_any (w.heap.size + 2) k x (atK L k) (idxK L k) wr HS.out (by omega) hik (by omega) (by omega)
      have e1 : (atK L k).set k (x : Int) = L := by
        have h1 : (atK L k).set k (L.getD k 0) = L := HAL.out
        rw [HLE.out] at h1
        exact h1
      have e2 : (idxK L k).set x (k : Int) = idxK L (k + 1) := by rw [idxK, HLE.out, Int.toNat_natCast]
      rw [e1, e2] at hput
      have HP := Lib.hid hput
      have HI2 : Hid ((idxK L (k + 1)).length = 12) := idxK_length _ _
      clear hput e1 e2 hlk hik
      go_wp2_with (first
        | (go_at_call 132; refine HP.out.mono ?_; rintro e w5 ⟨rfl, hp5, hg5⟩; have HS5 := Lib.hid hp5; have HZ5 := Lib.hid (HZ.out.grown hg5 (by omega)); have HB5 := Lib.hid (HB.out.grown hg5 HB.out.size (by intro k hk; simp at hk; omega)); clear hp5 hg5)
        | (with_reducible refine wp_loadWd rfl (.tmp 5) rfl (w.heap.size + 2) L (idxK L (k + 1)) HLL12.out HI2.out rfl HS5.out ?_)
        | (refine wp_storeWd rfl (.tmp 4) (.tmp 40) rfl (w.heap.size + 1) L (idxK L (k + 1)) [] zero12 HLL12.out HI2.out (Nat.zero_le _) hzl rfl rfl HZ5.out ?_; intro w6 hs6 hg6))
      exact bodyPost_ret (results_wl _ _ (w.heap.size + 1) L (idxK L (k + 1)) HLL12.out HI2.out hs6 rfl) rfl ⟨rfl, HB5.out.grown hg6 HB5.out.size (by intro k hk; simp at hk; omega)⟩

end Go.Proofs.Yteeoepbbocdchaa
