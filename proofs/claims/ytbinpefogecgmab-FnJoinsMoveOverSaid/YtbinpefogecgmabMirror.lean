/- MirrorSystem. -/
import Derived.Test.YtbinpefogecgmabDraw
import Derived.Test.YtbinpefogecgmabGood
namespace Go.Proofs.Ytbinpefogecgmab
open Go.RowKit
set_option linter.unusedSimpArgs false
set_option linter.unusedVariables false

def mirrorL (l : List Int) : List Int := drawL (fun i => (l.length : Int) - 1 - i) (List.replicate l.length 0) l l.length
theorem mirrorL_length (l : List Int) : (mirrorL l).length = l.length := by rw [mirrorL, drawL_length, List.length_replicate]
def res_MirrorSystem (l : List Int) : List Int := if goodB l then mirrorL l else []
def ok_MirrorSystem (l : List Int) : Bool := goodB l
theorem len_MirrorSystem (l : List Int) : (res_MirrorSystem l).length ≤ 1000000 := by
  unfold res_MirrorSystem
  split
  · next h => rw [mirrorL_length]; have := good_len' h; omega
  · simp

set_option maxHeartbeats 1000000 in
theorem ahMirror_any (l : List Int) (w : World) (v : Value) (h : Rd w v l) (hg : goodB l = true) : Calls Try.prog 68 #[v] w (Made w (mirrorL l)) := by
  have hl12 := good_len' hg
  have hr : ∀ k, k < l.length → 0 ≤ l.getD k 0 ∧ l.getD k 0 < l.length := fun k hk => ⟨((good_facts hg).2.2.1 k hk).1, ((good_facts hg).2.2.1 k hk).2.1⟩
  have h0 := h
  obtain ⟨a, c, rfl, hlc, hcm, hnc, hrd⟩ := h
  obtain ⟨n, hn⟩ : ∃ n, n = l.length := ⟨_, rfl⟩
  unfold mirrorL
  rw [← hn] at hlc hl12 hr hrd h0 ⊢
  unfold maxLen at hcm
  have HN := Lib.hid hn; have HR := Lib.hid hr; have HC := Lib.hid hrd; have H0 := Lib.hid h0; have HG := Lib.hid hg
  clear hn hr hrd h0 hg hnc
  go_enter Try.func68, Try.ntmps68
  go_wp2_with (at_make; refine wp_make w rfl _ _ rfl n _ _ rfl rfl rfl rfl (by omega) ?_; intro w1 hown hbel hsz)
  go_loopw [13] (fun i wr => ∃ k : Nat, k ≤ n ∧ i = .int .i64 k ∧ Own w.heap.size wr (.slice (some ⟨w.heap.size, 0, none⟩) n n) (drawL (fun i => (n : Int) - 1 - i) (List.replicate n 0) l k) ∧ Below w.heap.size w wr) (fun i _ => n - (intOf i).toNat)
  case atStart => exact ⟨0, by omega, rfl, hown, hbel⟩
  case round =>
    obtain ⟨k, hk, rfl, hownr, hbelr⟩ := hrel
    clear hown hbel hsz
    by_cases hlt : k < n
    · rcases HC.out with h0 | ⟨b, off, rfl, hcell⟩
      · exfalso; rw [HN.out, h0] at hlt; simp at hlt
      have hsrc : wr.cell? ⟨b, off + k, none⟩ = some (.int .i64 (l.getD k 0)) := by
        have := hcell k hlt
        exact (hbelr.cell (p := ⟨b, off + k, none⟩) (World.block_lt_of_cell? w _ this)).trans this
      have hx := HR.out k hlt
      have hlen := drawL_length (fun i => (n : Int) - 1 - i) (List.replicate n 0) l k
      rw [List.length_replicate] at hlen
      have hdst := hownr.cellAt ((n : Int) - 1 - (k : Int)).toNat (by rw [hlen]; omega)
      have hfr := hownr.frozenAt ((n : Int) - 1 - (k : Int)).toNat
      have hnew := hownr.stored ((n : Int) - 1 - (k : Int)).toNat ((n : Int) - 1 - l.getD k 0)
      have HW : Hid (Own w.heap.size (wr.setCell ⟨w.heap.size, ((n : Int) - 1 - (k : Int)).toNat, none⟩ (.int .i64 ((n : Int) - 1 - l.getD k 0))) (.slice (some ⟨w.heap.size, 0, none⟩) n n) (drawL (fun i => (n : Int) - 1 - i) (List.replicate n 0) l (k + 1))) := hnew
      have HB := Lib.hid (hbelr.setCell (p := ⟨w.heap.size, ((n : Int) - 1 - (k : Int)).toNat, none⟩) (Nat.le_refl _) (.int .i64 ((n : Int) - 1 - l.getD k 0)))
      clear hnew hownr hbelr hcell hlen
      generalize (drawL (fun i => (n : Int) - 1 - i) (List.replicate n 0) l k).getD ((n : Int) - 1 - (k : Int)).toNat 0 = y at hdst
      generalize l.getD k 0 = x at hsrc hx HW HB
      have ej : ((n : Int) - 1 - (k : Int)).toNat = n - 1 - k := by omega
      rw [ej] at hdst hfr HW HB
      clear ej
      go_wp2
      go_roundw
      case rel => exact ⟨k + 1, by omega, by go_num, HW.out, HB.out⟩
      case measure => simp [intOf]; omega
    · obtain rfl : k = n := by omega
      go_wp2
      go_ret
      exact ⟨_, rfl, hownr, hbelr⟩

theorem mirror_fits {l : List Int} (n : Nat) (hn : n = l.length) : ∀ k : Nat, k < l.length → 0 ≤ (fun i : Int => (n : Int) - 1 - i) (k : Int) ∧ (fun i : Int => (n : Int) - 1 - i) (k : Int) < (List.replicate n (0 : Int)).length := by
  intro k hk
  simp
  omega
theorem mirror_place (n : Nat) (hn : n ≤ 12) (h0 : 0 < n) : ∀ (i : Int) (w : World), 0 ≤ i → i < 12 → Calls Try.prog 118 #[.agg #[.int .i64 (n : Int)], .int .i64 i] w (IntOut w ((fun i : Int => (n : Int) - 1 - i) i)) :=
  fun i w h1 h2 => refl_place (n : Int) i w (by omega) (by omega) h1 (by omega)

set_option maxHeartbeats 1000000 in
theorem impl_MirrorSystem (l : List Int) (w : World) (u : Value) (h : Rd w u l) (m : l.length ≤ 1048576) : Calls Try.prog 67 #[u] w (Gives w (res_MirrorSystem l) (ok_MirrorSystem l)) := by
  unfold res_MirrorSystem ok_MirrorSystem
  cases hg : goodB l with
  | true =>
    simp only [if_true]
    have hl := good_len' hg
    have hr : ∀ k, k < l.length → 0 ≤ l.getD k 0 ∧ l.getD k 0 < 12 := fun k hk => ⟨((good_facts hg).2.2.1 k hk).1, by have := ((good_facts hg).2.2.1 k hk).2.1; omega⟩
    have HL : Hid (l.length ≤ 12) := hl
    have HR := Lib.hid hr
    have HG := Lib.hid hg; clear hg hr
    have HM : Hid ((mirrorL l).length ≤ 12) := by show (mirrorL l).length ≤ 12; rw [mirrorL_length]; exact hl
    obtain ⟨n, hn⟩ : ∃ n, n = l.length := ⟨_, rfl⟩
    have HN := Lib.hid hn
    rw [← hn] at hl
    clear hn
    go_enter Try.func67, Try.ntmps67
    go_wp2_with fail
    refine (readSystem_yes u l _ h HG.out).mono ?_
    rintro e w1 ⟨rfl, hb⟩
    go_wp2_with (first
      | ((with_reducible refine wp_storeNew rfl (.tmp 4) (.tmp 10) rfl _ l HL.out rfl rfl ?_); intro w2 hs2 hb2; have hcs := hs2.size HL.out; rw [← HN.out] at hcs; have hbl := SysIn.blank w2 n (n : Int) rfl hl; have hs3 := SysIn.old hs2 (n : Int); have hcs3 := hs3.size HL.out; rw [← HN.out] at hcs3)
      | (with_reducible refine wp_loadSys rfl (.tmp 4) rfl w1.heap.size l HL.out rfl (by assumption) ?_)
      | (go_at_call 116; ((with_reducible refine (draw_refl _ (fun i => (n : Int) - 1 - i) _ (List.replicate n 0) l _ hbl (by simpa using hl) HL.out (fun h0 => mirror_place n (by rw [HN.out]; exact HL.out) (by rw [HN.out]; exact h0)) HR.out (mirror_fits n HN.out)).mono ?_); rintro e w3 ⟨rfl, hs4, hg4⟩; have hs5 : SysIn w3 w2.heap.size (mirrorL l) := (by unfold mirrorL; rw [← HN.out]; rw [← HN.out] at hs4; exact hs4)))
      | (with_reducible refine wp_loadSys rfl (.tmp 6) rfl w2.heap.size (mirrorL l) HM.out rfl (by assumption) ?_)
      | (go_at_call 84; refine (list_any _ _ HM.out).mono ?_; rintro e w4 ⟨v, rfl, hown, hb4⟩))
    go_ret2
    have C := drawn_below (Below.step hb hb2) hg4
    exact ⟨_, rfl, hown.mono C.size, Below.step C hb4⟩
  | false =>
    have HG := Lib.hid hg; clear hg
    go_enter Try.func67, Try.ntmps67
    go_wp2_with fail
    refine (readSystem_no u l _ h HG.out).mono ?_
    rintro e w1 ⟨rfl, hb⟩
    go_wp2_with ((with_reducible refine wp_storeNew rfl (.tmp 4) (.tmp 10) rfl _ [] (Nat.zero_le _) rfl rfl ?_); intro w2 hs2 hb2)
    go_ret2
    exact ⟨_, rfl, Own.nil _ _, Below.step hb hb2⟩

end Go.Proofs.Ytbinpefogecgmab
