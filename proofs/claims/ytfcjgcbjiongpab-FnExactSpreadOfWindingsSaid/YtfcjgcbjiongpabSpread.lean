/- SpreadOfWindings: the program's function and the model's. -/
import Derived.Test.YtfcjgcbjiongpabSemis2
namespace Go.Proofs.Ytfcjgcbjiongpab
open Go.RowKit
set_option linter.unusedSimpArgs false
set_option linter.unusedVariables false

/-- the numbers of systems by winding, counted so far -/
def sprK (n : Nat) (L : List (List Int)) : Nat → List Int
  | 0 => List.replicate (n + 1) 0
  | k + 1 => (sprK n L k).set (wnd (L.getD k [])) ((sprK n L k).getD (wnd (L.getD k [])) 0 + 1)
theorem sprK_length (n : Nat) (L : List (List Int)) : ∀ k, (sprK n L k).length = n + 1
  | 0 => by simp [sprK]
  | k + 1 => by rw [sprK, List.length_set, sprK_length n L k]
theorem sprK_bd (n : Nat) (L : List (List Int)) : ∀ k x, 0 ≤ (sprK n L k).getD x 0 ∧ (sprK n L k).getD x 0 ≤ (k : Int)
  | 0, x => by simp [sprK, List.getD, List.getElem?_replicate]; split <;> simp
  | k + 1, x => by
    have h := sprK_bd n L k
    simp only [sprK]
    by_cases e : wnd (L.getD k []) = x
    · subst e
      by_cases hl : wnd (L.getD k []) < (sprK n L k).length
      · have := h (wnd (L.getD k []))
        rw [show ((sprK n L k).set (wnd (L.getD k [])) ((sprK n L k).getD (wnd (L.getD k [])) 0 + 1)).getD (wnd (L.getD k [])) 0 = (sprK n L k).getD (wnd (L.getD k [])) 0 + 1 by
          rw [List.getD, List.getElem?_set_self hl]; rfl]
        omega
      · rw [List.set_eq_of_length_le (by omega)]
        have := h (wnd (L.getD k []))
        omega
    · have := h x
      rw [show ((sprK n L k).set (wnd (L.getD k [])) ((sprK n L k).getD (wnd (L.getD k [])) 0 + 1)).getD x 0 = (sprK n L k).getD x 0 by
        rw [List.getD, List.getElem?_set_ne e]; rfl]
      omega
def sprL (n : Nat) : List Int := sprK n (semisL n) (semisL n).length
theorem wnd_le {l : List Int} {n : Nat} (h : l.length = 2 * n) : wnd l ≤ n := by
  have := wndN_le l (l.length / 2) (l.length / 2)
  unfold wnd
  omega

def ok_SpreadOfWindings (x : Int) : Bool := inB x 1 6
def res_SpreadOfWindings (x : Int) : List Int := if inB x 1 6 then sprL x.toNat else []
theorem spread_yes {n : Nat} (h1 : 1 ≤ n) (h6 : n ≤ 6) : res_SpreadOfWindings (n : Int) = sprL n ∧ ok_SpreadOfWindings (n : Int) = true := by
  have := inB_yes (n := (n : Int)) (lo := 1) (hi := 6) (by omega) (by omega)
  unfold res_SpreadOfWindings ok_SpreadOfWindings
  rw [this]
  exact ⟨rfl, rfl⟩
theorem spread_no {x : Int} (h : ¬ (1 ≤ x ∧ x ≤ 6)) : res_SpreadOfWindings x = [] ∧ ok_SpreadOfWindings x = false := by
  unfold res_SpreadOfWindings ok_SpreadOfWindings
  rw [inB_no h]
  exact ⟨rfl, rfl⟩
theorem len_SpreadOfWindings (x : Int) : (res_SpreadOfWindings x).length ≤ 1000000 := by
  by_cases h : 1 ≤ x ∧ x ≤ 6
  · obtain ⟨n, rfl⟩ := Int.eq_ofNat_of_zero_le (by omega : 0 ≤ x)
    rw [(spread_yes (by omega) (by omega)).1]
    unfold sprL
    rw [sprK_length]
    omega
  · rw [(spread_no h).1]; simp

set_option maxHeartbeats 2000000 in
set_option maxRecDepth 100000 in
theorem implSpread_run (n : Nat) (h1 : 1 ≤ n) (h6 : n ≤ 6) (w : World) : Calls Try.prog 36 #[.int .i64 (n : Int)] w (Gives w (sprL n) true) := by
  have HI := Lib.hid (inB_yes (n := (n : Int)) (lo := 1) (hi := 6) (by omega) (by omega))
  have HS := Lib.hid (fun w => semisOf_any n h6 w)
  have hf := semisL_facts h6
  unfold sprL
  have hwn : ∀ k, k < (semisL n).length → wnd ((semisL n).getD k []) ≤ n := fun k hk => wnd_le (hf.2 k hk).2
  have hwa : ∀ k, k < (semisL n).length → ∀ w, Calls Try.prog 63 #[.agg (sysC ((semisL n).getD k []))] w fun e w' => e = .returned (.int .i64 ((wnd ((semisL n).getD k []) : Nat) : Int)) ∧ Below w.heap.size w w' := fun k hk w => winding_any _ w (by have := (hf.2 k hk).2; omega)
  have h12 : ∀ k, k < (semisL n).length → ((semisL n).getD k []).length ≤ 12 := fun k hk => by have := (hf.2 k hk).2; omega
  have hlen := hf.1
  have HSL := Lib.hid (sprK_length n (semisL n))
  have HSB := Lib.hid (sprK_bd n (semisL n))
  have HSN : Hid (∀ k, sprK n (semisL n) (k + 1) = (sprK n (semisL n) k).set (wnd ((semisL n).getD k [])) ((sprK n (semisL n) k).getD (wnd ((semisL n).getD k [])) 0 + 1)) := fun k => rfl
  have HS0 : Hid (List.replicate (n + 1) 0 = sprK n (semisL n) 0) := rfl
  generalize sprK n (semisL n) = spr at *
  generalize semisL n = L at *
  have HWN := Lib.hid hwn; have HWA := Lib.hid hwa; have H12 := Lib.hid h12
  clear hf hwn hwa h12
  go_enter Try.func36, Try.ntmps36
  go_wp2_with (first
    | (go_at_call 60; refine (isSemiCount_any _ _).mono ?_; rintro e w' ⟨rfl, rfl⟩; rw [HI.out])
    | (at_make; refine wp_make w rfl _ _ rfl (n + 1) _ _ rfl rfl (by simp) (by simp) (by omega) ?_; intro w1 hown1 hbel1 hsz1; rw [HS0.out] at hown1; have HO1 := Lib.hid hown1; have HB1 := Lib.hid hbel1; have HZ1 := Lib.hid hsz1; clear hown1 hbel1 hsz1)
    | (go_at_call 61; ((with_reducible refine (HS.out _).mono ?_); rintro e w2 ⟨v2, rfl, ho2, hb2⟩; have HO2 := Lib.hid ho2; have HB2 := Lib.hid hb2; obtain ⟨a2, c2, rfl, hc1, hc2⟩ := ho2.form; unfold maxLen at hc2; clear ho2 hb2)))
  go_loopw [16] (fun i wr => ∃ k : Nat, k ≤ L.length ∧ i = .int .i64 k ∧ Own w.heap.size wr (.slice (some ⟨w.heap.size, 0, none⟩) (n + 1) (n + 1)) (spr k) ∧ OwnS w1.heap.size wr (.slice a2 L.length c2) L ∧ Below w.heap.size w wr) (fun i _ => L.length - (intOf i).toNat)
  case atStart => exact ⟨0, by omega, rfl, HO1.out.below HB2.out, HO2.out, Below.step HB1.out HB2.out⟩
  case round =>
    obtain ⟨k, hk, rfl, hown, hos, hbel⟩ := hrel
    generalize wr = wc at *
    by_cases hlt : k < L.length
    · obtain ⟨g, rfl, hy1, hy2, hy3, hrg⟩ := hos.at (by omega)
      have hr := hrg k hlt
      have hx := HWN.out k hlt
      have hcall := HWA.out k hlt
      have hgl := H12.out k hlt
      have hsn := HSN.out k
      have hbd := HSB.out k (wnd (L.getD k []))
      have HLS := Lib.hid (HSL.out k)
      generalize L.getD k [] = t at *
      generalize wnd t = x at *
      have hsz := hbel.size
      have HR := Lib.hid hr; have HCL := Lib.hid hcall; have HOQ := Lib.hid hown; have HOS := Lib.hid hos; have HBE := Lib.hid hbel; have HGL2 := Lib.hid hgl; have HY2 := Lib.hid hy2
      have HZZ := Lib.hid HZ1.out
      obtain ⟨z, hze⟩ : ∃ z, z = (spr k).getD x 0 := ⟨_, rfl⟩
      rw [← hze] at hsn hbd
      have HZE := Lib.hid hze
      have hz0 := hbd.1
      have hz1 : z ≤ 132 := by omega
      have HSU := Lib.hid hsn
      clear hy1 hy2 hy3 hrg hr hcall hown hos hbel hsn hgl hze hbd
      go_wp2_with (first
        | (with_reducible refine boxS_load rfl (.tmp 18) rfl g (k * 13) t HGL2.out rfl HR.out ?_)
        | ((with_reducible refine wp_storeNew rfl (.tmp 6) (.tmp 19) rfl _ t HGL2.out rfl rfl ?_); intro w5 hs5 hb5; have HS5 := Lib.hid hs5; have HB5 := Lib.hid hb5; clear hs5 hb5)
        | (with_reducible refine wp_loadSys rfl (.tmp 6) rfl wc.heap.size t HGL2.out rfl HS5.out ?_)
        | (go_at_call 63; ((with_reducible refine (HCL.out _).mono ?_); rintro e w6 ⟨rfl, hb6⟩; have HB6 := Lib.hid (Below.step HB5.out hb6); clear hb6; have ho6 := HOQ.out.below HB6.out; have cx := ho6.cellAt x (by rw [HLS.out]; omega); (rw [← HZE.out] at cx); have fx := ho6.frozenAt x; have HO6 := Lib.hid ho6; clear ho6)))
      go_roundw
      case rel =>
        have s1 := HB1.out.size
        have s6 := HBE.out.size
        refine ⟨k + 1, by omega, by go_num, by rw [HSU.out]; exact HO6.out.stored x (z + 1), (HOS.out.below HB6.out).grown (row := some w.heap.size) (grown_setCell (b := w.heap.size) (i := x)) (fun kk hk e => by simp [Value.ownBlock] at hk; simp at e; have := HY2.out; have := HZ1.out; omega), ((HBE.out.trans (HB6.out.mono HBE.out.size))).setCell (by show w.heap.size ≤ w.heap.size; omega) _⟩
      case measure => simp [intOf]; omega
    · obtain rfl : k = L.length := by omega
      go_wp2
      go_ret2
      exact ⟨_, rfl, hown, hbel⟩

theorem impl_SpreadOfWindings (x : Int) (w : World) : Calls Try.prog 36 #[.int .i64 x] w (Gives w (res_SpreadOfWindings x) (ok_SpreadOfWindings x)) := by
  by_cases h : 1 ≤ x ∧ x ≤ 6
  · obtain ⟨n, rfl⟩ := Int.eq_ofNat_of_zero_le (by omega : 0 ≤ x)
    rw [(spread_yes (by omega) (by omega)).1, (spread_yes (by omega) (by omega)).2]
    exact implSpread_run n (by omega) (by omega) w
  · rw [(spread_no h).1, (spread_no h).2]
    have HI := Lib.hid (inB_no h)
    clear h
    go_enter Try.func36, Try.ntmps36
    go_wp2_with (go_at_call 60; refine (isSemiCount_any _ _).mono ?_; rintro e w' ⟨rfl, rfl⟩; rw [HI.out])
    go_ret2
    exact ⟨_, rfl, Own.nil _ _, Below.refl _ _⟩

set_option maxHeartbeats 2000000 in
set_option maxRecDepth 100000 in
theorem specSpread_run (n : Nat) (h1 : 1 ≤ n) (h6 : n ≤ 6) (w : World) : Calls Try.prog 35 #[.int .i64 (n : Int)] w (Gives w (sprL n) true) := by
  have HI := Lib.hid (inB_yes (n := (n : Int)) (lo := 1) (hi := 6) (by omega) (by omega))
  have HS := Lib.hid (fun w => spSemis_any n h6 w)
  have hf := semisL_facts h6
  unfold sprL
  have hwn : ∀ k, k < (semisL n).length → wnd ((semisL n).getD k []) ≤ n := fun k hk => wnd_le (hf.2 k hk).2
  have hwa : ∀ k, k < (semisL n).length → ∀ w u, Rd w u ((semisL n).getD k []) → Calls Try.prog 62 #[u] w fun e w' => e = .returned (.int .i64 ((wnd ((semisL n).getD k []) : Nat) : Int)) ∧ w = w' := fun k hk w u hu => spWinding_any u _ w hu (by have := (hf.2 k hk).2; omega)
  have hlen := hf.1
  have HSL := Lib.hid (sprK_length n (semisL n))
  have HSB := Lib.hid (sprK_bd n (semisL n))
  have HSN : Hid (∀ k, sprK n (semisL n) (k + 1) = (sprK n (semisL n) k).set (wnd ((semisL n).getD k [])) ((sprK n (semisL n) k).getD (wnd ((semisL n).getD k [])) 0 + 1)) := fun k => rfl
  have HS0 : Hid (List.replicate (n + 1) 0 = sprK n (semisL n) 0) := rfl
  generalize sprK n (semisL n) = spr at *
  generalize semisL n = L at *
  have HWN := Lib.hid hwn; have HWA := Lib.hid hwa
  clear hf hwn hwa
  go_enter Try.func35, Try.ntmps35
  go_wp2_with (first
    | (go_at_call 58; refine (l1In_any _ _ _ _).mono ?_; rintro e w' ⟨rfl, rfl⟩; rw [HI.out])
    | (at_make; refine wp_make w rfl _ _ rfl (n + 1) _ _ rfl rfl (by simp) (by simp) (by omega) ?_; intro w1 hown1 hbel1 hsz1; rw [HS0.out] at hown1; have HO1 := Lib.hid hown1; have HB1 := Lib.hid hbel1; have HZ1 := Lib.hid hsz1; clear hown1 hbel1 hsz1)
    | (go_at_call 59; ((with_reducible refine (HS.out _).mono ?_); rintro e w2 ⟨v2, us, rfl, ho2, hb2⟩; have HO2 := Lib.hid ho2; have HB2 := Lib.hid hb2; obtain ⟨a2, c2, rfl, hc1, hc2⟩ := ho2.form; unfold maxLen at hc2; clear ho2 hb2)))
  go_loopw [16] (fun i wr => ∃ k : Nat, k ≤ L.length ∧ i = .int .i64 k ∧ Own w.heap.size wr (.slice (some ⟨w.heap.size, 0, none⟩) (n + 1) (n + 1)) (spr k) ∧ OwnLL w1.heap.size w2.heap.size wr (.slice a2 L.length c2) us L ∧ Below w.heap.size w wr) (fun i _ => L.length - (intOf i).toNat)
  case atStart => exact ⟨0, by omega, rfl, HO1.out.below HB2.out, HO2.out, Below.step HB1.out HB2.out⟩
  case round =>
    obtain ⟨k, hk, rfl, hown, hos, hbel⟩ := hrel
    generalize wr = wc at *
    by_cases hlt : k < L.length
    · obtain ⟨g, rfl, hg0, hg1, hcell, _⟩ := hos.at (by omega)
      have hck := hcell k hlt
      have hru := hos.own k hlt
      have hx := HWN.out k hlt
      have hcall := HWA.out k hlt
      have hsn := HSN.out k
      have hbd := HSB.out k (wnd (L.getD k []))
      have HLS := Lib.hid (HSL.out k)
      generalize L.getD k [] = t at *
      generalize wnd t = x at *
      generalize rowV us k = pu at *
      obtain ⟨p1, p2, p3, rfl⟩ := hru.form'
      have HCL := Lib.hid (hcall wc _ (Own.rd hru))
      have HOQ := Lib.hid hown; have HOS := Lib.hid hos; have HBE := Lib.hid hbel
      obtain ⟨z, hze⟩ : ∃ z, z = (spr k).getD x 0 := ⟨_, rfl⟩
      rw [← hze] at hsn hbd
      have HZE := Lib.hid hze
      have hz0 := hbd.1
      have hz1 : z ≤ 132 := by omega
      have HSU := Lib.hid hsn
      have cx := hown.cellAt x (by rw [HLS.out]; omega)
      rw [← hze] at cx
      have fx := hown.frozenAt x
      clear hg0 hg1 hcell hru hcall hown hos hbel hsn hze hbd
      go_wp2_with (go_at_call 62; ((with_reducible refine HCL.out.mono ?_); rintro e w6 ⟨rfl, rfl⟩))
      go_roundw
      case rel =>
        refine ⟨k + 1, by omega, by go_num, by rw [HSU.out]; exact HOQ.out.stored x (z + 1), HOS.out.grown (row := some w.heap.size) (grown_setCell (b := w.heap.size) (i := x)) (fun kk hk => by simp at hk; have := HZ1.out; omega), HBE.out.setCell (by show w.heap.size ≤ w.heap.size; omega) _⟩
      case measure => simp [intOf]; omega
    · obtain rfl : k = L.length := by omega
      go_wp2
      go_ret2
      exact ⟨_, rfl, hown, hbel⟩

theorem spec_SpreadOfWindings (x : Int) (w : World) : Calls Try.prog 35 #[.int .i64 x] w (Gives w (res_SpreadOfWindings x) (ok_SpreadOfWindings x)) := by
  by_cases h : 1 ≤ x ∧ x ≤ 6
  · obtain ⟨n, rfl⟩ := Int.eq_ofNat_of_zero_le (by omega : 0 ≤ x)
    rw [(spread_yes (by omega) (by omega)).1, (spread_yes (by omega) (by omega)).2]
    exact specSpread_run n (by omega) (by omega) w
  · rw [(spread_no h).1, (spread_no h).2]
    have HI := Lib.hid (inB_no h)
    clear h
    go_enter Try.func35, Try.ntmps35
    go_wp2_with (go_at_call 58; refine (l1In_any _ _ _ _).mono ?_; rintro e w' ⟨rfl, rfl⟩; rw [HI.out])
    go_ret2
    exact ⟨_, rfl, Own.nil _ _, Below.refl _ _⟩

end Go.Proofs.Ytfcjgcbjiongpab
