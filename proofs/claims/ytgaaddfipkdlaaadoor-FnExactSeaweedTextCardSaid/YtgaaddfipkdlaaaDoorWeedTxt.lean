/- Texts of seaweeds: program and model. -/
import Derived.Test.YtgaaddfipkdlaaaDoorStrs
import Derived.Test.YtgaaddfipkdlaaaDoorWeedMake
namespace Go.Proofs.YtgaaddfipkdlaaaDoor
open Go.RowKit
set_option linter.unusedSimpArgs false
set_option linter.unusedVariables false

def sepA : ByteArray := ⟨#[43]⟩
def sideK (l : List Int) : Nat → ByteArray
  | 0 => ByteArray.empty
  | k + 1 => (if k = 0 then sideK l k else sideK l k ++ sepA) ++ numA (l.getD k 0)
def sideA (l : List Int) : ByteArray := if l.length = 0 then ⟨#[45]⟩ else sideK l l.length
def weedT (t b : List Int) : ByteArray := sideA t ++ ⟨#[124]⟩ ++ sideA b
theorem join_snoc (xs : List (List UInt8)) (y sep : List UInt8) : Lib.join (xs ++ [y]) sep = if xs = [] then y else Lib.join xs sep ++ sep ++ y := by
  cases xs with
  | nil => simp [Lib.join_one]
  | cons x r =>
    rw [if_neg (by simp), List.cons_append, Lib.join_cons, Lib.join_cons]
    simp [Lib.joinTail]
theorem sideK_join (l : List Int) : ∀ k, k ≤ l.length → sideK l k = ⟨(Lib.join ((l.take k).map (fun x => (numA x).data.toList)) [43]).toArray⟩
  | 0, _ => by simp [sideK, Lib.join_nil]; rfl
  | k + 1, h => by
    have ih := sideK_join l k (by omega)
    rw [List.take_add_one, List.getElem?_eq_getElem (by omega), Option.toList_some, List.map_append, List.map_cons, List.map_nil, join_snoc, sideK]
    have e : l.getD k 0 = l[k] := by simp [List.getD, (show k < l.length by omega)]
    rw [e]
    by_cases hk : k = 0
    · subst hk
      rw [if_pos rfl, if_pos (by simp)]
      apply ByteArray.ext
      rw [ByteArray.data_append]; simp [sideK]
    · have hn : ¬ (l.take k).map (fun x => (numA x).data.toList) = [] := by
        intro e; have := congrArg List.length e; rw [List.length_map, List.length_take, List.length_nil] at this; omega
      rw [if_neg hk, if_neg hn, ih]
      apply ByteArray.ext
      rw [ByteArray.data_append, ByteArray.data_append]; simp [sepA]
theorem str_ne {T : ByteArray} (h : 0 < T.size) : (T.toList == []) = false ∧ (T.toList == (⟨#[]⟩ : ByteArray).toList) = false := by
  have hE : (⟨#[]⟩ : ByteArray).toList = [] := by rw [ByteArray.toList_eq]
  rw [hE]
  have : (T.toList == []) = false := by
    rw [ByteArray.toList_eq, beq_eq_false_iff_ne]
    intro e
    have h1 := congrArg List.length e
    rw [Array.length_toList, List.length_nil] at h1
    have h2 : T.data.size = T.size := rfl
    omega
  exact ⟨this, this⟩
theorem sideK_size (l : List Int) (h : ∀ k, k < l.length → 1 ≤ l.getD k 0 ∧ l.getD k 0 ≤ 20) : ∀ k, k ≤ l.length → k ≤ (sideK l k).size ∧ (sideK l k).size ≤ 3 * k
  | 0, _ => by simp [sideK]
  | k + 1, hk => by
    have ih := sideK_size l h k (by omega)
    have hx := h k (by omega)
    have hs := numA_size (x := l.getD k 0) (by omega) (by omega)
    rw [sideK]
    have e1 : sepA.size = 1 := rfl
    split <;> simp only [ByteArray.size_append] <;> omega
theorem sideA_size {l : List Int} (h : partsB l = true) : (sideA l).size ≤ 60 := by
  have hl := (parts_facts h).2.2.1
  unfold sideA
  split
  · decide
  · have := (sideK_size l (parts_rng h) l.length (Nat.le_refl _)).2; omega
def wordK (l : List Int) (n k : Nat) : List ByteArray := (l.take k).map numA ++ List.replicate (n - k) ByteArray.empty
theorem wordK_len (l : List Int) (k : Nat) (h : k ≤ l.length) : (wordK l l.length k).length = l.length := by simp [wordK]; omega
theorem wordK_zero (l : List Int) (n : Nat) : wordK l n 0 = List.replicate n ByteArray.empty := by simp [wordK]
theorem wordK_all (l : List Int) : wordK l l.length l.length = l.map numA := by simp [wordK]
theorem wordK_set (l : List Int) (k : Nat) (h : k < l.length) : (wordK l l.length k).set k (numA (l.getD k 0)) = wordK l l.length (k + 1) := by
  unfold wordK
  rw [List.set_append_right _ _ (by rw [List.length_map, List.length_take]; omega), List.length_map, List.length_take, Nat.min_eq_left (by omega), Nat.sub_self, show l.length - k = (l.length - (k + 1)) + 1 by omega, List.replicate_succ, List.set_cons_zero, List.take_add_one, List.map_append, List.append_assoc]
  simp [List.getD, h]

set_option maxRecDepth 100000 in
set_option maxHeartbeats 4000000 in
theorem partsText_any (v : Value) (l : List Int) (w : World) (h : Rd w v l) (hp : partsB l = true) : Calls Tryd.prog 44 #[v] w (NumS w (sideA l)) := by
  have h20 := (parts_facts hp).2.2.1
  unfold sideA
  by_cases h0 : l.length = 0
  · rw [if_pos h0]
    obtain ⟨a, c, rfl, hc1, hc2, _⟩ := h
    rw [h0] at hc1 ⊢
    clear h0 hp h20
    go_enter Tryd.func44, Tryd.ntmps44
    go_wp2
    go_ret
    exact ⟨rfl, Below.refl _ _⟩
  · rw [if_neg h0]
    have hrng := parts_rng hp
    have hsj := sideK_join l l.length (Nat.le_refl _)
    rw [List.take_length] at hsj
    have hz := (sideK_size l hrng l.length (Nat.le_refl _)).2
    rw [hsj]
    have hw0 := wordK_zero l l.length; have hwa := wordK_all l
    have hws := fun k hk => wordK_set l k hk
    have hwl := fun k hk => wordK_len l k hk
    have hjn : ∀ W, OwnSt w.heap.size W (.slice (some ⟨w.heap.size, 0, none⟩) l.length l.length) (l.map numA) → Calls Tryd.prog 55 #[.slice (some ⟨w.heap.size, 0, none⟩) l.length l.length, .string sepA] W (fun e w' => e = .returned (.string ⟨(Lib.join (l.map (fun x => (numA x).data.toList)) [43]).toArray⟩) ∧ Below W.heap.size W w') := by
      intro W ho
      have hc : ∀ (j : Nat) x, (l.map numA)[j]? = some x → W.cell? ⟨w.heap.size, 0 + j, none⟩ = some (.string x) := by
        intro j x hj
        have hlt := (List.getElem?_eq_some_iff.1 hj).1
        rw [Nat.zero_add, ho.cellAt j hlt]
        simp [List.getD, hj]
      have hj := strings_Join w.heap.size 0 l.length (l.map numA) sepA W hc (World.ownsRow.lt ho w.heap.size rfl).2 (by rw [List.length_map]; omega) (by rw [List.length_map]; omega) (by
        rw [hsj] at hz
        simp only [ByteArray.size, List.size_toArray] at hz
        rw [List.map_map]
        show (Lib.join (l.map (fun x => (numA x).data.toList)) [43]).length ≤ _
        omega)
      rw [List.length_map, List.map_map] at hj
      exact hj
    generalize (⟨(Lib.join (l.map (fun x => (numA x).data.toList)) [43]).toArray⟩ : ByteArray) = RES at *
    obtain ⟨bb, off, c, rfl, hlc, hcm, hcell⟩ := h.at (by omega)
    obtain ⟨n, hn⟩ : ∃ n, n = l.length := ⟨_, rfl⟩
    rw [← hn] at hlc h20 hcell hrng h0 hw0 hwa hws hwl hjn ⊢
    unfold maxLen at hcm
    have HN := Lib.hid hn; have HC := Lib.hid hcell; have HR := Lib.hid hrng; have HJ := Lib.hid hjn; have HWS := Lib.hid hws; have HWL := Lib.hid hwl; have HW0 := Lib.hid hw0; have HWA := Lib.hid hwa
    have hn0 : ((n : Int) == 0) = false := by simp; omega
    clear hn hcell hrng h hp hsj hz hw0 hwa hws hwl hjn h0
    have hsep : sepA = ⟨#[43]⟩ := rfl
    rw [hsep] at HJ
    clear hsep
    go_enter Tryd.func44, Tryd.ntmps44
    go_wp2_with (at_make; refine wp_makeSt w rfl _ _ rfl n _ _ rfl rfl rfl rfl (by omega) ?_; intro w1 ho1 hb1 hs1; have HO1 := Lib.hid ho1; have HB1 := Lib.hid hb1; clear ho1 hb1 hs1)
    go_loopw [14] (fun i wr => ∃ k : Nat, k ≤ n ∧ i = .int .i64 (k : Int) ∧ Hid (OwnSt w.heap.size wr (.slice (some ⟨w.heap.size, 0, none⟩) n n) (wordK l n k)) ∧ Hid (Below w.heap.size w wr)) (fun i _ => n - (intOf i).toNat)
    case atStart => exact ⟨0, by omega, rfl, by rw [HW0.out]; exact HO1, HB1⟩
    case round =>
      clear HO1 HB1
      obtain ⟨k, hk, rfl, HO, HBE⟩ := hrel
      generalize wr = wa at *
      by_cases hlt : k < n
      · have hsrc := HC.out k hlt
        have hsrc2 : wa.cell? ⟨bb, off + k, none⟩ = some (.int .i64 (l.getD k 0)) := (HBE.out.cell (p := ⟨bb, off + k, none⟩) (World.block_lt_of_cell? w _ hsrc)).trans hsrc
        have hx := HR.out k hlt
        have hws := HWS.out k hlt
        have hwl := HWL.out k hk
        obtain ⟨i, hi⟩ := Int.eq_ofNat_of_zero_le (show 0 ≤ l.getD k 0 by omega)
        have hit := fun w => strconv_Itoa_small i (by omega) w
        have hnum : numA (l.getD k 0) = ⟨(Lib.decDigits i).toArray⟩ := by rw [hi]; rfl
        rw [hnum] at hws
        rw [hi] at hsrc2
        generalize (⟨(Lib.decDigits i).toArray⟩ : ByteArray) = y at *
        generalize wordK l n k = U at *
        have HIT := Lib.hid hit; have HWN := Lib.hid hws; have HUL := Lib.hid hwl
        clear hsrc hx hws hwl hi hnum hit
        go_wp2_with (go_at_call 52; ((with_reducible refine (HIT.out _).mono ?_); rintro e w3 ⟨rfl, rfl⟩; have hdst := HO.out.cellAt k (by rw [HUL.out]; exact hlt); have hfr := HO.out.frozenAt k; have hnew := HO.out.stored k y; rw [HWN.out] at hnew; have HW := Lib.hid hnew; have HB3 := Lib.hid (HBE.out.setCell (p := ⟨w.heap.size, k, none⟩) (Nat.le_refl _) (.string y)); clear hnew))
        go_roundw
        case rel => exact ⟨k + 1, by omega, by go_num, HW, HB3⟩
        case measure => simp [intOf]; omega
      · obtain rfl : k = n := by omega
        rw [HWA.out] at HO
        have HJN := Lib.hid (HJ.out wa HO.out)
        go_wp2_with (go_at_call 55; ((with_reducible refine HJN.out.mono ?_); rintro e w3 ⟨rfl, hb3⟩; have HB3 := Lib.hid (Below.step HBE.out hb3); clear hb3))
        go_ret
        exact ⟨rfl, HB3.out⟩
set_option maxRecDepth 100000 in
set_option maxHeartbeats 4000000 in
theorem swSide_any (v : Value) (l : List Int) (w : World) (h : Rd w v l) (hp : partsB l = true) : Calls Tryd.prog 39 #[v] w (NumS w (sideA l)) := by
  have h20 := (parts_facts hp).2.2.1
  have hrng := parts_rng hp
  have hsz := sideK_size l hrng
  obtain ⟨a, c, rfl, hlc, hcm, _, hcell⟩ := id h
  have hcell2 : ∀ k, k < l.length → ∃ bb off, a = some ⟨bb, off, none⟩ ∧ w.cell? ⟨bb, off + k, none⟩ = some (.int .i64 (l.getD k 0)) := by
    intro k hk
    rcases hcell with rfl | ⟨b, off, h1, h2⟩
    · simp at hk
    · exact ⟨b, off, h1, h2 k hk⟩
  have hsa0 : l.length = 0 → sideA l = ⟨#[45]⟩ := fun h => if_pos h
  have hsa1 : ¬ l.length = 0 → sideA l = sideK l l.length := fun h => if_neg h
  obtain ⟨n, hn⟩ : ∃ n, n = l.length := ⟨_, rfl⟩
  rw [← hn] at hlc h20 hcell2 hrng hsz hsa0 hsa1 ⊢
  unfold maxLen at hcm
  have HC := Lib.hid hcell2; have HR := Lib.hid hrng; have HZ := Lib.hid hsz; have HSA0 := Lib.hid hsa0; have HSA1 := Lib.hid hsa1
  clear hn hcell hcell2 hrng h hp hsz hsa0 hsa1
  generalize sideA l = RES at *
  go_enter Tryd.func39, Tryd.ntmps39
  go_wp2_with fail
  go_loopw [3, 8] (fun s i wr => ∃ k : Nat, k ≤ n ∧ i = .int .i64 (k : Int) ∧ s = .string (sideK l k) ∧ Hid (Below w.heap.size w wr)) (fun _ i _ => n - (intOf i).toNat)
  case atStart => exact ⟨0, by omega, rfl, rfl, Lib.hid (Below.refl _ _)⟩
  case round =>
    obtain ⟨k, hk, rfl, rfl, HBE⟩ := hrel
    generalize wr = wa at *
    by_cases hlt : k < n
    · obtain ⟨bb, off, rfl, hsrc⟩ := HC.out k hlt
      have hsrc2 : wa.cell? ⟨bb, off + k, none⟩ = some (.int .i64 (l.getD k 0)) := (HBE.out.cell (p := ⟨bb, off + k, none⟩) (World.block_lt_of_cell? w _ hsrc)).trans hsrc
      have hx := HR.out k hlt
      have hz := HZ.out k hk
      obtain ⟨i, hi⟩ := Int.eq_ofNat_of_zero_le (show 0 ≤ l.getD k 0 by omega)
      have hit := fun w => l1Num_any i w (by omega)
      have hnz := numA_size (x := (i : Int)) (by omega) (by omega)
      have hnx : sideK l (k + 1) = (if k = 0 then sideK l k else sideK l k ++ sepA) ++ numA (i : Int) := by rw [sideK, hi]
      rw [hi] at hsrc2
      generalize numA (i : Int) = y at *
      have hy2 : y.size ≤ 2 := hnz.2
      have HIT := Lib.hid hit
      by_cases hk0 : k = 0
      · subst hk0
        rw [if_pos rfl] at hnx
        have HNX := Lib.hid hnx
        have hsrc3 : wa.cell? ⟨bb, off, none⟩ = some (.int .i64 (i : Int)) := by simpa using hsrc2
        have ht0 : (sideK l 0).size ≤ 60 := by omega
        generalize sideK l 0 = T at *
        clear hsrc hx hi hit hnz hnx hz
        go_wp2_with (go_at_call 54; ((with_reducible refine (HIT.out _).mono ?_); rintro e w3 ⟨rfl, hb3⟩; have HB3 := Lib.hid (Below.step HBE.out hb3); clear hb3))
        go_roundw
        case rel => exact ⟨1, by omega, by go_num, by rw [HNX.out], HB3⟩
        case measure => simp [intOf]; omega
      · rw [if_neg hk0] at hnx
        have HNX := Lib.hid hnx
        have ht0 : (sideK l k).size ≤ 60 := by omega
        have hkp : (0 : Int) < (k : Int) := by omega
        have hsp : sepA = ⟨#[43]⟩ := rfl
        rw [hsp] at HNX
        generalize sideK l k = T at *
        have ht1 : (T ++ (⟨#[43]⟩ : ByteArray)).size ≤ 61 := by rw [ByteArray.size_append]; show T.size + 1 ≤ 61; omega
        clear hsrc hx hi hit hnz hnx hz hsp
        go_wp2_with (go_at_call 54; ((with_reducible refine (HIT.out _).mono ?_); rintro e w3 ⟨rfl, hb3⟩; have HB3 := Lib.hid (Below.step HBE.out hb3); clear hb3))
        go_roundw
        case rel => exact ⟨k + 1, by omega, by go_num, by rw [HNX.out], HB3⟩
        case measure => simp [intOf]; omega
    · obtain rfl : k = n := by omega
      have hz := (HZ.out k hk).1
      by_cases hk0 : k = 0
      · subst hk0
        have hres := HSA0.out rfl
        subst hres
        have he : sideK l 0 = ByteArray.empty := rfl
        rw [he]
        clear hz he
        go_wp2
        go_ret
        exact ⟨rfl, HBE.out⟩
      · have hres := HSA1.out hk0
        subst hres
        generalize sideK l k = T at *
        have hne := str_ne (T := T) (by omega)
        have hne2 := hne.1; have hne3 := hne.2
        clear hne
        clear hz
        go_wp2
        go_ret
        exact ⟨rfl, HBE.out⟩
theorem tx_impl {w0 W W' : World} {g : Nat} {u1 u2 : Value} (h : Hid (Below w0.heap.size w0 W ∧ Box2 49 W g u1 u2)) (hb : Below W.heap.size W W') : Hid (Below w0.heap.size w0 W' ∧ Box2 49 W' g u1 u2) := ⟨Below.step h.out.1 hb, h.out.2.below hb⟩
theorem txb_impl {w0 W : World} {g : Nat} {u1 u2 : Value} (h : Hid (Below w0.heap.size w0 W ∧ Box2 49 W g u1 u2)) : Below w0.heap.size w0 W := h.out.1
set_option maxHeartbeats 2000000 in
set_option maxRecDepth 100000 in
theorem weedText_any (t b : List Int) (w : World) (a1 a2 : Option Addr) (n1 c1 n2 c2 : Nat) (h1 : Rd w (.slice a1 n1 c1) t) (h2 : Rd w (.slice a2 n2 c2) b) (hw : weedB t b = true) :
    Calls Tryd.prog 26 #[.agg #[.slice a1 n1 c1, .slice a2 n2 c2]] w (NumS w (weedT t b)) := by
  have e1 := (weed_facts hw).1; have e2 := (weed_facts hw).2.1
  have HT1 := Lib.hid (fun W (hb : Below w.heap.size w W) => partsText_any _ t W (h1.below hb) e1)
  have HT2 := Lib.hid (fun W (hb : Below w.heap.size w W) => partsText_any _ b W (h2.below hb) e2)
  have z1 := sideA_size e1; have z2 := sideA_size e2
  have hA := Box2.new 49 w (.slice a1 n1 c1) (.slice a2 n2 c2)
  have H0 : Hid (Below w.heap.size w (w.alloc (.cells #[.slice a1 n1 c1, .slice a2 n2 c2] 49)).drew ∧ Box2 49 (w.alloc (.cells #[.slice a1 n1 c1, .slice a2 n2 c2] 49)).drew w.heap.size (.slice a1 n1 c1) (.slice a2 n2 c2)) := ⟨(Below.alloc1 w _).drew, hA⟩
  have k0 := hA.c0; have k1 := hA.c1
  unfold weedT
  generalize sideA t = T at *
  generalize sideA b = B at *
  have z3 : (T ++ (⟨#[124]⟩ : ByteArray)).size ≤ 61 := by rw [ByteArray.size_append]; show T.size + 1 ≤ 61; omega
  clear hw e1 e2 h1 h2 hA
  go_enter Tryd.func26, Tryd.ntmps26
  go_wp2_with fail
  go_region_with (first
    | (go_at_call 44; ((with_reducible refine (HT1.out _ (txb_impl (by assumption))).mono ?_); rintro e' w1 ⟨rfl, hb'⟩; have HX1 := tx_impl (by assumption) hb'; have y0 := HX1.out.2.c0; have y1 := HX1.out.2.c1; clear hb'))
    | (go_at_call 44; ((with_reducible refine (HT2.out _ (txb_impl (by assumption))).mono ?_); rintro e' w2 ⟨rfl, hb'⟩; have HX2 := tx_impl (by assumption) hb'; have y2 := HX2.out.2.c0; have y3 := HX2.out.2.c1; clear hb')))
  all_goals
    go_wp2
    go_ret
    exact ⟨rfl, txb_impl (by assumption)⟩
theorem tx_spec {w0 W W' : World} {g : Nat} {u1 u2 : Value} (h : Hid (Below w0.heap.size w0 W ∧ Box2 29 W g u1 u2)) (hb : Below W.heap.size W W') : Hid (Below w0.heap.size w0 W' ∧ Box2 29 W' g u1 u2) := ⟨Below.step h.out.1 hb, h.out.2.below hb⟩
theorem txb_spec {w0 W : World} {g : Nat} {u1 u2 : Value} (h : Hid (Below w0.heap.size w0 W ∧ Box2 29 W g u1 u2)) : Below w0.heap.size w0 W := h.out.1
set_option maxHeartbeats 2000000 in
set_option maxRecDepth 100000 in
theorem swText_any (t b : List Int) (w : World) (a1 a2 : Option Addr) (n1 c1 n2 c2 : Nat) (h1 : Rd w (.slice a1 n1 c1) t) (h2 : Rd w (.slice a2 n2 c2) b) (hw : weedB t b = true) :
    Calls Tryd.prog 22 #[.agg #[.slice a1 n1 c1, .slice a2 n2 c2]] w (NumS w (weedT t b)) := by
  have e1 := (weed_facts hw).1; have e2 := (weed_facts hw).2.1
  have HT1 := Lib.hid (fun W (hb : Below w.heap.size w W) => swSide_any _ t W (h1.below hb) e1)
  have HT2 := Lib.hid (fun W (hb : Below w.heap.size w W) => swSide_any _ b W (h2.below hb) e2)
  have z1 := sideA_size e1; have z2 := sideA_size e2
  have hA := Box2.new 29 w (.slice a1 n1 c1) (.slice a2 n2 c2)
  have H0 : Hid (Below w.heap.size w (w.alloc (.cells #[.slice a1 n1 c1, .slice a2 n2 c2] 29)).drew ∧ Box2 29 (w.alloc (.cells #[.slice a1 n1 c1, .slice a2 n2 c2] 29)).drew w.heap.size (.slice a1 n1 c1) (.slice a2 n2 c2)) := ⟨(Below.alloc1 w _).drew, hA⟩
  have k0 := hA.c0; have k1 := hA.c1
  unfold weedT
  generalize sideA t = T at *
  generalize sideA b = B at *
  have z3 : (T ++ (⟨#[124]⟩ : ByteArray)).size ≤ 61 := by rw [ByteArray.size_append]; show T.size + 1 ≤ 61; omega
  clear hw e1 e2 h1 h2 hA
  go_enter Tryd.func22, Tryd.ntmps22
  go_wp2_with fail
  go_region_with (first
    | (go_at_call 39; ((with_reducible refine (HT1.out _ (txb_spec (by assumption))).mono ?_); rintro e' w1 ⟨rfl, hb'⟩; have HX1 := tx_spec (by assumption) hb'; have y0 := HX1.out.2.c0; have y1 := HX1.out.2.c1; clear hb'))
    | (go_at_call 39; ((with_reducible refine (HT2.out _ (txb_spec (by assumption))).mono ?_); rintro e' w2 ⟨rfl, hb'⟩; have HX2 := tx_spec (by assumption) hb'; have y2 := HX2.out.2.c0; have y3 := HX2.out.2.c1; clear hb')))
  all_goals
    go_wp2
    go_ret
    exact ⟨rfl, txb_spec (by assumption)⟩
def ok_SeaweedText (t b : List Int) : Bool := weedB t b
def res_SeaweedText (t b : List Int) : ByteArray := if weedB t b = true then weedT t b else ByteArray.empty
set_option maxHeartbeats 2000000 in
theorem impl_SeaweedText (t b : List Int) (w : World) (u1 u2 : Value) (h1 : Rd w u1 t) (h2 : Rd w u2 b) (m1 : t.length ≤ 1048576) (m2 : b.length ≤ 1048576) :
    Calls Tryd.prog 16 #[.agg #[u1, u2]] w (GivesT w (res_SeaweedText t b) (ok_SeaweedText t b)) := by
  unfold res_SeaweedText ok_SeaweedText
  have B1 := Below.alloc1 w (.cells #[u1, u2] 29)
  have hA := Box2.new 29 w u1 u2
  have k0 := hA.c0; have k1 := hA.c1
  have HB := Lib.hid B1
  have g1 := h1.below B1; have g2 := h2.below B1
  obtain ⟨a1, n1, rfl, _⟩ := h1
  obtain ⟨a2, n2, rfl, _⟩ := h2
  cases e : weedB t b with
  | true =>
    rw [if_pos rfl]
    have HR := Lib.hid (readWeed_yes t b _ _ _ g1 g2 e)
    have HS := Lib.hid (fun W hb => weedText_any t b W a1 a2 _ _ _ _ (g1.below hb) (g2.below hb) e)
    clear hA B1 e g1 g2 m1 m2
    generalize weedT t b = TT at *
    generalize t.length = l1 at *
    generalize b.length = l2 at *
    go_enter Tryd.func16, Tryd.ntmps16
    go_wp2_with fail
    refine HR.out.mono ?_
    rintro e w1 ⟨rfl, hb1⟩
    have HX1 := Lib.hid (Below.step HB.out hb1)
    have HSW := Lib.hid (HS.out (w1.alloc (.cells #[.slice a1 l1 n1, .slice a2 l2 n2] 49)) (hb1.alloc hb1.size _))
    have hw := Box2.new 49 w1 (.slice a1 l1 n1) (.slice a2 l2 n2)
    have q0 := hw.c0; have q1 := hw.c1
    clear hb1 hw
    go_wp2_with (go_at_call 26; ((with_reducible refine HSW.out.mono ?_); rintro e w2 ⟨rfl, hb2⟩; have HX2 := Lib.hid (Below.step (HX1.out.alloc HX1.out.size _) hb2); clear hb2))
    go_ret2
    exact ⟨rfl, HX2.out⟩
  | false =>
    rw [if_neg (by simp)]
    have HR := Lib.hid (readWeed_no t b _ _ _ g1 g2 e)
    clear hA B1 e g1 g2 m1 m2
    generalize t.length = l1 at *
    generalize b.length = l2 at *
    go_enter Tryd.func16, Tryd.ntmps16
    go_wp2_with fail
    refine HR.out.mono ?_
    rintro e w1 ⟨rfl, hb1⟩
    have HX1 := Lib.hid (Below.step HB.out hb1)
    clear hb1
    go_wp2_with fail
    go_ret2
    exact ⟨rfl, HX1.out.alloc HX1.out.size _⟩
set_option maxHeartbeats 2000000 in
theorem spec_SeaweedText (t b : List Int) (w : World) (u1 u2 : Value) (h1 : Rd w u1 t) (h2 : Rd w u2 b) (m1 : t.length ≤ 1048576) (m2 : b.length ≤ 1048576) :
    Calls Tryd.prog 15 #[.agg #[u1, u2]] w (GivesT w (res_SeaweedText t b) (ok_SeaweedText t b)) := by
  unfold res_SeaweedText ok_SeaweedText
  have B1 := Below.alloc1 w (.cells #[u1, u2] 29)
  have hA := Box2.new 29 w u1 u2
  have k0 := hA.c0; have k1 := hA.c1
  have HB := Lib.hid B1
  have g1 := h1.below B1; have g2 := h2.below B1
  have hg := swGood_any t b _ u1 u2 g1 g2 m1 m2
  obtain ⟨a1, n1, rfl, _⟩ := h1
  obtain ⟨a2, n2, rfl, _⟩ := h2
  cases e : weedB t b with
  | true =>
    rw [e] at hg
    rw [if_pos rfl]
    have HR := Lib.hid hg
    have HS := Lib.hid (fun W hb => swText_any t b W a1 a2 _ _ _ _ (g1.below hb) (g2.below hb) e)
    have HA := Lib.hid hA
    clear hA B1 e g1 g2 m1 m2 hg
    generalize weedT t b = TT at *
    generalize t.length = l1 at *
    generalize b.length = l2 at *
    go_enter Tryd.func15, Tryd.ntmps15
    go_wp2_with fail
    refine HR.out.mono ?_
    rintro e w1 ⟨rfl, hb1⟩
    have HX1 := Lib.hid (Below.step HB.out hb1)
    have hq := HA.out.below hb1
    have q0 := hq.c0; have q1 := hq.c1
    have HSW := Lib.hid (HS.out w1 hb1)
    clear hb1 k0 k1 hq
    go_wp2_with (go_at_call 22; ((with_reducible refine HSW.out.mono ?_); rintro e w2 ⟨rfl, hb2⟩; have HX2 := Lib.hid (Below.step HX1.out hb2); clear hb2))
    go_ret2
    exact ⟨rfl, HX2.out⟩
  | false =>
    rw [e] at hg
    rw [if_neg (by simp)]
    have HR := Lib.hid hg
    clear hA B1 e g1 g2 m1 m2 hg
    generalize t.length = l1 at *
    generalize b.length = l2 at *
    go_enter Tryd.func15, Tryd.ntmps15
    go_wp2_with fail
    refine HR.out.mono ?_
    rintro e w1 ⟨rfl, hb1⟩
    have HX1 := Lib.hid (Below.step HB.out hb1)
    clear hb1
    go_wp2_with fail
    go_ret2
    exact ⟨rfl, HX1.out⟩
end Go.Proofs.YtgaaddfipkdlaaaDoor
