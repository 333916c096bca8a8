/- PairOfSteps: the program's function and the model's. -/
import Derived.Test.YtpanajnlkacmdaaParseM
import Derived.Test.YtpanajnlkacmdaaParseGood
import Derived.Test.YtpanajnlkacmdaaText
namespace Go.Proofs.Ytpanajnlkacmdaa
open Go.RowKit
set_option linter.unusedSimpArgs false
set_option linter.unusedVariables false

def upU (x : Int) : UInt8 := if 2 ≤ x then 41 else 40
def dnU (x : Int) : UInt8 := if x.tmod 2 = 1 then 41 else 40
def bytesOf (f : Int → UInt8) (l : List Int) (k : Nat) : List UInt8 := (l.take k).map f
theorem bytesOf_succ (f : Int → UInt8) (l : List Int) (k : Nat) (h : k < l.length) : bytesOf f l (k + 1) = bytesOf f l k ++ [f (l.getD k 0)] := by
  rw [bytesOf, List.take_succ_eq_append_getElem h, List.map_append, bytesOf]
  simp [List.getD, h]
theorem bytesOf_len (f : Int → UInt8) (l : List Int) (k : Nat) (h : k ≤ l.length) : (bytesOf f l k).length = k := by
  rw [bytesOf, List.length_map, List.length_take]; omega
def txtOf (f : Int → UInt8) (l : List Int) (k : Nat) : ByteArray := ⟨(bytesOf f l k).toArray⟩
theorem txtOf_succ (f : Int → UInt8) (l : List Int) (k : Nat) (h : k < l.length) : txtOf f l (k + 1) = txtOf f l k ++ ⟨#[f (l.getD k 0)]⟩ := by
  apply ByteArray.ext
  simp only [txtOf, bytesOf_succ f l k h]
  simp
theorem txtOf_size (f : Int → UInt8) (l : List Int) (k : Nat) (h : k ≤ l.length) : (txtOf f l k).size = k := by
  show (bytesOf f l k).toArray.size = k
  rw [List.size_toArray, bytesOf_len f l k h]
def stB (l : List Int) : Bool := decide (l.length ≤ 12) && allFrom (fun i => inB (l.getD i 0) 0 3) 0 l.length
theorem stB_bad {l : List Int} {k : Nat} (hk : k < l.length) (hx : ¬ (0 ≤ l.getD k 0 ∧ l.getD k 0 ≤ 3)) : stB l = false := by
  unfold stB
  rw [Bool.and_eq_false_iff]
  right
  cases h : allFrom (fun i => inB (l.getD i 0) 0 3) 0 l.length with
  | false => rfl
  | true =>
    have := (allFrom_iff _ _ _).1 h k (by omega) (by omega)
    exact absurd (inB_iff.1 this) hx
theorem stB_long {l : List Int} (h : 12 < l.length) : stB l = false := by
  unfold stB; rw [decide_eq_false (by omega)]; rfl
theorem stB_good {l : List Int} (h12 : l.length ≤ 12) (h : ∀ k, k < l.length → 0 ≤ l.getD k 0 ∧ l.getD k 0 ≤ 3) : stB l = true := by
  unfold stB
  rw [decide_eq_true h12, Bool.true_and, allFrom_iff]
  intro i _ hi
  have := h i (by omega)
  exact inB_yes this.1 this.2
theorem stB_facts {l : List Int} (h : stB l = true) : l.length ≤ 12 ∧ ∀ k, k < l.length → 0 ≤ l.getD k 0 ∧ l.getD k 0 ≤ 3 := by
  unfold stB at h
  rw [Bool.and_eq_true, decide_eq_true_eq] at h
  exact ⟨h.1, fun k hk => inB_iff.1 ((allFrom_iff _ _ _).1 h.2 k (by omega) (by omega))⟩
def psOf (l : List Int) : Option (List Int × List Int) := if stB l then pmOf (txtOf upU l l.length) (txtOf dnU l l.length) else none
def ok_PairOfSteps (l : List Int) : Bool := (psOf l).isSome
def res1_PairOfSteps (l : List Int) : List Int := ((psOf l).getD ([], [])).1
def res2_PairOfSteps (l : List Int) : List Int := ((psOf l).getD ([], [])).2
theorem len_PairOfSteps (l : List Int) : (res1_PairOfSteps l).length ≤ 1000000 ∧ (res2_PairOfSteps l).length ≤ 1000000 := by
  unfold res1_PairOfSteps res2_PairOfSteps psOf
  split
  · have := pmOf_len (a := txtOf upU l l.length) (b := txtOf dnU l l.length); omega
  · simp
/-- two texts of one size: a pair, if both can be parsed -/
theorem pmOf_same {A B : ByteArray} (h : A.size = B.size) : pmOf A B = if ok_ParseSystem A && ok_ParseSystem B then some (res_ParseSystem A, res_ParseSystem B) else none := by
  unfold pmOf
  cases hA : ok_ParseSystem A with
  | false => simp
  | true =>
    cases hB : ok_ParseSystem B with
    | false => simp
    | true =>
      obtain ⟨a1, a2⟩ := parse_good hA
      obtain ⟨b1, b2⟩ := parse_good hB
      have : pairOk (res_ParseSystem A) (res_ParseSystem B) = true := by
        unfold pairOk; rw [a1, b1, decide_eq_true (by omega)]; rfl
      rw [this]; rfl

theorem byteN_bytes (s : ByteArray) (k : Nat) : byteN s k = (s.data.toList.getD k 0).toNat := rfl
theorem pmS_join {A B : ByteArray} (hA : ∀ k, k < A.size → byteN A k ≠ 124) : pmS (A ++ ⟨#[124]⟩ ++ B) = pmOf A B := by
  have hl : (A ++ ⟨#[124]⟩ ++ B).data.toList = A.data.toList ++ (124 : UInt8) :: B.data.toList := by simp
  have hs : (A ++ ⟨#[124]⟩ ++ B).size = A.size + 1 + B.size := by
    rw [ByteArray.size_append, ByteArray.size_append]; rfl
  have hsA : A.data.toList.length = A.size := by simp
  have hb : byteN (A ++ ⟨#[124]⟩ ++ B) A.size = 124 := by
    rw [byteN_bytes, hl, List.getD, List.getElem?_append_right (by omega), hsA, Nat.sub_self]
    rfl
  have hf : ∀ k, k < A.size → byteN (A ++ ⟨#[124]⟩ ++ B) k ≠ 124 := by
    intro k hk
    rw [byteN_bytes, hl, List.getD, List.getElem?_append_left (by omega)]
    exact hA k hk
  rw [pmS_some (by omega) hb hf]
  have e1 : (A ++ ⟨#[124]⟩ ++ B).extract 0 A.size = A := by
    apply ByteArray.ext
    apply Array.toList_inj.1
    simp only [ByteArray.data_extract, Array.toList_extract, hl, List.extract_eq_take_drop, List.drop_zero, Nat.sub_zero]
    rw [List.take_append_of_le_length (by omega), List.take_of_length_le (by omega)]
  have e2 : (A ++ ⟨#[124]⟩ ++ B).extract (A.size + 1) (A ++ ⟨#[124]⟩ ++ B).size = B := by
    apply ByteArray.ext
    apply Array.toList_inj.1
    simp only [ByteArray.data_extract, Array.toList_extract, hl, List.extract_eq_take_drop, hs]
    rw [List.drop_append, hsA, List.drop_of_length_le (by omega), show A.size + 1 - A.size = 1 by omega]
    simp
    exact List.take_of_length_le (by simp)
  rw [e1, e2]
theorem up_noBar (l : List Int) (k : Nat) (hk : k < (txtOf upU l l.length).size) : byteN (txtOf upU l l.length) k ≠ 124 := by
  rw [txtOf_size _ _ _ (Nat.le_refl _)] at hk
  rw [byteN_bytes]
  show ((bytesOf upU l l.length).getD k 0).toNat ≠ 124
  have hm : (bytesOf upU l l.length).getD k 0 = upU (l.getD k 0) := by simp [bytesOf, List.getD, hk]
  rw [hm]; unfold upU; split <;> decide

theorem results_sps (tmps : Array Value) (w : World) (g : Nat) (v1 v2 : Value) (ok : Bool) (hg : Box2 28 w g v1 v2) (h2 : tmps.getD 2 undef = .pointer (some ⟨g, 0, none⟩)) (h3 : tmps.getD 3 undef = .bool ok) :
    (results Try.f37 tmps).run Try.prog w = .ok (.tuple #[.agg #[v1, v2], .bool ok]) w := by
  have h2' : tmps[2]?.getD undef = .pointer (some ⟨g, 0, none⟩) := by simpa using h2
  have h3' : tmps[3]?.getD undef = .bool ok := by simpa using h3
  have hr : Try.f37.results = #[.cell 2 28, .tmp 3] := by kernel_rfl
  simp [results, hr, h2', h3', asAddr, run_loadMea w g v1 v2 hg]
theorem step_cases {x : Int} (h : 0 ≤ x ∧ x ≤ 3) : x = 0 ∨ x = 1 ∨ x = 2 ∨ x = 3 := by omega

set_option maxHeartbeats 8000000 in
theorem spec_PairOfSteps (l : List Int) (w : World) (u : Value) (h : Rd w u l) (m : l.length ≤ 1048576) :
    Calls Try.prog 37 #[u] w (GivesM w (res1_PairOfSteps l) (res2_PairOfSteps l) (ok_PairOfSteps l)) := by
  unfold res1_PairOfSteps res2_PairOfSteps ok_PairOfSteps psOf
  have B1 := Below.alloc1 w (.cells #[.slice none 0 0, .slice none 0 0] 28)
  have hR := Box2.new 28 w (.slice none 0 0) (.slice none 0 0)
  have hrd := h.below B1
  have hall := fun R hR => l1All_any u l 0 3 R _ hrd hR
  obtain ⟨a, c, rfl, hlc, hcm, hnc, hcell⟩ := hrd
  clear h
  unfold maxLen at hcm
  have HR := Lib.hid hR; have HB := Lib.hid B1
  have g0 := hR.c0; have g1 := hR.c1; have g2 := hR.free 0; have g3 := hR.free 1
  obtain ⟨n, hn⟩ : ∃ n, n = l.length := ⟨_, rfl⟩
  have HN := Lib.hid hn
  cases hst : stB l with
  | false =>
    simp only [Bool.false_eq_true, if_false, Option.getD_none, Option.isSome_none]
    by_cases h12 : l.length ≤ 12
    · have hf : allFrom (fun i => inB (l.getD i 0) 0 3) 0 l.length = false := by
        unfold stB at hst; rw [decide_eq_true h12, Bool.true_and] at hst; exact hst
      have HAL := Lib.hid (hall false hf)
      rw [← hn] at hlc h12 HAL ⊢
      clear hall hf hst hcell hnc hR B1 hn
      go_enter Try.func37, Try.ntmps37
      go_wp2_with fail
      refine HAL.out.mono ?_
      rintro e w1 ⟨rfl, rfl⟩
      go_wp2_with fail
      exact bodyPost_ret (results_sps _ _ w.heap.size _ _ false HR.out rfl rfl) rfl ⟨_, _, rfl, Own.nil _ _, Own.nil _ _, ApartV.nil _, HB.out⟩
    · rw [← hn] at hlc h12 ⊢
      have h13 : 12 < n := by omega
      clear hall hst hcell hnc hR B1 hn h12
      go_enter Try.func37, Try.ntmps37
      go_wp2_with fail
      exact bodyPost_ret (results_sps _ _ w.heap.size _ _ false HR.out rfl rfl) rfl ⟨_, _, rfl, Own.nil _ _, Own.nil _ _, ApartV.nil _, HB.out⟩
  | true =>
    simp only [if_true]
    obtain ⟨h12, hin⟩ := stB_facts hst
    have hf : allFrom (fun i => inB (l.getD i 0) 0 3) 0 l.length = true := by
      unfold stB at hst; rw [decide_eq_true h12, Bool.true_and] at hst; exact hst
    have HAL := Lib.hid (hall true hf)
    have zA := txtOf_size upU l l.length (Nat.le_refl _)
    have zB := txtOf_size dnU l l.length (Nat.le_refl _)
    rw [pmOf_same (zA.trans zB.symm)]
    have HA := Lib.hid (fun w => ahParse_any (txtOf upU l l.length) w (by omega)); have HBB := Lib.hid (fun w => ahParse_any (txtOf dnU l l.length) w (by omega))
    have HIN := Lib.hid hin; have HC := Lib.hid hcell
    have HS1 := Lib.hid (fun k hk => txtOf_succ upU l k hk); have HS2 := Lib.hid (fun k hk => txtOf_succ dnU l k hk)
    have HZ1 := Lib.hid (fun k hk => txtOf_size upU l k hk); have HZ2 := Lib.hid (fun k hk => txtOf_size dnU l k hk)
    generalize ok_ParseSystem (txtOf upU l l.length) = oA at *
    generalize ok_ParseSystem (txtOf dnU l l.length) = oB at *
    generalize res_ParseSystem (txtOf upU l l.length) = rA at *
    generalize res_ParseSystem (txtOf dnU l l.length) = rB at *
    have HF : Hid (n = l.length) := hn
    rw [← hn] at hlc h12 HAL HA HBB HIN HC HS1 HS2 HZ1 HZ2 ⊢
    clear hall hf hst hcell hnc hR B1 hn hin zA zB
    have common : ∀ (K : Prop), K → K := fun _ h => h
    clear common
    cases oA <;> cases oB
    all_goals
      simp only [Bool.true_and, Bool.false_and, Bool.and_false, Bool.and_true, Bool.false_eq_true, if_false, if_true, Option.getD_none, Option.isSome_none, Option.getD_some, Option.isSome_some]
      go_enter Try.func37, Try.ntmps37
      go_wp2_with fail
      refine HAL.out.mono ?_
      rintro e w1 ⟨rfl, rfl⟩
      go_wp2_with fail
      clear g0 g1 g2 g3
      go_loop [4, 5, 23] (fun s t i => ∃ k : Nat, k ≤ n ∧ i = .int .i64 (k : Int) ∧ s = .string (txtOf upU l k) ∧ t = .string (txtOf dnU l k)) (fun _ _ i => n - (intOf i).toNat)
      case atStart => exact ⟨0, by omega, rfl, rfl, rfl⟩
      case round =>
        obtain ⟨k, hk, rfl, rfl, rfl⟩ := hrel
        by_cases hlt : k < n
        · rcases HC.out with h0 | ⟨b, off, rfl, hcell⟩
          · exfalso; rw [HF.out, h0] at hlt; simp at hlt
          have hc := hcell k hlt
          have hx := HIN.out k hlt
          have hs1 := HS1.out k hlt; have hs2 := HS2.out k hlt
          have hz1 := HZ1.out k hk; have hz2 := HZ2.out k hk
          have hz1' : (txtOf upU l k).size ≤ 12 := by omega
          have hz2' : (txtOf dnU l k).size ≤ 12 := by omega
          clear hcell hz1 hz2
          generalize l.getD k 0 = x at *
          rcases step_cases hx with rfl | rfl | rfl | rfl
          all_goals
            simp only [upU, dnU] at hs1 hs2
            have HY1 := Lib.hid hs1; have HY2 := Lib.hid hs2
            clear hs1 hs2 hx
            generalize hT1 : txtOf upU l k = T1 at *
            generalize hT2 : txtOf dnU l k = T2 at *
            clear hT1 hT2
            go_wp2
            go_round
            case rel => exact ⟨k + 1, by omega, by go_num, by rw [HY1.out]; rfl, by rw [HY2.out]; rfl⟩
            case measure => simp [intOf]; omega
        · obtain rfl : k = n := by omega
          generalize txtOf upU l k = T1 at *
          generalize txtOf dnU l k = T2 at *
          clear hlt hk HIN HC HS1 HS2 HZ1 HZ2
          go_wp2_with fail
          refine (HA.out _).mono ?_
          rintro e w2 ⟨v1, rfl, ho2, hb2⟩
          obtain ⟨x1, y1, z1, rfl⟩ := ho2.form'
          have HO2 := Lib.hid ho2; have HR2 := Lib.hid (HR.out.below hb2); have HB2 := Lib.hid (Below.step HB.out hb2)
          clear ho2 hb2
          go_wp2_with fail
          refine (HBB.out _).mono ?_
          rintro e w3 ⟨v2, rfl, ho3, hb3⟩
          obtain ⟨x2, y2, z2, rfl⟩ := ho3.form'
          have AP := Lib.hid (show ApartV (.slice x1 y1 z1) (.slice x2 y2 z2) from fun k hk hk' => by have h5 := (HO2.out.lt k hk).2; have h6 := (ho3.lt k hk').1; omega)
          have HO3 := Lib.hid ho3; have HO23 := Lib.hid (HO2.out.below hb3)
          have HR3 := Lib.hid (HR2.out.below hb3); have HB3 := Lib.hid (Below.step HB2.out hb3)
          have g0 := HR3.out.c0; have g1 := HR3.out.c1; have g2 := HR3.out.free 0; have g3 := HR3.out.free 1
          have hlt := HR.out.lt; have hs2 := HB2.out.size; have hr2 := HR2.out.lt; have hs1 := HB.out.size
          clear ho3 hb3
          go_wp2_with fail
          have G2 : ∀ k, (Value.slice x1 y1 z1).ownBlock = some k → (some w.heap.size : Option Nat) ≠ some k := fun k hk e => by have h5 := (HO23.out.lt k hk).1; simp at e; omega
          have G3 : ∀ k, (Value.slice x2 y2 z2).ownBlock = some k → (some w.heap.size : Option Nat) ≠ some k := fun k hk e => by have h5 := (HO3.out.lt k hk).1; simp at e; omega
          first
            | exact bodyPost_ret (results_sps _ _ w.heap.size _ _ true ((HR3.out.set0 _).set1 _) rfl rfl) rfl ⟨_, _, rfl, (HO23.out.grown (grown_trans grown_setCell grown_setCell) G2).mono hs1, (HO3.out.grown (grown_trans grown_setCell grown_setCell) G3).mono hs2, AP.out, (HB3.out.setCell (p := ⟨w.heap.size, 0, none⟩) (Nat.le_refl _) _).setCell (p := ⟨w.heap.size, 1, none⟩) (Nat.le_refl _) _⟩
            | exact bodyPost_ret (results_sps _ _ w.heap.size _ _ false ((HR3.out.set0 _).set1 _) rfl rfl) rfl ⟨_, _, rfl, Own.nil _ _, Own.nil _ _, ApartV.nil _, (HB3.out.setCell (p := ⟨w.heap.size, 0, none⟩) (Nat.le_refl _) _).setCell (p := ⟨w.heap.size, 1, none⟩) (Nat.le_refl _) _⟩

theorem results_ips (tmps : Array Value) (w : World) (g : Nat) (v1 v2 : Value) (ok : Bool) (hg : Box2 28 w g v1 v2) (h2 : tmps.getD 2 undef = .pointer (some ⟨g, 0, none⟩)) (h3 : tmps.getD 3 undef = .bool ok) :
    (results Try.f39 tmps).run Try.prog w = .ok (.tuple #[.agg #[v1, v2], .bool ok]) w := by
  have h2' : tmps[2]?.getD undef = .pointer (some ⟨g, 0, none⟩) := by simpa using h2
  have h3' : tmps[3]?.getD undef = .bool ok := by simpa using h3
  have hr : Try.f39.results = #[.cell 2 28, .tmp 3] := by kernel_rfl
  simp [results, hr, h2', h3', asAddr, run_loadMea w g v1 v2 hg]
theorem OwnB.lt {B : Nat} {w : World} {v : Value} {l : List UInt8} (h : OwnB B w v l) : ∀ k, v.ownBlock = some k → B ≤ k ∧ k < w.heap.size := World.ownsRow.lt h
theorem OwnB.nil (B : Nat) (w : World) : OwnB B w (.slice none 0 0) [] := World.ownsRow_nil w B _ _
theorem OwnB.grown {B : Nat} {w w' : World} {v : Value} {l : List UInt8} {row : Option Nat} (h : OwnB B w v l) (hg : w.grownBy w' row) (hne : ∀ k, v.ownBlock = some k → row ≠ some k) : OwnB B w' v l :=
  World.ownsRow.kept h hg (by
    cases e : v.ownBlock with
    | none => exact .inl rfl
    | some k => exact .inr fun e' => hne k e e'.symm)
theorem OwnB.form {B : Nat} {w : World} {v : Value} {l : List UInt8} (h : OwnB B w v l) : ∃ a c, v = .slice a l.length c := by
  rcases h.2 with ⟨rfl, hn⟩ | ⟨g, cap, cur, rfl, _⟩
  · exact ⟨none, 0, by rw [hn]⟩
  · exact ⟨_, cap, rfl⟩
theorem wp_appendU8 {ops : Array Oper} {rest : List Oper} {o : Oper} {a : Act} {Q : Exit → Act → World → Prop} (w : World)
    (hg : o.guard = none) (s x : Operand) (hop : o.op = Op.call { callee := Callee.builtin Builtin.append, args := #[s, x], argTypes := #[77, 77] })
    (B g : Nat) (v : Value) (xs : List UInt8) (y : UInt8) (hs : a.eval s = v) (hx : a.eval x = .slice (some ⟨g, 0, none⟩) 1 1) (hc : w.cell? ⟨g, 0, none⟩ = some (.int .u8 (y.toNat : Int))) (hown : OwnB B w v xs) (hlen : xs.length + 1 ≤ 1000000000) (hB : B ≤ w.heap.size)
    (hK : ∀ v' w', OwnB B w' v' (xs ++ [y]) → w.grownBy w' v.ownBlock → Below B w w' → (∀ k, v'.ownBlock = some k → v.ownBlock = some k ∨ w.heap.size ≤ k) → wpList Try.prog ops Q rest (a.put o.dst v') w') :
    wpList Try.prog ops Q (o :: rest) a w := by
  obtain ⟨i0, hi0, hz0, hz1, hz2⟩ := info_parts infoU8
  have hnews : ∀ j u, ([.int .u8 (y.toNat : Int)] : List Value)[j]? = some u → w.cell? ((⟨g, 0, none⟩ : Addr).add j) = some u := by
    intro j z hj
    have : j = 0 := by
      have := (List.getElem?_eq_some_iff.1 hj).1
      simp at this; exact this
    subst this
    simp at hj; subst hj
    exact hc
  have hones : ∀ u ∈ ([.int .u8 (y.toNat : Int)] : List Value), u.oneCell' = true := fun u hu => by simp at hu; rw [hu]; rfl
  obtain ⟨v', w', hr, h1, h2, _⟩ := run_append_own (P := Try.prog) w B 77 o.type 5 i0 (.int .u8 0) 1 1 Try.underlying77 hi0 hz0 hz1 hz2 rfl (by decide) v xs.length (bytesV xs) hown ⟨g, 0, none⟩ 1 1 [.int .u8 (y.toNat : Int)] rfl hnews hones (by unfold maxLen; omega) (by omega) hB
  have h3 := append_where w B 77 o.type 5 i0 (.int .u8 0) 1 1 Try.underlying77 hi0 hz0 hz1 hz2 rfl (by decide) v xs.length (bytesV xs) hown ⟨g, 0, none⟩ 1 1 [.int .u8 (y.toNat : Int)] rfl hnews hones (by unfold maxLen; omega) (by omega) hB v' w' hr
  refine wpList_plain hg fun _ hK' => ?_
  unfold Oper.wp execOp
  simp only [hop, resolve, invoke, builtin, Sem.run_bind, Sem.run_pure, Result.andThen_ok, List.map_toArray, List.map_cons, List.map_nil, hs, hx, hr]
  refine hK' _ _ (hK v' w' ?_ h2 (below_grown h2 hB fun k hk => (hown.lt k hk).1) h3)
  unfold OwnB bytesV
  rw [List.length_append, List.map_append]
  exact h1

/-- a row of bytes as a text, nil or not -/
theorem conv_any {B : Nat} {w : World} {v : Value} {l : List UInt8} (h : OwnB B w v l) : (convert 77 9 v).run Try.prog w = Result.ok (Value.string ⟨l.toArray⟩) w := by
  have h0 := h
  rcases h.2 with ⟨rfl, hn⟩ | ⟨g, cap, cur, rfl, _⟩
  · obtain rfl : l = [] := List.eq_nil_of_length_eq_zero hn
    rw [run_convert_bytes_string w _ _ _ none 0 0 Try.underlying77 Try.underlying5 Try.underlying9]
    simp [Conv.bytesToString]
    rfl
  · exact run_convert_bytes_back (P := Try.prog) w 77 9 5 ⟨g, 0, none⟩ cap l Try.underlying77 Try.underlying5 Try.underlying9 (by
      intro j hj
      have := OwnB.cellAt h0 j hj
      rw [Addr.add_lit, Nat.zero_add, this]
      simp [List.getD, hj])

set_option maxHeartbeats 8000000 in
theorem impl_PairOfSteps (l : List Int) (w : World) (u : Value) (h : Rd w u l) (m : l.length ≤ 1048576) :
    Calls Try.prog 39 #[u] w (GivesM w (res1_PairOfSteps l) (res2_PairOfSteps l) (ok_PairOfSteps l)) := by
  unfold res1_PairOfSteps res2_PairOfSteps ok_PairOfSteps
  have B1 := Below.alloc1 w (.cells #[.slice none 0 0, .slice none 0 0] 28)
  have hR := Box2.new 28 w (.slice none 0 0) (.slice none 0 0)
  obtain ⟨a, c, rfl, hlc, hcm, hnc, hcell⟩ := h
  unfold maxLen at hcm
  have HR := Lib.hid hR; have HB := Lib.hid B1
  obtain ⟨n, hn⟩ : ∃ n, n = l.length := ⟨_, rfl⟩
  by_cases h12 : l.length ≤ 12
  · have hbad := fun k hk hx => show psOf l = none from by unfold psOf; rw [stB_bad (l := l) (k := k) hk hx]; rfl
    have hgood := fun hx => show psOf l = pmS (txtOf upU l l.length ++ ⟨#[124]⟩ ++ txtOf dnU l l.length) from by
      unfold psOf; rw [stB_good h12 hx, if_pos rfl, pmS_join (fun k hk => up_noBar l k hk)]
    have HBAD := Lib.hid hbad; have HGOOD := Lib.hid hgood
    have HPM := Lib.hid (fun w => impl_ParseMeander (txtOf upU l l.length ++ ⟨#[124]⟩ ++ txtOf dnU l l.length) w (by
      have zA := txtOf_size upU l l.length (Nat.le_refl _)
      have zB := txtOf_size dnU l l.length (Nat.le_refl _)
      rw [ByteArray.size_append, ByteArray.size_append]
      show _ + 1 + _ ≤ _; omega))
    unfold res1_ParseMeander res2_ParseMeander ok_ParseMeander at HPM
    have HS1 := Lib.hid (fun k hk => bytesOf_succ upU l k hk); have HS2 := Lib.hid (fun k hk => bytesOf_succ dnU l k hk)
    have HZ1 := Lib.hid (fun k hk => bytesOf_len upU l k hk); have HZ2 := Lib.hid (fun k hk => bytesOf_len dnU l k hk)
    have HC := Lib.hid hcell
    have HF : Hid (n = l.length) := hn
    have HT1 : Hid (txtOf upU l l.length = ⟨(bytesOf upU l l.length).toArray⟩) := rfl
    have HT2 : Hid (txtOf dnU l l.length = ⟨(bytesOf dnU l l.length).toArray⟩) := rfl
    rw [← hn] at hlc h12 HBAD HGOOD HPM HS1 HS2 HZ1 HZ2 HT1 HT2 HC ⊢
    generalize psOf l = PS at *
    clear hcell hnc hR B1 hn hbad hgood
    go_enter Try.func39, Try.ntmps39
    go_wp2_with fail
    go_loopw [4, 5, 14] (fun s t i wr => ∃ k : Nat, k ≤ n ∧ i = .int .i64 (k : Int) ∧ OwnB (w.heap.size + 1) wr s (bytesOf upU l k) ∧ OwnB (w.heap.size + 1) wr t (bytesOf dnU l k) ∧ Hid (ApartV s t) ∧ Box2 28 wr w.heap.size (.slice none 0 0) (.slice none 0 0) ∧ Below w.heap.size w wr ∧ Hid (∀ j, j < k → 0 ≤ l.getD j 0 ∧ l.getD j 0 ≤ 3)) (fun _ _ i _ => n - (intOf i).toNat)
    case atStart => exact ⟨0, by omega, rfl, OwnB.nil _ _, OwnB.nil _ _, ApartV.nil _, HR.out, HB.out, fun j hj => by omega⟩
    case round =>
      obtain ⟨k, hk, rfl, hos, hot, HAP, hbx, hbel, HIN⟩ := hrel
      generalize wr = wa at *
      by_cases hlt : k < n
      · rcases HC.out with h0 | ⟨b, off, rfl, hcell⟩
        · exfalso; rw [HF.out, h0] at hlt; simp at hlt
        have hc := (hbel.cell (p := ⟨b, off + k, none⟩) (World.block_lt_of_cell? w _ (hcell k hlt))).trans (hcell k hlt)
        have hs1 := HS1.out k hlt; have hs2 := HS2.out k hlt; have hbad := HBAD.out k hlt
        have hz1 := HZ1.out k hk; have hz2 := HZ2.out k hk
        have HINK : Hid (0 ≤ l.getD k 0 ∧ l.getD k 0 ≤ 3 → ∀ j, j < k + 1 → 0 ≤ l.getD j 0 ∧ l.getD j 0 ≤ 3) := fun hx j hj => by
          by_cases e : j = k
          · rw [e]; exact hx
          · exact HIN.out j (by omega)
        clear hcell
        generalize l.getD k 0 = x at hc hs1 hs2 hbad HINK
        by_cases hx : 0 ≤ x ∧ x ≤ 3
        · have HK := Lib.hid (HINK.out hx)
          have HOS := Lib.hid hos; have HOT := Lib.hid hot; have HBX := Lib.hid hbx; have HBE := Lib.hid hbel; have HL1 := Lib.hid hz1; have HL2 := Lib.hid hz2
          clear hos hot hbx hbel hz1 hz2 hbad HINK
          rcases step_cases hx with rfl | rfl | rfl | rfl
          · clear hx
            have HY1 := Lib.hid hs1; have HY2 := Lib.hid hs2; clear hs1 hs2
            go_wp2_with (first
              | (at_builtin; refine wp_appendU8 _ rfl (.tmp 25) (.tmp 29) rfl (w.heap.size + 1) wa.heap.size _ (bytesOf upU l k) 40 rfl rfl (cell_litS _ _ _) (HOS.out.below (Below.alloc1 _ _)) (by have := HL1.out; omega) (by have := HBX.out.lt; simp; omega) ?_; intro v1 w2 ho hg hb hw; have HO1 := Lib.hid ho; have HOT2 := Lib.hid ((HOT.out.below (Below.alloc1 wa (.cells #[.int .u8 40] 5))).grown hg (fun k' h1 h2 => HAP.out k' h2 h1)); have HAP2 : Hid (ApartV v1 u5) := (fun k' h1 h2 => by have h5 := (HOT.out.lt k' h2).2; rcases hw k' h1 with h6 | h6; exact HAP.out k' h6 h2; simp at h6; omega); have HBX2 := Lib.hid ((HBX.out.below (Below.alloc1 wa (.cells #[.int .u8 40] 5))).grown hg (fun e => by have := (HOS.out.lt _ e.symm).1; omega)); have HBE2 := Lib.hid ((HBE.out.alloc HBE.out.size (.cells #[.int .u8 40] 5)).trans (hb.mono (Nat.le_succ _))); have HZ := Lib.hid hb.size; clear ho hg hb hw)
              | (at_builtin; refine wp_appendU8 _ rfl (.tmp 31) (.tmp 35) rfl (w.heap.size + 1) w2.heap.size _ (bytesOf dnU l k) 40 rfl rfl (cell_litS _ _ _) (HOT2.out.below (Below.alloc1 _ _)) (by have := HL2.out; omega) (by have := HBX2.out.lt; simp; omega) ?_; intro v2 w3 ho hg hb hw; have HO2 := Lib.hid ho; have HO12 := Lib.hid ((HO1.out.below (Below.alloc1 w2 (.cells #[.int .u8 40] 5))).grown hg (fun k' h1 h2 => HAP2.out k' h1 h2)); have HAP3 : Hid (ApartV v1 v2) := (fun k' h1 h2 => by have h5 := (HO1.out.lt k' h1).2; rcases hw k' h2 with h6 | h6; exact HAP2.out k' h1 h6; simp at h6; omega); have HBX3 := Lib.hid ((HBX2.out.below (Below.alloc1 w2 (.cells #[.int .u8 40] 5))).grown hg (fun e => by have := (HOT2.out.lt _ e.symm).1; omega)); have HBE3 := Lib.hid ((HBE2.out.alloc HBE2.out.size (.cells #[.int .u8 40] 5)).trans (hb.mono (Nat.le_succ _))); clear ho hg hb hw))
            go_roundw
            case rel => exact ⟨k + 1, by omega, by go_num, by rw [HY1.out]; exact HO12.out, by rw [HY2.out]; exact HO2.out, HAP3, HBX3.out, HBE3.out, HK⟩
            case measure => simp [intOf]; omega
          · clear hx
            have HY1 := Lib.hid hs1; have HY2 := Lib.hid hs2; clear hs1 hs2
            go_wp2_with (first
              | (at_builtin; refine wp_appendU8 _ rfl (.tmp 25) (.tmp 29) rfl (w.heap.size + 1) wa.heap.size _ (bytesOf upU l k) 40 rfl rfl (cell_litS _ _ _) (HOS.out.below (Below.alloc1 _ _)) (by have := HL1.out; omega) (by have := HBX.out.lt; simp; omega) ?_; intro v1 w2 ho hg hb hw; have HO1 := Lib.hid ho; have HOT2 := Lib.hid ((HOT.out.below (Below.alloc1 wa (.cells #[.int .u8 40] 5))).grown hg (fun k' h1 h2 => HAP.out k' h2 h1)); have HAP2 : Hid (ApartV v1 u5) := (fun k' h1 h2 => by have h5 := (HOT.out.lt k' h2).2; rcases hw k' h1 with h6 | h6; exact HAP.out k' h6 h2; simp at h6; omega); have HBX2 := Lib.hid ((HBX.out.below (Below.alloc1 wa (.cells #[.int .u8 40] 5))).grown hg (fun e => by have := (HOS.out.lt _ e.symm).1; omega)); have HBE2 := Lib.hid ((HBE.out.alloc HBE.out.size (.cells #[.int .u8 40] 5)).trans (hb.mono (Nat.le_succ _))); have HZ := Lib.hid hb.size; clear ho hg hb hw)
              | (at_builtin; refine wp_appendU8 _ rfl (.tmp 31) (.tmp 35) rfl (w.heap.size + 1) w2.heap.size _ (bytesOf dnU l k) 41 rfl rfl (cell_litS _ _ _) (HOT2.out.below (Below.alloc1 _ _)) (by have := HL2.out; omega) (by have := HBX2.out.lt; simp; omega) ?_; intro v2 w3 ho hg hb hw; have HO2 := Lib.hid ho; have HO12 := Lib.hid ((HO1.out.below (Below.alloc1 w2 (.cells #[.int .u8 41] 5))).grown hg (fun k' h1 h2 => HAP2.out k' h1 h2)); have HAP3 : Hid (ApartV v1 v2) := (fun k' h1 h2 => by have h5 := (HO1.out.lt k' h1).2; rcases hw k' h2 with h6 | h6; exact HAP2.out k' h1 h6; simp at h6; omega); have HBX3 := Lib.hid ((HBX2.out.below (Below.alloc1 w2 (.cells #[.int .u8 41] 5))).grown hg (fun e => by have := (HOT2.out.lt _ e.symm).1; omega)); have HBE3 := Lib.hid ((HBE2.out.alloc HBE2.out.size (.cells #[.int .u8 41] 5)).trans (hb.mono (Nat.le_succ _))); clear ho hg hb hw))
            go_roundw
            case rel => exact ⟨k + 1, by omega, by go_num, by rw [HY1.out]; exact HO12.out, by rw [HY2.out]; exact HO2.out, HAP3, HBX3.out, HBE3.out, HK⟩
            case measure => simp [intOf]; omega
          · clear hx
            have HY1 := Lib.hid hs1; have HY2 := Lib.hid hs2; clear hs1 hs2
            go_wp2_with (first
              | (at_builtin; refine wp_appendU8 _ rfl (.tmp 25) (.tmp 29) rfl (w.heap.size + 1) wa.heap.size _ (bytesOf upU l k) 41 rfl rfl (cell_litS _ _ _) (HOS.out.below (Below.alloc1 _ _)) (by have := HL1.out; omega) (by have := HBX.out.lt; simp; omega) ?_; intro v1 w2 ho hg hb hw; have HO1 := Lib.hid ho; have HOT2 := Lib.hid ((HOT.out.below (Below.alloc1 wa (.cells #[.int .u8 41] 5))).grown hg (fun k' h1 h2 => HAP.out k' h2 h1)); have HAP2 : Hid (ApartV v1 u5) := (fun k' h1 h2 => by have h5 := (HOT.out.lt k' h2).2; rcases hw k' h1 with h6 | h6; exact HAP.out k' h6 h2; simp at h6; omega); have HBX2 := Lib.hid ((HBX.out.below (Below.alloc1 wa (.cells #[.int .u8 41] 5))).grown hg (fun e => by have := (HOS.out.lt _ e.symm).1; omega)); have HBE2 := Lib.hid ((HBE.out.alloc HBE.out.size (.cells #[.int .u8 41] 5)).trans (hb.mono (Nat.le_succ _))); have HZ := Lib.hid hb.size; clear ho hg hb hw)
              | (at_builtin; refine wp_appendU8 _ rfl (.tmp 31) (.tmp 35) rfl (w.heap.size + 1) w2.heap.size _ (bytesOf dnU l k) 40 rfl rfl (cell_litS _ _ _) (HOT2.out.below (Below.alloc1 _ _)) (by have := HL2.out; omega) (by have := HBX2.out.lt; simp; omega) ?_; intro v2 w3 ho hg hb hw; have HO2 := Lib.hid ho; have HO12 := Lib.hid ((HO1.out.below (Below.alloc1 w2 (.cells #[.int .u8 40] 5))).grown hg (fun k' h1 h2 => HAP2.out k' h1 h2)); have HAP3 : Hid (ApartV v1 v2) := (fun k' h1 h2 => by have h5 := (HO1.out.lt k' h1).2; rcases hw k' h2 with h6 | h6; exact HAP2.out k' h1 h6; simp at h6; omega); have HBX3 := Lib.hid ((HBX2.out.below (Below.alloc1 w2 (.cells #[.int .u8 40] 5))).grown hg (fun e => by have := (HOT2.out.lt _ e.symm).1; omega)); have HBE3 := Lib.hid ((HBE2.out.alloc HBE2.out.size (.cells #[.int .u8 40] 5)).trans (hb.mono (Nat.le_succ _))); clear ho hg hb hw))
            go_roundw
            case rel => exact ⟨k + 1, by omega, by go_num, by rw [HY1.out]; exact HO12.out, by rw [HY2.out]; exact HO2.out, HAP3, HBX3.out, HBE3.out, HK⟩
            case measure => simp [intOf]; omega
          · clear hx
            have HY1 := Lib.hid hs1; have HY2 := Lib.hid hs2; clear hs1 hs2
            go_wp2_with (first
              | (at_builtin; refine wp_appendU8 _ rfl (.tmp 25) (.tmp 29) rfl (w.heap.size + 1) wa.heap.size _ (bytesOf upU l k) 41 rfl rfl (cell_litS _ _ _) (HOS.out.below (Below.alloc1 _ _)) (by have := HL1.out; omega) (by have := HBX.out.lt; simp; omega) ?_; intro v1 w2 ho hg hb hw; have HO1 := Lib.hid ho; have HOT2 := Lib.hid ((HOT.out.below (Below.alloc1 wa (.cells #[.int .u8 41] 5))).grown hg (fun k' h1 h2 => HAP.out k' h2 h1)); have HAP2 : Hid (ApartV v1 u5) := (fun k' h1 h2 => by have h5 := (HOT.out.lt k' h2).2; rcases hw k' h1 with h6 | h6; exact HAP.out k' h6 h2; simp at h6; omega); have HBX2 := Lib.hid ((HBX.out.below (Below.alloc1 wa (.cells #[.int .u8 41] 5))).grown hg (fun e => by have := (HOS.out.lt _ e.symm).1; omega)); have HBE2 := Lib.hid ((HBE.out.alloc HBE.out.size (.cells #[.int .u8 41] 5)).trans (hb.mono (Nat.le_succ _))); have HZ := Lib.hid hb.size; clear ho hg hb hw)
              | (at_builtin; refine wp_appendU8 _ rfl (.tmp 31) (.tmp 35) rfl (w.heap.size + 1) w2.heap.size _ (bytesOf dnU l k) 41 rfl rfl (cell_litS _ _ _) (HOT2.out.below (Below.alloc1 _ _)) (by have := HL2.out; omega) (by have := HBX2.out.lt; simp; omega) ?_; intro v2 w3 ho hg hb hw; have HO2 := Lib.hid ho; have HO12 := Lib.hid ((HO1.out.below (Below.alloc1 w2 (.cells #[.int .u8 41] 5))).grown hg (fun k' h1 h2 => HAP2.out k' h1 h2)); have HAP3 : Hid (ApartV v1 v2) := (fun k' h1 h2 => by have h5 := (HO1.out.lt k' h1).2; rcases hw k' h2 with h6 | h6; exact HAP2.out k' h1 h6; simp at h6; omega); have HBX3 := Lib.hid ((HBX2.out.below (Below.alloc1 w2 (.cells #[.int .u8 41] 5))).grown hg (fun e => by have := (HOT2.out.lt _ e.symm).1; omega)); have HBE3 := Lib.hid ((HBE2.out.alloc HBE2.out.size (.cells #[.int .u8 41] 5)).trans (hb.mono (Nat.le_succ _))); clear ho hg hb hw))
            go_roundw
            case rel => exact ⟨k + 1, by omega, by go_num, by rw [HY1.out]; exact HO12.out, by rw [HY2.out]; exact HO2.out, HAP3, HBX3.out, HBE3.out, HK⟩
            case measure => simp [intOf]; omega
        · have hps := hbad hx
          subst hps
          have g0 := hbx.c0; have g1 := hbx.c1; have g2 := hbx.free 0; have g3 := hbx.free 1
          have HBX := Lib.hid hbx; have HBE := Lib.hid hbel
          clear hos hot hbx hbel hs1 hs2 hbad HINK HBAD HGOOD
          by_cases hneg : x < 0
          · have hd1 : decide (x < 0) = true := decide_eq_true hneg
            clear hx
            go_wp2_with fail
            exact bodyPost_ret (results_ips _ _ w.heap.size _ _ false ((HBX.out.set0 _).set1 _) rfl rfl) rfl ⟨_, _, rfl, Own.nil _ _, Own.nil _ _, ApartV.nil _, (HBE.out.setCell (p := ⟨w.heap.size, 0, none⟩) (Nat.le_refl _) _).setCell (p := ⟨w.heap.size, 1, none⟩) (Nat.le_refl _) _⟩
          · have hge : (4 : Int) ≤ x := by omega
            have hd1 : decide (x < 0) = false := decide_eq_false hneg
            have hd2 : decide (4 ≤ x) = true := decide_eq_true hge
            clear hx hneg
            go_wp2_with fail
            exact bodyPost_ret (results_ips _ _ w.heap.size _ _ false ((HBX.out.set0 _).set1 _) rfl rfl) rfl ⟨_, _, rfl, Own.nil _ _, Own.nil _ _, ApartV.nil _, (HBE.out.setCell (p := ⟨w.heap.size, 0, none⟩) (Nat.le_refl _) _).setCell (p := ⟨w.heap.size, 1, none⟩) (Nat.le_refl _) _⟩
      · obtain rfl : k = n := by omega
        have hps := HGOOD.out HIN.out
        subst hps
        have hv1 := conv_any hos; have hv2 := conv_any hot
        have e1 := HT1.out; have e2 := HT2.out
        have z1 : (txtOf upU l k).size ≤ 12 := by rw [txtOf_size upU l k (by have := HF.out; omega)]; omega
        have z2 : (txtOf dnU l k).size ≤ 12 := by rw [txtOf_size dnU l k (by have := HF.out; omega)]; omega
        rw [← e1] at hv1
        rw [← e2] at hv2
        obtain ⟨a4, c4, rfl⟩ := hos.form
        obtain ⟨a5, c5, rfl⟩ := hot.form
        rw [HZ1.out k (Nat.le_refl _)] at hv1 ⊢
        rw [HZ2.out k (Nat.le_refl _)] at hv2 ⊢
        have HBX := Lib.hid hbx; have HBE := Lib.hid hbel
        clear hos hot hbx hbel HS1 HS2 HZ1 HZ2 HC HBAD HGOOD HIN e1 e2 HT1 HT2 hlt hk
        generalize txtOf upU l k = T1 at *
        generalize txtOf dnU l k = T2 at *
        generalize pmS (T1 ++ ⟨#[124]⟩ ++ T2) = PS at *
        go_wp2_with fail
        refine (HPM.out _).mono ?_
        rintro e w1 ⟨v1, v2, rfl, ho1, ho2, hap, hb1⟩
        obtain ⟨x1, y1, z1, rfl⟩ := ho1.form'; obtain ⟨x2, y2, z2, rfl⟩ := ho2.form'
        have hlt := HBX.out.lt; have hsz := HBE.out.size
        have HR1 := Lib.hid (HBX.out.below hb1); have HB1 := Lib.hid (Below.step HBE.out hb1); have HO1 := Lib.hid ho1; have HO2 := Lib.hid ho2; have HAP := Lib.hid hap; have g0 := HR1.out.c0; have g1 := HR1.out.c1; have g2 := HR1.out.free 0; have g3 := HR1.out.free 1
        clear ho1 ho2 hap hb1
        go_wp2_with fail
        have G2 : ∀ k, (Value.slice x1 y1 z1).ownBlock = some k → (some w.heap.size : Option Nat) ≠ some k := fun k hk e => by have h5 := (HO1.out.lt k hk).1; simp at e; omega
        have G3 : ∀ k, (Value.slice x2 y2 z2).ownBlock = some k → (some w.heap.size : Option Nat) ≠ some k := fun k hk e => by have h5 := (HO2.out.lt k hk).1; simp at e; omega
        exact bodyPost_ret (results_ips _ _ w.heap.size _ _ _ ((HR1.out.set0 _).set1 _) rfl rfl) rfl ⟨_, _, rfl, (HO1.out.grown (grown_trans grown_setCell grown_setCell) G2).mono hsz, (HO2.out.grown (grown_trans grown_setCell grown_setCell) G3).mono hsz, HAP.out, (HB1.out.setCell (p := ⟨w.heap.size, 0, none⟩) (Nat.le_refl _) _).setCell (p := ⟨w.heap.size, 1, none⟩) (Nat.le_refl _) _⟩
  · have hps : psOf l = none := by unfold psOf; rw [stB_long (by omega)]; rfl
    rw [hps]
    simp only [Option.getD_none, Option.isSome_none]
    have g0 := hR.c0; have g1 := hR.c1; have g2 := hR.free 0; have g3 := hR.free 1
    rw [← hn] at hlc h12 ⊢
    have h13 : 12 < n := by omega
    clear hps hcell hnc hR B1 hn h12
    go_enter Try.func39, Try.ntmps39
    go_wp2_with fail
    exact bodyPost_ret (results_ips _ _ w.heap.size _ _ false HR.out rfl rfl) rfl ⟨_, _, rfl, Own.nil _ _, Own.nil _ _, ApartV.nil _, HB.out⟩

end Go.Proofs.Ytpanajnlkacmdaa
