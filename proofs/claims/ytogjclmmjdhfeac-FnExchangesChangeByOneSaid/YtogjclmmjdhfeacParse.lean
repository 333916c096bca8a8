/- ParseSystem: the program's function and the model's. -/
/- A text that can be parsed gives a system. -/
import Derived.Test.YtogjclmmjdhfeacJoin
import Derived.Test.YtogjclmmjdhfeacOwn
import Derived.WalkSpells
import Derived.Test.YtogjclmmjdhfeacEnum
namespace Go.Proofs.Ytogjclmmjdhfeac
open Go.RowKit
set_option linter.unusedSimpArgs false
set_option linter.unusedVariables false

def byteN (s : ByteArray) (k : Nat) : Nat := (s.data.toList.getD k 0).toNat
theorem byteN_eq (s : ByteArray) (k : Nat) (h : k < s.size) : s[k].toNat = byteN s k := by
  have h' : k < s.data.toList.length := by simpa using h
  unfold byteN
  simp only [List.getD, List.getElem?_eq_getElem h', Option.getD_some]
  rfl

/-- a text read with a stack of the open arches, the last one at its end -/
def parseS (s : ByteArray) : Nat → Nat → List Int → List Int → Option (List Int)
  | 0, _, st, p => if st.length = 0 then some p else none
  | f + 1, k, st, p => if byteN s k = 40 then parseS s f (k + 1) (st ++ [(k : Int)]) p
    else if byteN s k = 41 ∧ 0 < st.length then parseS s f (k + 1) (st.take (st.length - 1)) ((p.set (st.getD (st.length - 1) 0).toNat (k : Int)).set k (st.getD (st.length - 1) 0)) else none
theorem parseS_open {s : ByteArray} {f k : Nat} {st p : List Int} {R : Option (List Int)} (h : parseS s (f + 1) k st p = R) (hb : byteN s k = 40) : parseS s f (k + 1) (st ++ [(k : Int)]) p = R := by
  rw [parseS, if_pos hb] at h; exact h
theorem parseS_shut {s : ByteArray} {f k : Nat} {st p : List Int} {R : Option (List Int)} (h : parseS s (f + 1) k st p = R) (hb : byteN s k = 41) (hst : 0 < st.length) :
    parseS s f (k + 1) (st.take (st.length - 1)) ((p.set (st.getD (st.length - 1) 0).toNat (k : Int)).set k (st.getD (st.length - 1) 0)) = R := by
  rw [parseS, if_neg (by omega), if_pos ⟨hb, hst⟩] at h; exact h
theorem parseS_no {s : ByteArray} {f k : Nat} {st p : List Int} {R : Option (List Int)} (h : parseS s (f + 1) k st p = R) (hb : byteN s k ≠ 40) (hb2 : ¬ (byteN s k = 41 ∧ 0 < st.length)) : R = none := by
  rw [parseS, if_neg hb, if_neg hb2] at h; exact h.symm

def parsed (s : ByteArray) : Option (List Int) := if s.size ≤ 12 then parseS s s.size 0 [] (List.replicate s.size 0) else none
def ok_ParseSystem (s : ByteArray) : Bool := (parsed s).isSome
def res_ParseSystem (s : ByteArray) : List Int := (parsed s).getD []
theorem parseS_len (s : ByteArray) : ∀ (f k : Nat) (st p q : List Int), parseS s f k st p = some q → q.length = p.length
  | 0, k, st, p, q, h => by
    rw [parseS] at h
    split at h
    · cases h; rfl
    · cases h
  | f + 1, k, st, p, q, h => by
    rw [parseS] at h
    split at h
    · exact parseS_len s f _ _ _ _ h
    · split at h
      · rw [parseS_len s f _ _ _ _ h, List.length_set, List.length_set]
      · cases h
theorem parsed_len {s : ByteArray} {q : List Int} (h : parsed s = some q) : q.length = s.size ∧ q.length ≤ 12 := by
  unfold parsed at h
  split at h
  · have := parseS_len s _ _ _ _ _ h
    rw [List.length_replicate] at this
    omega
  · cases h
theorem len_ParseSystem (s : ByteArray) : (res_ParseSystem s).length ≤ 1000000 := by
  unfold res_ParseSystem
  cases h : parsed s with
  | none => simp
  | some q => have := parsed_len h; simp; omega

/-- 'v[:m]' -/
theorem Own.cut {B : Nat} {w : World} {a : Option Addr} {n c m : Nat} {l : List Int} (h : Own B w (.slice a n c) l) (hm : m ≤ l.length) : Own B w (.slice a m c) (l.take m) := by
  rcases h.2 with ⟨hv, hn⟩ | ⟨g, cap, cur, hv, hB, hg, hnc, hcm, hcs, ht⟩
  · have hl : l = [] := List.eq_nil_of_length_eq_zero hn
    subst hl
    simp at hv hm
    obtain ⟨rfl, rfl, rfl⟩ := hv
    subst hm
    exact Own.nil _ _
  · simp at hv
    obtain ⟨rfl, rfl, rfl⟩ := hv
    refine ⟨by simp [ints], .inr ⟨g, c, cur, by simp; omega, hB, hg, by simp; omega, hcm, hcs, ?_⟩⟩
    have e : (l.take m).length = m := by rw [List.length_take]; omega
    rw [Nat.mul_one] at ht ⊢
    rw [e, ints, List.map_take]
    unfold ints at ht
    rw [← ht, List.take_take]
    congr 1
    omega

/-- the stack holds points that were read -/
def stOk (st : List Int) (k : Nat) : Prop := st.length ≤ k ∧ ∀ i, i < st.length → 0 ≤ st.getD i 0 ∧ st.getD i 0 < (k : Int)
theorem stOk.push {st : List Int} {k : Nat} (h : stOk st k) : stOk (st ++ [(k : Int)]) (k + 1) := by
  refine ⟨by simp; exact h.1, fun i hi => ?_⟩
  by_cases e : i < st.length
  · have := h.2 i e
    rw [List.getD, List.getElem?_append_left e]
    unfold List.getD at this
    constructor
    · exact this.1
    · have := this.2; push_cast; omega
  · obtain rfl : i = st.length := by simp at hi; omega
    simp [List.getD]
    omega
theorem stOk.pop {st : List Int} {k : Nat} (h : stOk st k) : stOk (st.take (st.length - 1)) (k + 1) := by
  refine ⟨by rw [List.length_take]; have := h.1; omega, fun i hi => ?_⟩
  rw [List.length_take] at hi
  have := h.2 i (by omega)
  rw [List.getD, List.getElem?_take, if_pos (by omega)]
  unfold List.getD at this
  constructor
  · exact this.1
  · have := this.2; push_cast; omega

set_option maxHeartbeats 4000000 in
theorem specParse_run (s : ByteArray) (R : Option (List Int)) (w : World) (h12 : s.size ≤ 12) (hR : parseS s s.size 0 [] (List.replicate s.size 0) = R) :
    Calls Try.prog 106 #[.string s] w (Gives w (R.getD []) R.isSome) := by
  have hby := fun k hk => byteN_eq s k hk
  have HR := Lib.hid hR; have HBY := Lib.hid hby
  clear hR hby
  go_enter Try.func106, Try.ntmps106
  go_wp2_with (at_make; refine wp_make _ rfl _ _ rfl s.size _ _ rfl rfl (by omega) (by omega) (by omega) ?_; intro w1 hown hbel hsz; have HO := Lib.hid hown; have HB := Lib.hid hbel; clear hown hbel)
  go_loopw [5, 6] (fun o q wr => ∃ (k : Nat) (st p : List Int), k ≤ s.size ∧ q = .int .i64 (k : Int) ∧ Own w1.heap.size wr o st ∧ Own w.heap.size wr (.slice (some ⟨w.heap.size, 0, none⟩) s.size s.size) p ∧ Hid (stOk st k ∧ p.length = s.size ∧ parseS s (s.size - k) k st p = R) ∧ Below w.heap.size w wr ∧ w1.heap.size ≤ wr.heap.size) (fun _ q _ => s.size - (intOf q).toNat)
  case atStart => exact ⟨0, [], List.replicate s.size 0, by omega, rfl, Own.nil _ _, HO.out, ⟨⟨by simp, by simp⟩, by simp, HR.out⟩, HB.out, Nat.le_refl _⟩
  case round =>
    obtain ⟨k, st, p, hk, rfl, hst, hp, HI, hbel, hw1⟩ := hrel
    clear HO HB HR
    generalize wr = wa at *
    by_cases hlt : k < s.size
    · have hbk := HBY.out k hlt
      have hi := HI.out
      rw [show s.size - k = (s.size - (k + 1)) + 1 by omega] at hi
      have hpl := hi.2.1
      have hol := hi.1.1
      by_cases h40 : byteN s k = 40
      · have HN := Lib.hid (show stOk (st ++ [(k : Int)]) (k + 1) ∧ p.length = s.size ∧ parseS s (s.size - (k + 1)) (k + 1) (st ++ [(k : Int)]) p = R from ⟨hi.1.push, hi.2.1, parseS_open hi.2.2 h40⟩)
        have t1 : ((s[k].toNat : Int) == 40) = true := by rw [hbk, h40]; rfl
        have HST := Lib.hid hst; have HP := Lib.hid hp; have HBL := Lib.hid hbel; have HOL := Lib.hid hol
        clear hi hbk h40 HI hst hp hbel hpl hol
        go_wp2_with (at_builtin; refine wp_append _ rfl _ _ rfl w1.heap.size _ _ st [(k : Int)] rfl rfl (Own.below HST.out (Below.alloc1 _ _)) (Own.rd (Own.lit1 _ _ _ (Nat.le_refl _))) (by have := HOL.out; simp; omega) (by simp; omega) ?_; intro v' w2 hown2 hgr2 hbel2; have HO2 := Lib.hid hown2; have HP2 := Lib.hid (Own.grown (Own.below HP.out (Below.alloc1 _ _)) hgr2 (fun k hk e => by simp [Value.ownBlock] at hk; have := HST.out.lt k e; omega)); have HB2 := Lib.hid ((HBL.out.alloc HBL.out.size _).trans (hbel2.mono (by omega))); have HW2 := Lib.hid (show w1.heap.size ≤ w2.heap.size by have := hbel2.size; simp at this; omega); clear hown2 hgr2 hbel2)
        go_roundw
        case rel => exact ⟨k + 1, st ++ [(k : Int)], p, by omega, by go_num, HO2.out, HP2.out, HN.out, HB2.out, HW2.out⟩
        case measure => simp [intOf]; omega
      · have t1 : ((s[k].toNat : Int) == 40) = false := by rw [hbk]; simp; omega
        by_cases h41 : byteN s k = 41
        · have t2 : ((s[k].toNat : Int) == 41) = true := by rw [hbk, h41]; rfl
          by_cases hpos : 0 < st.length
          · have hx := hi.1.2 (st.length - 1) (by omega)
            have hn := parseS_shut hi.2.2 h41 hpos
            rcases hst.shape with ⟨rfl, rfl⟩ | ⟨g, c, rfl, hg0, hg1, hc0, hc1⟩
            · simp at hpos
            have hcell := hst.cellAt (st.length - 1) (by omega)
            have hcut := hst.cut (m := st.length - 1) (by omega)
            obtain ⟨x, hxe⟩ := Int.eq_ofNat_of_zero_le hx.1
            rw [hxe] at hcell hn hx
            rw [Int.toNat_natCast] at hn
            have hxk : x < k := by omega
            have hd1 := hp.cellAt x (by omega)
            have hf1 := hp.frozenAt x
            have hp1 := hp.stored x (k : Int)
            have hd2 := hp1.cellAt k (by rw [List.length_set]; omega)
            have hf2 := hp1.frozenAt k
            have hp2 := hp1.stored k (x : Int)
            have hs1 : Own w1.heap.size ((wa.setCell ⟨w.heap.size, x, none⟩ (.int .i64 (k : Int))).setCell ⟨w.heap.size, k, none⟩ (.int .i64 (x : Int))) (.slice (some ⟨g, 0, none⟩) (st.length - 1) c) (st.take (st.length - 1)) :=
              hcut.grown (grown_trans grown_setCell grown_setCell) (fun k hk e => by simp [Value.ownBlock] at hk; simp at e; omega)
            have hb1 := (hbel.setCell (p := ⟨w.heap.size, x, none⟩) (Nat.le_refl _) (.int .i64 (k : Int))).setCell (p := ⟨w.heap.size, k, none⟩) (Nat.le_refl _) (.int .i64 (x : Int))
            have HN := Lib.hid (show stOk (st.take (st.length - 1)) (k + 1) ∧ ((p.set x (k : Int)).set k (x : Int)).length = s.size ∧ parseS s (s.size - (k + 1)) (k + 1) (st.take (st.length - 1)) ((p.set x (k : Int)).set k (x : Int)) = R from ⟨hi.1.pop, by rw [List.length_set, List.length_set]; exact hpl, hn⟩)
            have hint : ((st.length : Int) - 1) = ((st.length - 1 : Nat) : Int) := by omega
            have HP2 := Lib.hid hp2; have HS1 := Lib.hid hs1; have HB1 := Lib.hid hb1; have HW1 : Hid (w1.heap.size ≤ wa.heap.size) := hw1
            obtain ⟨m, hm⟩ : ∃ m, m = st.length := ⟨_, rfl⟩
            rw [← hm] at hcell hpos hc0 hol hint HS1 HN ⊢
            unfold maxLen at hc1
            clear hm hi hn hbk h40 h41 HI hst hp hp1 hp2 hs1 hb1 hcut hbel hx hxe hw1 hpl
            go_wp2
            go_roundw
            case rel => exact ⟨k + 1, _, _, by omega, by go_num, HS1.out, HP2.out, HN.out, HB1.out, by have := HW1.out; simp; omega⟩
            case measure => simp [intOf]; omega
          · obtain rfl : R = none := parseS_no hi.2.2 h40 (fun h => hpos h.2)
            obtain ⟨a, c, rfl, hc0, hc1⟩ := hst.form
            have h0 : st.length = 0 := by omega
            rw [h0] at hc0 ⊢
            unfold maxLen at hc1
            clear hi hbk h40 h41 HI hst hp hpl hol hpos h0
            go_wp2
            go_ret2
            exact ⟨_, rfl, Own.nil _ _, hbel⟩
        · obtain rfl : R = none := parseS_no hi.2.2 h40 (fun h => h41 h.1)
          have t2 : ((s[k].toNat : Int) == 41) = false := by rw [hbk]; simp; omega
          clear hi hbk h40 h41 HI hst hp hpl hol
          go_wp2
          go_ret2
          exact ⟨_, rfl, Own.nil _ _, hbel⟩
    · obtain rfl : k = s.size := by omega
      have hi := HI.out
      rw [Nat.sub_self, parseS] at hi
      obtain ⟨a, c, rfl, hc0, hc1⟩ := hst.form
      unfold maxLen at hc1
      by_cases h0 : st.length = 0
      · have hR := hi.2.2
        rw [if_pos h0] at hR
        subst hR
        rw [h0] at hc0 ⊢
        clear hi HI hst h0
        go_wp2
        go_ret2
        exact ⟨_, rfl, hp, hbel⟩
      · have hR := hi.2.2
        rw [if_neg h0] at hR
        subst hR
        have hpos : 0 < st.length := by omega
        generalize st.length = m at *
        clear hi HI hst h0
        go_wp2
        go_ret2
        exact ⟨_, rfl, Own.nil _ _, hbel⟩

theorem ahParse_any (s : ByteArray) (w : World) (hs : s.size ≤ 9223372036854775807) : Calls Try.prog 106 #[.string s] w (Gives w (res_ParseSystem s) (ok_ParseSystem s)) := by
  unfold res_ParseSystem ok_ParseSystem parsed
  by_cases h : s.size ≤ 12
  · rw [if_pos h]
    exact specParse_run s _ w h rfl
  · rw [if_neg h]
    have h2 : 12 < s.size := by omega
    clear h
    go_enter Try.func106, Try.ntmps106
    go_wp2
    go_ret2
    exact ⟨_, rfl, Own.nil _ _, Below.refl _ _⟩


end Go.Proofs.Ytogjclmmjdhfeac

namespace Go.Proofs.Ytogjclmmjdhfeac
set_option linter.unusedSimpArgs false
set_option linter.unusedVariables false

/-- parseS over a list of bits: true where an arch begins -/
def parseT : List Bool → Nat → List Int → List Int → Option (List Int)
  | [], _, st, p => if st.length = 0 then some p else none
  | true :: r, k, st, p => parseT r (k + 1) (st ++ [(k : Int)]) p
  | false :: r, k, st, p => if 0 < st.length then parseT r (k + 1) (st.take (st.length - 1)) ((p.set (st.getD (st.length - 1) 0).toNat (k : Int)).set k (st.getD (st.length - 1) 0)) else none
theorem parseS_T (s : ByteArray) : ∀ (f k : Nat) (st p q : List Int), parseS s f k st p = some q → ∃ t : List Bool, t.length = f ∧ parseT t k st p = some q
  | 0, k, st, p, q, h => ⟨[], rfl, h⟩
  | f + 1, k, st, p, q, h => by
    rw [parseS] at h
    split at h
    · obtain ⟨t, h1, h2⟩ := parseS_T s f _ _ _ _ h
      exact ⟨true :: t, by simp [h1], h2⟩
    · split at h
      · next hc =>
        obtain ⟨t, h1, h2⟩ := parseS_T s f _ _ _ _ h
        exact ⟨false :: t, by simp [h1], by rw [parseT, if_pos hc.2]; exact h2⟩
      · cases h
def parseCheck (n : Nat) : Bool := (allTexts n).all fun t => match parseT t 0 [] (List.replicate n 0) with
  | some q => goodB q
  | none => true
theorem parseCheck0 : parseCheck 0 = true := by kernel_rfl
theorem parseCheck1 : parseCheck 1 = true := by kernel_rfl
theorem parseCheck2 : parseCheck 2 = true := by kernel_rfl
theorem parseCheck3 : parseCheck 3 = true := by kernel_rfl
theorem parseCheck4 : parseCheck 4 = true := by kernel_rfl
theorem parseCheck5 : parseCheck 5 = true := by kernel_rfl
theorem parseCheck6 : parseCheck 6 = true := by kernel_rfl
theorem parseCheck7 : parseCheck 7 = true := by kernel_rfl
theorem parseCheck8 : parseCheck 8 = true := by kernel_rfl
theorem parseCheck9 : parseCheck 9 = true := by kernel_rfl
theorem parseCheck10 : parseCheck 10 = true := by kernel_rfl
theorem parseCheck11 : parseCheck 11 = true := by kernel_rfl
theorem parseCheck12 : parseCheck 12 = true := by kernel_rfl
theorem parseCheck_all (n : Nat) (hn : n ≤ 12) : parseCheck n = true := by
  have : n = 0 ∨ n = 1 ∨ n = 2 ∨ n = 3 ∨ n = 4 ∨ n = 5 ∨ n = 6 ∨ n = 7 ∨ n = 8 ∨ n = 9 ∨ n = 10 ∨ n = 11 ∨ n = 12 := by omega
  rcases this with rfl | rfl | rfl | rfl | rfl | rfl | rfl | rfl | rfl | rfl | rfl | rfl | rfl
  · exact parseCheck0
  · exact parseCheck1
  · exact parseCheck2
  · exact parseCheck3
  · exact parseCheck4
  · exact parseCheck5
  · exact parseCheck6
  · exact parseCheck7
  · exact parseCheck8
  · exact parseCheck9
  · exact parseCheck10
  · exact parseCheck11
  · exact parseCheck12
theorem parsed_good {s : ByteArray} {q : List Int} (h : parsed s = some q) : goodB q = true := by
  unfold parsed at h
  split at h
  · next h12 =>
    obtain ⟨t, h1, h2⟩ := parseS_T s _ _ _ _ _ h
    have hm := mem_allTexts t
    rw [h1] at hm
    have hc := List.all_eq_true.1 (parseCheck_all s.size h12) t hm
    rw [h2] at hc
    exact hc
  · cases h
theorem parse_good {s : ByteArray} (h : ok_ParseSystem s = true) : goodB (res_ParseSystem s) = true ∧ (res_ParseSystem s).length = s.size := by
  unfold ok_ParseSystem at h
  obtain ⟨q, hq⟩ := Option.isSome_iff_exists.1 h
  have h1 := parsed_good hq
  have h2 := (parsed_len hq).1
  unfold res_ParseSystem
  rw [hq]
  exact ⟨h1, h2⟩

end Go.Proofs.Ytogjclmmjdhfeac
