/- What the law on moved joins says (pure). -/
import Derived.Test.YtbinpefogecgmabCompF
import Derived.Test.YtbinpefogecgmabJoined
namespace Go.Proofs.Ytbinpefogecgmab
set_option linter.unusedSimpArgs false
set_option linter.unusedVariables false

structure Jn (p q : Nat → Nat) (n i x y : Nat) : Prop where
  li : i + 1 < n
  lx : x < n
  ly : y < n
  pi : p i = x
  pj : p (i + 1) = y
  px : p x = i
  py : p y = i + 1
  qi : q i = i + 1
  qj : q (i + 1) = i
  qx : q x = y
  qy : q y = x
  xi : x ≠ i
  xj : x ≠ i + 1
  yi : y ≠ i
  yj : y ≠ i + 1
  rest : ∀ z, z < n → z ≠ i → z ≠ i + 1 → z ≠ x → z ≠ y → q z = p z
def jnB (p : List Int) (i : Nat) : Bool := goodB (joinedM p i) && (par (joinedM p i) i == i + 1) && (par (joinedM p i) (i + 1) == i) && (par (joinedM p i) (par p i) == par p (i + 1)) && (par (joinedM p i) (par p (i + 1)) == par p i) &&
  allFrom (fun z => z == i || z == i + 1 || z == par p i || z == par p (i + 1) || par (joinedM p i) z == par p z) 0 p.length
def jnCheck (p : List Int) : Bool := allFrom (fun i => !decide (i + 1 < p.length) || par p i == i + 1 || jnB p i) 0 p.length
theorem jnCheck0 : (sysAll 0).all jnCheck = true := by kernel_rfl
theorem jnCheck1 : (sysAll 1).all jnCheck = true := by kernel_rfl
theorem jnCheck2 : (sysAll 2).all jnCheck = true := by kernel_rfl
theorem jnCheck3 : (sysAll 3).all jnCheck = true := by kernel_rfl
theorem jnCheck4 : (sysAll 4).all jnCheck = true := by kernel_rfl
theorem jnCheck5 : (sysAll 5).all jnCheck = true := by kernel_rfl
theorem jnCheck6 : (sysAll 6).all jnCheck = true := by kernel_rfl
theorem jn_of {p : List Int} (h : goodB p = true) {i : Nat} (hi : i + 1 < p.length) (hs : par p i ≠ i + 1) : goodB (joinedM p i) = true ∧ Jn (par p) (par (joinedM p i)) p.length i (par p i) (par p (i + 1)) := by
  have hc : jnCheck p = true := good_all6 jnCheck0 jnCheck1 jnCheck2 jnCheck3 jnCheck4 jnCheck5 jnCheck6 h
  unfold jnCheck at hc
  have h1 := (allFrom_iff _ _ _).1 hc i (Nat.zero_le _) (by omega)
  have e1 : (par p i == i + 1) = false := beq_eq_false_iff_ne.2 hs
  rw [decide_eq_true hi, e1] at h1
  simp only [Bool.not_true, Bool.false_or] at h1
  unfold jnB at h1
  simp only [Bool.and_eq_true, beq_iff_eq] at h1
  obtain ⟨⟨⟨⟨⟨g, q1⟩, q2⟩, q3⟩, q4⟩, q5⟩ := h1
  have hp := good_paired h
  have p1 := hp i (by omega)
  have p2 := hp (i + 1) hi
  refine ⟨g, hi, p1.1, p2.1, rfl, rfl, p1.2.2, p2.2.2, q1, q2, q3, q4, p1.2.1, hs, fun e => hs (by have k := p2.2.2; rw [e] at k; exact k), p2.2.1, fun z hz e1 e2 e3 e4 => ?_⟩
  have := (allFrom_iff _ _ _).1 q5 z (Nat.zero_le _) (by omega)
  simp only [Bool.or_eq_true, beq_iff_eq] at this
  rcases this with (((h | h) | h) | h) | h
  · exact absurd h e1
  · exact absurd h e2
  · exact absurd h e3
  · exact absurd h e4
  · exact h
theorem jn_swap {p q : Nat → Nat} {n i x y : Nat} (h : Jn p q n i x y) (fp : Flips p n) : Swap q p n i (i + 1) y x := by
  have l := h.li
  have f2 := fp (i + 1) h.li
  rw [h.pj] at f2
  exact ⟨by omega, h.li, h.ly, h.lx, fun e => h.yi e.symm, by omega, h.qi, h.qy, h.qj, h.qx, h.pi, h.py, h.pj, h.px, fun z hz e1 e2 e3 e4 => (h.rest z hz e1 e2 e4 e3).symm⟩
theorem jn_loop {p q s : Nat → Nat} {n i x y : Nat} (h : Jn p q n i x y) (hq : PairedN q n) (fq : Flips q n) (fp : Flips p n) (hs : PairedN s n) (fs : Flips s n) (hi : s i = i + 1) : cntW q s n = cntW p s n + 1 := by
  refine apart_cnt hq hs fq fs (jn_swap h fp) ⟨fun z => z = i ∨ z = i + 1, fun z hz e => ?_, .inl rfl, fun e => ?_⟩
  · rcases e with rfl | rfl
    · exact ⟨.inr h.qi, .inr hi⟩
    · refine ⟨.inl h.qj, .inl ?_⟩
      have := (hs i (by have := h.li; omega)).2.2
      rwa [hi] at this
  · rcases e with e | e
    · exact h.yi e
    · exact h.yj e
theorem small_par {l : List Int} (h : goodB l = true) {i : Nat} (hi : i + 1 < l.length) : isSmallB l (i : Int) = true ↔ par l i = i + 1 := by
  have := good_cell h i (by omega)
  unfold isSmallB
  rw [Int.toNat_natCast, this]
  constructor
  · intro e; have := of_decide_eq_true e; omega
  · intro e; exact decide_eq_true (by omega)
def jOf (l : List Int) (i : Nat) : List Int := if isSmallB l (i : Int) then l else joinedM l i
def loopOf (l : List Int) (i : Nat) : Nat := if isSmallB l (i : Int) then 1 else 0
theorem joined_over {p s : List Int} (hp : goodB p = true) (hs : goodB s = true) (hl : s.length = p.length) {i : Nat} (hi : i + 1 < p.length) : compsL (jOf p i) s + loopOf p i = compsL p (jOf s i) + loopOf s i := by
  have g1 := good_paired hp
  have g2 := good_paired hs
  have f1 := good_flips hp
  have f2 := good_flips hs
  have i1 := small_par hp hi
  have i2 := small_par hs (i := i) (by omega)
  have n1 := joinedM_length p i
  have n2 := joinedM_length s i
  rw [hl] at g2 f2
  unfold compsL jOf loopOf
  by_cases k1 : isSmallB p (i : Int) = true
  · rw [if_pos k1, if_pos k1]
    by_cases k2 : isSmallB s (i : Int) = true
    · rw [if_pos k2, if_pos k2]
    · rw [if_neg k2, if_neg k2]
      obtain ⟨gq, hj⟩ := jn_of hs (by omega) (fun e => k2 (i2.2 e))
      have g3 := good_paired gq
      have f3 := good_flips gq
      rw [n2, hl] at g3 f3
      rw [hl] at hj
      have := jn_loop hj g3 f3 f2 g1 f1 (i1.1 k1)
      rw [cnt_flip g1 g3, cnt_flip g1 g2] at this
      omega
  · rw [if_neg k1, if_neg k1]
    obtain ⟨gq, hj⟩ := jn_of hp hi (fun e => k1 (i1.2 e))
    have g3 := good_paired gq
    have f3 := good_flips gq
    rw [n1] at g3 f3 ⊢
    by_cases k2 : isSmallB s (i : Int) = true
    · rw [if_pos k2, if_pos k2]
      have := jn_loop hj g3 f3 f1 g2 f2 (i2.1 k2)
      omega
    · rw [if_neg k2, if_neg k2]
      obtain ⟨gt, hk⟩ := jn_of hs (i := i) (by omega) (fun e => k2 (i2.2 e))
      have g4 := good_paired gt
      rw [n2, hl] at g4
      rw [hl] at hk
      have := moved_cnt g1 g3 g2 g4 ⟨by omega, hi, hj.lx, hj.ly, hk.lx, hk.ly, hj.pi, hj.pj, hj.px, hj.py, hk.pi, hk.pj, hk.px, hk.py, hj.qi, hj.qj, hj.qx, hj.qy, hk.qi, hk.qj, hk.qx, hk.qy, hj.xi, hj.xj, hj.yi, hj.yj, hk.xi, hk.xj, hk.yi, hk.yj, hj.rest, hk.rest⟩
      omega
theorem joined_good {p : List Int} (hp : goodB p = true) {i : Nat} (hi : i + 1 < p.length) : goodB (jOf p i) = true ∧ (jOf p i).length = p.length ∧ isSmallB (jOf p i) (i : Int) = true := by
  have i1 := small_par hp hi
  unfold jOf
  by_cases k1 : isSmallB p (i : Int) = true
  · rw [if_pos k1]; exact ⟨hp, rfl, k1⟩
  · rw [if_neg k1]
    obtain ⟨gq, hj⟩ := jn_of hp hi (fun e => k1 (i1.2 e))
    have n1 := joinedM_length p i
    exact ⟨gq, n1, (small_par gq (by omega)).2 hj.qi⟩
theorem joined_res {l : List Int} {i : Int} (h : ok_JoinedSystem l i = true) : ∃ t : Nat, i = (t : Int) ∧ goodB l = true ∧ t + 1 < l.length ∧ res_JoinedSystem l i = jOf l t ∧ res2_JoinedSystem l i = (loopOf l t : Nat) := by
  have h0 := h
  unfold ok_JoinedSystem at h0
  rw [Bool.and_eq_true] at h0
  have h1 := inB_iff.1 h0.2
  obtain ⟨t, rfl⟩ := Int.eq_ofNat_of_zero_le h1.1
  refine ⟨t, rfl, h0.1, by omega, ?_, ?_⟩
  · unfold res_JoinedSystem jOf; rw [h, Int.toNat_natCast]; rfl
  · unfold res2_JoinedSystem loopOf; rw [h]; simp only [if_true]; split <;> rfl
theorem ok_joined {l : List Int} {t : Nat} (h : goodB l = true) (hi : t + 1 < l.length) : ok_JoinedSystem l (t : Int) = true := by
  unfold ok_JoinedSystem
  rw [h, Bool.true_and]
  exact inB_iff.2 (by omega)
theorem law_joined {l : List Int} {i : Int} (h : ok_JoinedSystem l i = true) : ok_JoinedSystem (res_JoinedSystem l i) i = true ∧ res2_JoinedSystem (res_JoinedSystem l i) i = 1 ∧ res_JoinedSystem (res_JoinedSystem l i) i = res_JoinedSystem l i ∧ goodB (res_JoinedSystem l i) = true ∧
    ∃ t : Nat, i = (t : Int) ∧ t + 1 < (res_JoinedSystem l i).length ∧ (res_JoinedSystem l i).getD t 0 = (t : Int) + 1 ∧ (res_JoinedSystem l i).length = l.length := by
  obtain ⟨t, rfl, hg, hi, e1, e2⟩ := joined_res h
  obtain ⟨g1, g2, g3⟩ := joined_good hg hi
  have o := ok_joined g1 (t := t) (by omega)
  rw [e1]
  refine ⟨o, ?_, ?_, g1, t, rfl, by omega, ?_, g2⟩
  · unfold res2_JoinedSystem; rw [o, g3]; rfl
  · unfold res_JoinedSystem; rw [o, g3]; rfl
  · unfold isSmallB at g3
    have := of_decide_eq_true g3
    rw [Int.toNat_natCast] at this
    exact this
theorem law_over {p s : List Int} {i : Int} (h : ok_JoinedSystem p i = true) (hs : goodB s = true) (hl : s.length = p.length) : ok_JoinedSystem s i = true ∧ res_ComponentsOf (res_JoinedSystem p i) s + res2_JoinedSystem p i = res_ComponentsOf p (res_JoinedSystem s i) + res2_JoinedSystem s i := by
  obtain ⟨t, rfl, hg, hi, e1, e2⟩ := joined_res h
  have o := ok_joined hs (t := t) (by omega)
  obtain ⟨t', ht', _, _, e3, e4⟩ := joined_res o
  obtain rfl : t = t' := by omega
  obtain ⟨g1, g2, _⟩ := joined_good hg hi
  obtain ⟨g3, g4, _⟩ := joined_good hs (i := t) (by omega)
  have hc := joined_over hg hs hl hi
  have p1 : pairOk (jOf p t) s = true := by simp [pairOk, g1, hs, g2, hl]
  have p2 : pairOk p (jOf s t) = true := by simp [pairOk, hg, g3, g4, hl]
  rw [e1, e2, e3, e4]
  refine ⟨o, ?_⟩
  unfold res_ComponentsOf
  rw [p1, p2]
  simp only [if_true]
  omega

end Go.Proofs.Ytbinpefogecgmab
