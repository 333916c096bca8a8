/- The pair with a word: the partners on each side. -/
import Derived.Test.YtkohmdhjjnmfgabWdMath
namespace Go.Proofs.Ytkohmdhjjnmfgab
set_option linter.unusedSimpArgs false
set_option linter.unusedVariables false

def ixN (l : List Int) (x : Nat) : Nat := ((idxK l l.length).getD x 0).toNat
def folN (l : List Int) (x : Nat) : Nat := (l.getD ((ixN l x + 1) % l.length) 0).toNat
def prvN (l : List Int) (x : Nat) : Nat := (l.getD ((ixN l x + (l.length - 1)) % l.length) 0).toNat
def mateN (l : List Int) (s x : Nat) : Nat := if ixN l x % 2 = s then folN l x else prvN l x
def mateL (l : List Int) (s : Nat) : List Int := (List.range l.length).map fun (x : Nat) => ((mateN l s x : Nat) : Int)
theorem mateL_length (l : List Int) (s : Nat) : (mateL l s).length = l.length := by simp [mateL]

theorem ixN_facts {l : List Int} (h : wordB l = true) {x : Nat} (hx : x < l.length) : ixN l x < l.length ∧ l.getD (ixN l x) 0 = (x : Int) ∧ (idxK l l.length).getD x 0 = ((ixN l x : Nat) : Int) := by
  obtain ⟨i, h1, h2, h3⟩ := word_has h hx
  have : ixN l x = i := by unfold ixN; rw [h3]; simp
  rw [this]
  exact ⟨h1, h2, h3⟩
theorem ixN_of {l : List Int} (h : wordB l = true) {i : Nat} (hi : i < l.length) : ixN l (l.getD i 0).toNat = i := by
  unfold ixN
  rw [word_idx h hi]
  simp
theorem at_lt {l : List Int} (h : wordB l = true) {i : Nat} (hi : i < l.length) : (l.getD i 0).toNat < l.length ∧ (((l.getD i 0).toNat : Nat) : Int) = l.getD i 0 := by
  have := (word_facts h).2.1 i hi
  omega
theorem folN_facts {l : List Int} (h : wordB l = true) (hev : l.length % 2 = 0) {x : Nat} (hx : x < l.length) : folN l x < l.length ∧ ((folN l x : Nat) : Int) = l.getD ((ixN l x + 1) % l.length) 0 ∧ ixN l (folN l x) = (ixN l x + 1) % l.length ∧ ixN l (folN l x) % 2 = (ixN l x + 1) % 2 ∧ prvN l (folN l x) = x := by
  have hn : 0 < l.length := by omega
  have hi := (ixN_facts h hx).1
  have hm : (ixN l x + 1) % l.length < l.length := Nat.mod_lt _ hn
  obtain ⟨a1, a2⟩ := at_lt h hm
  have e1 : ixN l (folN l x) = (ixN l x + 1) % l.length := ixN_of h hm
  have e2 : ((ixN l x + 1) % l.length) % 2 = (ixN l x + 1) % 2 := by
    by_cases e : ixN l x + 1 < l.length
    · rw [Nat.mod_eq_of_lt e]
    · have : ixN l x + 1 = l.length := by omega
      rw [this, Nat.mod_self]; omega
  refine ⟨a1, a2, e1, by rw [e1, e2], ?_⟩
  unfold prvN
  rw [e1]
  have e3 : ((ixN l x + 1) % l.length + (l.length - 1)) % l.length = ixN l x := by
    by_cases e : ixN l x + 1 < l.length
    · rw [Nat.mod_eq_of_lt e, show ixN l x + 1 + (l.length - 1) = ixN l x + l.length by omega, Nat.add_mod_right, Nat.mod_eq_of_lt hi]
    · have : ixN l x + 1 = l.length := by omega
      rw [this, Nat.mod_self, Nat.zero_add, Nat.mod_eq_of_lt (by omega)]; omega
  rw [e3, (ixN_facts h hx).2.1]
  simp
theorem prvN_facts {l : List Int} (h : wordB l = true) (hev : l.length % 2 = 0) {x : Nat} (hx : x < l.length) : prvN l x < l.length ∧ folN l (prvN l x) = x ∧ ixN l (prvN l x) % 2 = (ixN l x + 1) % 2 := by
  have hn : 0 < l.length := by omega
  have hi := (ixN_facts h hx).1
  have hm : (ixN l x + (l.length - 1)) % l.length < l.length := Nat.mod_lt _ hn
  obtain ⟨a1, a2⟩ := at_lt h hm
  have e1 : ixN l (prvN l x) = (ixN l x + (l.length - 1)) % l.length := ixN_of h hm
  have e3 : ((ixN l x + (l.length - 1)) % l.length + 1) % l.length = ixN l x ∧ ((ixN l x + (l.length - 1)) % l.length) % 2 = (ixN l x + 1) % 2 := by
    by_cases e : ixN l x = 0
    · rw [e, Nat.zero_add, Nat.mod_eq_of_lt (by omega : l.length - 1 < l.length), show l.length - 1 + 1 = l.length by omega, Nat.mod_self]; omega
    · have : (ixN l x + (l.length - 1)) % l.length = ixN l x - 1 := by
        rw [show ixN l x + (l.length - 1) = (ixN l x - 1) + l.length by omega, Nat.add_mod_right, Nat.mod_eq_of_lt (by omega)]
      rw [this, show ixN l x - 1 + 1 = ixN l x by omega, Nat.mod_eq_of_lt hi]; omega
  refine ⟨a1, ?_, by rw [e1]; exact e3.2⟩
  unfold folN
  rw [e1, e3.1, (ixN_facts h hx).2.1]
  simp

/-- the numbers at which Q holds, on side s, have their partners in a list -/
def InvQ (l : List Int) (s : Nat) (T : List Int) (Q : Nat → Prop) : Prop :=
  T.length = l.length ∧ ∀ x, x < l.length → Q x → ixN l x % 2 = s → T.getD x 0 = ((folN l x : Nat) : Int) ∧ T.getD (folN l x) 0 = (x : Int)
theorem InvQ.start (l : List Int) (s : Nat) (Q : Nat → Prop) (hQ : ∀ x, ¬ Q x) : InvQ l s (List.replicate l.length 0) Q := ⟨by simp, fun x _ h => absurd h (hQ x)⟩
theorem InvQ.same {l : List Int} {s : Nat} {T : List Int} {Q Q' : Nat → Prop} (h : InvQ l s T Q) (hQ : ∀ x, x < l.length → ixN l x % 2 = s → Q' x → Q x) : InvQ l s T Q' := ⟨h.1, fun x hx hq hs => h.2 x hx (hQ x hx hs hq) hs⟩
theorem InvQ.step {l : List Int} (hw : wordB l = true) (hev : l.length % 2 = 0) {s : Nat} {T : List Int} {Q Q' : Nat → Prop} (h : InvQ l s T Q) (k : Nat) (hk : k < l.length) (hs : ixN l k % 2 = s) (hQ : ∀ x, x < l.length → ixN l x % 2 = s → Q' x → Q x ∨ x = k) :
    InvQ l s ((T.set k ((folN l k : Nat) : Int)).set (folN l k) (k : Int)) Q' := by
  obtain ⟨f1, f2, f3, f4, f5⟩ := folN_facts hw hev hk
  have hne : folN l k ≠ k := fun e => by rw [e] at f4; omega
  refine ⟨by simp [h.1], fun x hx hq hsx => ?_⟩
  obtain ⟨g1, g2, g3, g4, g5⟩ := folN_facts hw hev hx
  rcases hQ x hx hsx hq with hq | rfl
  · by_cases e : x = k
    · subst e
      refine ⟨?_, gdW_eq _ _ _ (by simp [h.1]; exact f1)⟩
      rw [gdW_ne _ _ _ _ hne, gdW_eq _ _ _ (by rw [h.1]; exact hk)]
    · obtain ⟨a1, a2⟩ := h.2 x hx hq hsx
      have n1 : folN l k ≠ x := fun e2 => by rw [e2] at f4; omega
      have n2 : k ≠ folN l x := fun e2 => by rw [← e2] at g4; omega
      have n3 : folN l k ≠ folN l x := fun e2 => by rw [e2, g5] at f5; exact e f5
      exact ⟨by rw [gdW_ne _ _ _ _ n1, gdW_ne _ _ _ _ (Ne.symm e)]; exact a1, by rw [gdW_ne _ _ _ _ n3, gdW_ne _ _ _ _ n2]; exact a2⟩
  · refine ⟨?_, gdW_eq _ _ _ (by simp [h.1]; exact f1)⟩
    rw [gdW_ne _ _ _ _ hne, gdW_eq _ _ _ (by rw [h.1]; exact hk)]
theorem InvQ.all {l : List Int} (hw : wordB l = true) (hev : l.length % 2 = 0) {s : Nat} (hs2 : s < 2) {T : List Int} {Q : Nat → Prop} (h : InvQ l s T Q) (hQ : ∀ x, x < l.length → ixN l x % 2 = s → Q x) : T = mateL l s := by
  refine ext_getD (by rw [h.1, mateL_length]) fun y hy => ?_
  rw [h.1] at hy
  have e : (mateL l s).getD y 0 = ((mateN l s y : Nat) : Int) := by simp [mateL, List.getD, hy]
  rw [e]
  unfold mateN
  by_cases hs : ixN l y % 2 = s
  · rw [if_pos hs]; exact (h.2 y hy (hQ y hy hs) hs).1
  · rw [if_neg hs]
    obtain ⟨p1, p2, p3⟩ := prvN_facts hw hev hy
    have hp : ixN l (prvN l y) % 2 = s := by omega
    have := (h.2 (prvN l y) p1 (hQ _ p1 hp) hp).2
    rwa [p2] at this

end Go.Proofs.Ytkohmdhjjnmfgab
