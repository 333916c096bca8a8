/- The way of a pair of one curve: each point once. -/
import Derived.Test.YtbinpefogecgmabWay
import Derived.Test.YtbinpefogecgmabWdMath
namespace Go.Proofs.Ytbinpefogecgmab
set_option linter.unusedSimpArgs false
set_option linter.unusedVariables false

theorem it_succ (t b : Nat → Nat) (k x : Nat) : it t b (k + 1) x = b (t (it t b k x)) := by rw [it_add t b k 1 x]; rfl

theorem it_apart {t b : Nat → Nat} {n i : Nat} (ht : PairedN t n) (hb : PairedN b n) (hi : i < n) : ∀ (d j : Nat), it t b j i ≠ t (it t b (j + d) i)
  | 0, j, h => (ht _ (it_lt ht hb j i hi)).2.1 h.symm
  | 1, j, h => by
    have hx := it_lt ht hb j i hi
    rw [it_succ] at h
    have h1 := congrArg t h
    rw [(ht _ (hb _ (ht _ hx).1).1).2.2] at h1
    exact (hb _ (ht _ hx).1).2.1 h1.symm
  | d + 2, j, h => by
    have hx := it_lt ht hb j i hi
    have hy := it_lt ht hb (j + d + 1) i hi
    rw [show j + (d + 2) = (j + d + 1) + 1 by omega, it_succ] at h
    have h1 := congrArg t h
    rw [(ht _ (hb _ (ht _ hy).1).1).2.2] at h1
    have h2 := congrArg b h1
    rw [(hb _ (ht _ hy).1).2.2, ← it_succ t b] at h2
    refine it_apart ht hb hi d (j + 1) ?_
    rw [h2, show j + 1 + d = j + d + 1 by omega]
theorem it_apart' {t b : Nat → Nat} {n i : Nat} (ht : PairedN t n) (hb : PairedN b n) (hi : i < n) (j k : Nat) : it t b j i ≠ t (it t b k i) := by
  by_cases h : j ≤ k
  · have := it_apart ht hb hi (k - j) j
    rwa [show j + (k - j) = k by omega] at this
  · intro e
    have := it_apart ht hb hi (j - k) k
    rw [show k + (j - k) = j by omega] at this
    refine this ?_
    rw [e, (ht _ (it_lt ht hb k i hi)).2.2]

def Away0 (t b : Nat → Nat) (i c : Nat) : Prop := ∀ c', 0 < c' → c' ≤ c → it t b c' i ≠ i

theorem wayF_mem {t b : Nat → Nat} {i : Nat} : ∀ (f a : Nat), Away0 t b i a → ∀ y ∈ wayF t b i f (it t b a i), ∃ c, a ≤ c ∧ (y = it t b c i ∨ y = t (it t b c i)) ∧ Away0 t b i c
  | 0, _, _, y, hy => by simp [wayF] at hy
  | f + 1, a, ha, y, hy => by
    rw [wayF, ← it_succ t b] at hy
    rcases List.mem_cons.1 hy with h | h
    · exact ⟨a, Nat.le_refl _, .inl h, ha⟩
    · rcases List.mem_cons.1 h with h | h
      · exact ⟨a, Nat.le_refl _, .inr h, ha⟩
      · by_cases e : it t b (a + 1) i = i
        · rw [if_pos e] at h; cases h
        · rw [if_neg e] at h
          have ha' : Away0 t b i (a + 1) := fun c' h0 h1 => by
            by_cases e2 : c' = a + 1
            · rw [e2]; exact e
            · exact ha c' h0 (by omega)
          obtain ⟨c, h1, h2, h3⟩ := wayF_mem f (a + 1) ha' y h
          exact ⟨c, by omega, h2, h3⟩

theorem wayF_nodup {t b : Nat → Nat} {n i : Nat} (ht : PairedN t n) (hb : PairedN b n) (hi : i < n) : ∀ (f a : Nat), Away0 t b i a → (wayF t b i f (it t b a i)).Nodup
  | 0, _, _ => by simp [wayF]
  | f + 1, a, ha => by
    rw [wayF, ← it_succ t b]
    have hxa := it_lt ht hb a i hi
    have hfar : ∀ c, a + 1 ≤ c → Away0 t b i c → it t b a i ≠ it t b c i := by
      intro c h1 h2 e
      have e2 : it t b a (it t b 0 i) = it t b a (it t b (c - a) i) := by
        show it t b a i = _
        rw [← it_add, show c - a + a = c by omega]; exact e
      have := it_inj ht hb a (it t b 0 i) (it t b (c - a) i) hi (it_lt ht hb _ i hi) e2
      exact h2 (c - a) (by omega) (by omega) this.symm
    have hrest : ∀ y ∈ (if it t b (a + 1) i = i then [] else wayF t b i f (it t b (a + 1) i)), ∃ c, a + 1 ≤ c ∧ (y = it t b c i ∨ y = t (it t b c i)) ∧ Away0 t b i c := by
      intro y hy
      by_cases e : it t b (a + 1) i = i
      · rw [if_pos e] at hy; cases hy
      · rw [if_neg e] at hy
        exact wayF_mem f (a + 1) (fun c' h0 h1 => by
          by_cases e2 : c' = a + 1
          · rw [e2]; exact e
          · exact ha c' h0 (by omega)) y hy
    rw [List.nodup_cons, List.nodup_cons]
    refine ⟨?_, ?_, ?_⟩
    · intro hm
      rcases List.mem_cons.1 hm with h | h
      · exact (ht _ hxa).2.1 h.symm
      · obtain ⟨c, h1, h2 | h2, h3⟩ := hrest _ h
        · exact hfar c h1 h3 h2
        · exact it_apart' ht hb hi a c h2
    · intro h
      obtain ⟨c, h1, h2 | h2, h3⟩ := hrest _ h
      · exact it_apart' ht hb hi c a h2.symm
      · have := congrArg t h2
        rw [(ht _ hxa).2.2, (ht _ (it_lt ht hb c i hi)).2.2] at this
        exact hfar c h1 h3 this
    · by_cases e : it t b (a + 1) i = i
      · rw [if_pos e]; exact List.nodup_nil
      · rw [if_neg e]
        exact wayF_nodup ht hb hi f (a + 1) (fun c' h0 h1 => by
          by_cases e2 : c' = a + 1
          · rw [e2]; exact e
          · exact ha c' h0 (by omega))

theorem wayN_nodup {t b : Nat → Nat} {n i : Nat} (ht : PairedN t n) (hb : PairedN b n) (hi : i < n) : (wayN t b n i).Nodup :=
  wayF_nodup ht hb hi n 0 fun c' h0 h1 => by omega
theorem wayV_nodup {t b : Nat → Nat} {n i : Nat} (ht : PairedN t n) (hb : PairedN b n) (hi : i < n) : (wayV t b n i).Nodup := by
  unfold wayV
  exact List.Pairwise.map _ (fun a c h e => h (by omega)) (wayN_nodup ht hb hi)

/-! one curve: each point is met -/
theorem colS_one {t b : Nat → Nat} {n : Nat} (h1 : cntW t b n = 1) : ∀ k, k + 1 ≤ n → colS t b n (k + 1) = (paint (List.replicate n (-1)) (wayN t b n 0) 0, 1) := by
  have mono : ∀ k, (colS t b n k).2 ≤ (colS t b n (k + 1)).2 := by
    intro k
    rw [colS]
    split
    · exact Nat.le_refl _
    · simp only; omega
  have mono2 : ∀ d k, (colS t b n k).2 ≤ (colS t b n (k + d)).2 := by
    intro d
    induction d with
    | zero => intro k; exact Nat.le_refl _
    | succ d ih => intro k; exact Nat.le_trans (ih k) (mono (k + d))
  intro k
  induction k with
  | zero =>
    intro hk
    have e : (colS t b n 0).1.getD 0 0 = -1 := by
      simp [colS, List.getD, List.getElem?_replicate, show 0 < n by omega]
    rw [colS, if_neg (by rw [e]; omega)]
    rfl
  | succ k ih =>
    intro hk
    have hc := ih (by omega)
    rw [colS]
    by_cases e : 0 ≤ (colS t b n (k + 1)).1.getD (k + 1) 0
    · rw [if_pos e]; exact hc
    · exfalso
      have h2 : (colS t b n (k + 1 + 1)).2 = 2 := by rw [colS, if_neg e, hc]
      have := mono2 (n - (k + 1 + 1)) (k + 1 + 1)
      rw [show k + 1 + 1 + (n - (k + 1 + 1)) = n by omega, h2] at this
      unfold cntW at h1
      omega
theorem one_pos {t b : Nat → Nat} {n : Nat} (h1 : cntW t b n = 1) : 0 < n := by
  have := cnt_le t b n
  omega
theorem way_all {t b : Nat → Nat} {n : Nat} (ht : PairedN t n) (hb : PairedN b n) (h1 : cntW t b n = 1) (y : Nat) (hy : y < n) : y ∈ wayN t b n 0 := by
  have hn := one_pos h1
  have hc := colS_one h1 (n - 1) (by omega)
  rw [show n - 1 + 1 = n by omega] at hc
  have hd := (col_ok ht hb).done y hy hy
  unfold colN at hd
  rw [hc] at hd
  simp only at hd
  rw [paint_get 0 0 _ _ y (by simpa using hy)] at hd
  by_cases e : y ∈ wayN t b n 0
  · exact e
  · rw [if_neg e] at hd
    simp [List.getD, List.getElem?_replicate, hy] at hd
theorem wayV_one {t b : Nat → Nat} {n : Nat} (ht : PairedN t n) (hb : PairedN b n) (hn : n ≤ 12) (h1 : cntW t b n = 1) : (wayV t b n 0).length = n ∧ wordB (wayV t b n 0) = true ∧ (wayN t b n 0).length = n := by
  have h0 := one_pos h1
  have hnd := wayV_nodup ht hb h0
  have hlt : ∀ x ∈ wayV t b n 0, x ∈ upTo n := by
    intro x hx
    unfold wayV at hx
    obtain ⟨k, hk, rfl⟩ := List.mem_map.1 hx
    have := wayN_lt ht hb h0 k hk
    exact mem_upTo.2 ⟨by omega, by omega⟩
  have hall : ∀ x ∈ upTo n, x ∈ wayV t b n 0 := by
    intro x hx
    obtain ⟨a1, a2⟩ := mem_upTo.1 hx
    unfold wayV
    exact List.mem_map.2 ⟨x.toNat, way_all ht hb h1 _ (by omega), by omega⟩
  have l1 := nodup_sub_len _ _ hnd hlt
  have l2 := nodup_sub_len _ _ (upTo_nodup n) hall
  rw [upTo_length] at l1 l2
  have hl : (wayV t b n 0).length = n := by omega
  refine ⟨hl, ?_, by simpa [wayV] using hl⟩
  unfold wordB
  have hr : InRange (wayV t b n 0) := by
    intro i hi
    have hm : (wayV t b n 0).getD i 0 ∈ wayV t b n 0 := by simp [List.getD, List.getElem?_eq_getElem hi]
    have := mem_upTo.1 (hlt _ hm)
    omega
  rw [decide_eq_true (by omega), (range_in _).2 hr, (fresh_iff _).2 hnd]
  rfl

end Go.Proofs.Ytbinpefogecgmab
