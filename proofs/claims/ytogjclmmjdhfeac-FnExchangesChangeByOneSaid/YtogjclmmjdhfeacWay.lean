/- Plain mathematics of curves: the way round a curve, the colours of points, how many curves there are. -/
import Derived.Test.YtogjclmmjdhfeacMath
namespace Go.Proofs.Ytogjclmmjdhfeac
set_option linter.unusedSimpArgs false
set_option linter.unusedVariables false

/-! ### two points of a list fall together -/
theorem pigeon : ∀ (n : Nat) (f : Nat → Nat), (∀ k, k ≤ n → f k < n) → ∃ a b, a < b ∧ b ≤ n ∧ f a = f b
  | 0, f, h => by have := h 0 (Nat.le_refl _); omega
  | n + 1, f, h => by
    by_cases hx : ∃ a, a < n + 1 ∧ f a = f (n + 1)
    · obtain ⟨a, h1, h2⟩ := hx
      exact ⟨a, n + 1, h1, Nat.le_refl _, h2⟩
    · have hne : ∀ k, k ≤ n → f k ≠ f (n + 1) := fun k hk e => hx ⟨k, by omega, e⟩
      obtain ⟨a, b, h1, h2, h3⟩ := pigeon n (fun k => if f k = n then f (n + 1) else f k) (by
        intro k hk
        have h1 := h k (by omega)
        have h2 := hne k hk
        have h3 := h (n + 1) (Nat.le_refl _)
        show (if f k = n then f (n + 1) else f k) < n
        split <;> omega)
      refine ⟨a, b, h1, by omega, ?_⟩
      have ha := hne a (by omega)
      have hb := hne b (by omega)
      have h3' : (if f a = n then f (n + 1) else f a) = (if f b = n then f (n + 1) else f b) := h3
      split at h3' <;> split at h3' <;> omega

/-! ### the way round a curve -/
/-- behind k arches above and below -/
def it (t b : Nat → Nat) : Nat → Nat → Nat
  | 0, x => x
  | k + 1, x => it t b k (b (t x))
theorem it_add (t b : Nat → Nat) : ∀ (j k x : Nat), it t b (j + k) x = it t b k (it t b j x)
  | 0, k, x => by rw [Nat.zero_add]; rfl
  | j + 1, k, x => by rw [show j + 1 + k = (j + k) + 1 by omega]; exact it_add t b j k (b (t x))
theorem it_lt {t b : Nat → Nat} {n : Nat} (ht : PairedN t n) (hb : PairedN b n) : ∀ (k x : Nat), x < n → it t b k x < n
  | 0, x, h => h
  | k + 1, x, h => it_lt ht hb k _ (hb _ (ht x h).1).1
theorem it_inj {t b : Nat → Nat} {n : Nat} (ht : PairedN t n) (hb : PairedN b n) : ∀ (k x y : Nat), x < n → y < n → it t b k x = it t b k y → x = y
  | 0, x, y, _, _, h => h
  | k + 1, x, y, hx, hy, h => by
    have h1 := ht x hx
    have h2 := ht y hy
    have h3 := it_inj ht hb k _ _ (hb _ h1.1).1 (hb _ h2.1).1 h
    have h4 : t x = t y := by rw [← (hb _ h1.1).2.2, h3, (hb _ h2.1).2.2]
    rw [← h1.2.2, h4, h2.2.2]

/-- from x one comes to i by 1 to f arches above and below -/
def Hits (t b : Nat → Nat) (i f x : Nat) : Prop := ∃ j, j < f ∧ it t b (j + 1) x = i

theorem hits_start {t b : Nat → Nat} {n i : Nat} (ht : PairedN t n) (hb : PairedN b n) (hi : i < n) : Hits t b i n i := by
  obtain ⟨p, q, h1, h2, h3⟩ := pigeon n (fun k => it t b k i) (fun k _ => it_lt ht hb k i hi)
  refine ⟨q - p - 1, by omega, ?_⟩
  have e : it t b q i = it t b p (it t b (q - p) i) := by rw [← it_add, show q - p + p = q by omega]
  have h4 := it_inj ht hb p i (it t b (q - p) i) hi (it_lt ht hb _ i hi) (by rw [← e]; exact h3)
  rw [show q - p - 1 + 1 = q - p by omega]
  exact h4.symm
theorem hits_next {t b : Nat → Nat} {i f x : Nat} (h : Hits t b i (f + 1) x) (hne : b (t x) ≠ i) : Hits t b i f (b (t x)) := by
  obtain ⟨j, h1, h2⟩ := h
  cases j with
  | zero => exact absurd h2 hne
  | succ j => exact ⟨j, by omega, h2⟩
theorem hits_pos {t b : Nat → Nat} {i f x : Nat} (h : Hits t b i f x) : 0 < f := by
  obtain ⟨j, h1, _⟩ := h; omega

def wayF (t b : Nat → Nat) (i : Nat) : Nat → Nat → List Nat
  | 0, _ => []
  | f + 1, x => x :: t x :: (if b (t x) = i then [] else wayF t b i f (b (t x)))
def wayN (t b : Nat → Nat) (n i : Nat) : List Nat := wayF t b i n i

theorem wayF_len (t b : Nat → Nat) (i : Nat) : ∀ (f x : Nat), (wayF t b i f x).length ≤ 2 * f
  | 0, _ => Nat.zero_le _
  | f + 1, x => by
    have := wayF_len t b i f (b (t x))
    rw [wayF]
    split <;> simp <;> omega
theorem wayF_lt {t b : Nat → Nat} {n : Nat} (ht : PairedN t n) (hb : PairedN b n) (i : Nat) : ∀ (f x : Nat), x < n → ∀ y ∈ wayF t b i f x, y < n
  | 0, _, _ => by intro y hy; simp [wayF] at hy
  | f + 1, x, hx => by
    intro y hy
    have h1 := (ht x hx).1
    rw [wayF, List.mem_cons, List.mem_cons] at hy
    rcases hy with rfl | rfl | hy
    · exact hx
    · exact h1
    · split at hy
      · simp at hy
      · exact wayF_lt ht hb i f _ (hb _ h1).1 y hy

/-- what is closed under both sides, and holds at a point, holds on its whole way -/
theorem wayF_all {t b : Nat → Nat} {n : Nat} (ht : PairedN t n) (hb : PairedN b n) (P : Nat → Prop) (hP : ∀ x, x < n → P x → P (t x) ∧ P (b x)) (i : Nat) : ∀ (f x : Nat), x < n → P x → ∀ y ∈ wayF t b i f x, P y
  | 0, _, _, _ => by intro y hy; simp [wayF] at hy
  | f + 1, x, hx, hp => by
    intro y hy
    have h1 := (ht x hx).1
    have h2 := hP x hx hp
    rw [wayF, List.mem_cons, List.mem_cons] at hy
    rcases hy with rfl | rfl | hy
    · exact hp
    · exact h2.1
    · split at hy
      · simp at hy
      · exact wayF_all ht hb P hP i f _ (hb _ h1).1 (hP _ h1 h2.1).2 y hy

/-- a way that comes back: from each of its points the arches lead to points of it, or to i, or back -/
theorem wayF_closed {t b : Nat → Nat} {n : Nat} (ht : PairedN t n) (hb : PairedN b n) (i : Nat) (hi : i < n) : ∀ (f x : Nat), x < n → Hits t b i f x →
    (x ∈ wayF t b i f x) ∧ (∀ y ∈ wayF t b i f x, t y ∈ wayF t b i f x) ∧ (∀ y ∈ wayF t b i f x, y ≠ x → b y ∈ wayF t b i f x ∨ b y = i) ∧ (b i ∈ wayF t b i f x)
  | 0, x, _, h => by have := hits_pos h; omega
  | f + 1, x, hx, h => by
    have h1 := ht x hx
    have h2 := hb _ h1.1
    by_cases e : b (t x) = i
    · rw [wayF, if_pos e]
      refine ⟨by simp, ?_, ?_, ?_⟩
      · intro y hy
        simp only [List.mem_cons, List.not_mem_nil, or_false] at hy ⊢
        rcases hy with rfl | rfl
        · exact .inr rfl
        · exact .inl h1.2.2
      · intro y hy hne
        simp only [List.mem_cons, List.not_mem_nil, or_false] at hy ⊢
        rcases hy with rfl | rfl
        · exact absurd rfl hne
        · exact .inr e
      · simp only [List.mem_cons, List.not_mem_nil, or_false]
        right; rw [← e]; exact h2.2.2
    · obtain ⟨k1, k2, k3, k4⟩ := wayF_closed ht hb i hi f _ h2.1 (hits_next h e)
      rw [wayF, if_neg e]
      refine ⟨by simp, ?_, ?_, by simp [k4]⟩
      · intro y hy
        simp only [List.mem_cons] at hy ⊢
        rcases hy with rfl | rfl | hy
        · exact .inr (.inl rfl)
        · exact .inl h1.2.2
        · exact .inr (.inr (k2 y hy))
      · intro y hy hne
        simp only [List.mem_cons] at hy ⊢
        rcases hy with rfl | rfl | hy
        · exact absurd rfl hne
        · exact .inl (.inr (.inr k1))
        · by_cases e2 : y = b (t x)
          · subst e2
            exact .inl (.inr (.inl h2.2.2))
          · rcases k3 y hy e2 with k | k
            · exact .inl (.inr (.inr k))
            · exact .inr k

theorem wayN_closed {t b : Nat → Nat} {n i : Nat} (ht : PairedN t n) (hb : PairedN b n) (hi : i < n) :
    i ∈ wayN t b n i ∧ ∀ y ∈ wayN t b n i, t y ∈ wayN t b n i ∧ b y ∈ wayN t b n i := by
  obtain ⟨k1, k2, k3, k4⟩ := wayF_closed ht hb i hi n i hi (hits_start ht hb hi)
  refine ⟨k1, fun y hy => ⟨k2 y hy, ?_⟩⟩
  by_cases e : y = i
  · subst e; exact k4
  · rcases k3 y hy e with k | k
    · exact k
    · rw [k]; exact k1
theorem wayN_lt {t b : Nat → Nat} {n i : Nat} (ht : PairedN t n) (hb : PairedN b n) (hi : i < n) : ∀ y ∈ wayN t b n i, y < n := wayF_lt ht hb i n i hi

/-! ### colours -/
def paint (c : List Int) (xs : List Nat) (v : Int) : List Int := xs.foldl (fun c x => c.set x v) c
theorem paint_nil (c : List Int) (v : Int) : paint c [] v = c := rfl
theorem paint_snoc (c : List Int) (xs : List Nat) (x : Nat) (v : Int) : paint c (xs ++ [x]) v = (paint c xs v).set x v := by simp [paint, List.foldl_append]
theorem paint_cons (c : List Int) (xs : List Nat) (x : Nat) (v : Int) : paint c (x :: xs) v = paint (c.set x v) xs v := rfl
theorem paint_length (v : Int) : ∀ (xs : List Nat) (c : List Int), (paint c xs v).length = c.length
  | [], c => rfl
  | x :: xs, c => by rw [paint_cons, paint_length v xs]; simp
theorem paint_get (v : Int) (d : Int) : ∀ (xs : List Nat) (c : List Int) (y : Nat), y < c.length → (paint c xs v).getD y d = if y ∈ xs then v else c.getD y d
  | [], c, y, h => by simp [paint]
  | x :: xs, c, y, h => by
    rw [paint_cons, paint_get v d xs _ y (by simpa using h)]
    by_cases e : y ∈ xs
    · simp [e]
    · rw [if_neg e]
      by_cases e2 : y = x
      · subst e2; simp [List.getD, h]
      · simp [e, e2, List.getD, List.getElem?_set_ne (Ne.symm e2)]

def colS (t b : Nat → Nat) (n : Nat) : Nat → List Int × Nat
  | 0 => (List.replicate n (-1), 0)
  | k + 1 => if 0 ≤ (colS t b n k).1.getD k 0 then colS t b n k else (paint (colS t b n k).1 (wayN t b n k) ((colS t b n k).2 : Int), (colS t b n k).2 + 1)
def colN (t b : Nat → Nat) (n : Nat) : List Int := (colS t b n n).1
def cntW (t b : Nat → Nat) (n : Nat) : Nat := (colS t b n n).2

theorem colS_length (t b : Nat → Nat) (n : Nat) : ∀ k, (colS t b n k).1.length = n
  | 0 => by simp [colS]
  | k + 1 => by
    rw [colS]; split
    · exact colS_length t b n k
    · simp only [paint_length]; exact colS_length t b n k
theorem colS_le (t b : Nat → Nat) (n : Nat) : ∀ k, (colS t b n k).2 ≤ k
  | 0 => Nat.le_refl _
  | k + 1 => by
    have := colS_le t b n k
    rw [colS]; split
    · omega
    · simp only; omega

/-- what holds behind k points -/
structure ColOk (t b : Nat → Nat) (n k : Nat) (c : List Int) (m : Nat) : Prop where
  len : c.length = n
  rng : ∀ x, x < n → -1 ≤ c.getD x 0 ∧ c.getD x 0 < m
  done : ∀ x, x < k → x < n → 0 ≤ c.getD x 0
  closed : ∀ x, x < n → c.getD (t x) 0 = c.getD x 0 ∧ c.getD (b x) 0 = c.getD x 0
  grow : ∀ x, x < k → x < n → ∀ q : Int, 0 ≤ q → q < c.getD x 0 → ∃ y, y < x ∧ c.getD y 0 = q
  full : ∀ q : Int, 0 ≤ q → q < m → ∃ y, y < k ∧ y < n ∧ c.getD y 0 = q

theorem colS_ok {t b : Nat → Nat} {n : Nat} (ht : PairedN t n) (hb : PairedN b n) : ∀ k, k ≤ n → ColOk t b n k (colS t b n k).1 (colS t b n k).2
  | 0, _ => by
    have e : ∀ x, x < n → (colS t b n 0).1.getD x 0 = -1 := fun x hx => by simp [colS, List.getD, hx]
    refine ⟨by simp [colS], fun x hx => ?_, fun x hx => by omega, fun x hx => ?_, fun x hx => by omega, fun q h1 h2 => ?_⟩
    · rw [e x hx]; simp [colS]
    · rw [e x hx, e _ (ht x hx).1, e _ (hb x hx).1]; simp
    · simp only [colS] at h2; omega
  | k + 1, hk => by
    have ih := colS_ok ht hb k (by omega)
    rw [colS]
    by_cases h0 : 0 ≤ (colS t b n k).1.getD k 0
    · rw [if_pos h0]
      generalize (colS t b n k).1 = c at *
      generalize (colS t b n k).2 = m at *
      refine ⟨ih.len, ih.rng, fun x hx hn => ?_, ih.closed, fun x hx hn q h1 h2 => ?_, fun q h1 h2 => ?_⟩
      · by_cases e : x = k
        · subst e; exact h0
        · exact ih.done x (by omega) hn
      · by_cases e : x = k
        · subst e
          have := ih.rng x hn
          obtain ⟨y, y1, y2, y3⟩ := ih.full q h1 (by omega)
          exact ⟨y, y1, y3⟩
        · exact ih.grow x (by omega) hn q h1 h2
      · obtain ⟨y, y1, y2, y3⟩ := ih.full q h1 h2
        exact ⟨y, by omega, y2, y3⟩
    · rw [if_neg h0]
      generalize (colS t b n k).1 = c at *
      generalize (colS t b n k).2 = m at *
      have hw := wayN_closed ht hb (i := k) (by omega)
      have hlt := wayN_lt ht hb (i := k) (by omega)
      have hun : ∀ y ∈ wayN t b n k, c.getD y 0 = -1 := by
        have h1 := ih.rng k (by omega)
        refine wayF_all ht hb (fun y => c.getD y 0 = -1) (fun x hx hp => ?_) k n k (by omega) (by omega)
        have h2 := ih.closed x hx
        exact ⟨by rw [h2.1]; exact hp, by rw [h2.2]; exact hp⟩
      have hget : ∀ y, y < n → (paint c (wayN t b n k) (m : Int)).getD y 0 = if y ∈ wayN t b n k then (m : Int) else c.getD y 0 := fun y hy => paint_get _ _ _ _ y (by rw [ih.len]; exact hy)
      have hmem : ∀ x, x < n → (t x ∈ wayN t b n k ↔ x ∈ wayN t b n k) ∧ (b x ∈ wayN t b n k ↔ x ∈ wayN t b n k) := fun x hx =>
        ⟨⟨fun h => by have := (hw.2 _ h).1; rwa [(ht x hx).2.2] at this, fun h => (hw.2 _ h).1⟩, ⟨fun h => by have := (hw.2 _ h).2; rwa [(hb x hx).2.2] at this, fun h => (hw.2 _ h).2⟩⟩
      refine ⟨by rw [paint_length]; exact ih.len, fun x hx => ?_, fun x hx hn => ?_, fun x hx => ?_, fun x hx hn q h1 h2 => ?_, fun q h1 h2 => ?_⟩
      · rw [hget x hx]
        have := ih.rng x hx
        split <;> omega
      · rw [hget x hn]
        split
        · omega
        · by_cases e : x = k
          · subst e; rename_i h; exact absurd hw.1 h
          · exact ih.done x (by omega) hn
      · rw [hget _ (ht x hx).1, hget _ (hb x hx).1, hget x hx]
        have h1 := hmem x hx
        have h2 := ih.closed x hx
        by_cases e : x ∈ wayN t b n k
        · rw [if_pos (h1.1.2 e), if_pos (h1.2.2 e), if_pos e]; exact ⟨rfl, rfl⟩
        · rw [if_neg (fun h => e (h1.1.1 h)), if_neg (fun h => e (h1.2.1 h)), if_neg e]; exact h2
      · have hold : ∀ y, y < k → c.getD y 0 = q → ∃ y, y < k ∧ (paint c (wayN t b n k) (m : Int)).getD y 0 = q := fun y hy hq =>
          ⟨y, hy, by rw [hget y (by omega), if_neg (fun h => by have := hun y h; omega)]; exact hq⟩
        by_cases e : x = k
        · subst e
          rw [hget x hn, if_pos hw.1] at h2
          obtain ⟨y, y1, y2, y3⟩ := ih.full q h1 h2
          exact hold y y1 y3
        · have hxk : x ∉ wayN t b n k := fun h => by have := hun x h; have := ih.done x (by omega) hn; omega
          rw [hget x hn, if_neg hxk] at h2
          obtain ⟨y, y1, y2⟩ := ih.grow x (by omega) hn q h1 h2
          exact ⟨y, y1, by rw [hget y (by omega), if_neg (fun h => by have := hun y h; omega)]; exact y2⟩
      · by_cases e : q = (m : Int)
        · exact ⟨k, by omega, by omega, by rw [hget k (by omega), if_pos hw.1, e]⟩
        · obtain ⟨y, y1, y2, y3⟩ := ih.full q h1 (by omega)
          exact ⟨y, by omega, y2, by rw [hget y y2, if_neg (fun h => by have := hun y h; omega)]; exact y3⟩

theorem col_ok {t b : Nat → Nat} {n : Nat} (ht : PairedN t n) (hb : PairedN b n) : ColOk t b n n (colN t b n) (cntW t b n) := colS_ok ht hb n (Nat.le_refl _)

/-! ### the greatest colour, and one more -/
def mostL (c : List Int) : Nat → Int
  | 0 => -1
  | k + 1 => if mostL c k < c.getD k 0 then c.getD k 0 else mostL c k
theorem mostL_le (c : List Int) : ∀ k, -1 ≤ mostL c k
  | 0 => by simp [mostL]
  | k + 1 => by have := mostL_le c k; rw [mostL]; split <;> omega
theorem mostL_ge (c : List Int) : ∀ k x, x < k → c.getD x 0 ≤ mostL c k
  | 0, x, h => by omega
  | k + 1, x, h => by
    rw [mostL]
    by_cases e : x = k
    · subst e; split <;> omega
    · have := mostL_ge c k x (by omega); split <;> omega
theorem mostL_lt (c : List Int) (m : Int) (hm : 0 ≤ m) : ∀ k, (∀ x, x < k → c.getD x 0 < m) → mostL c k < m
  | 0, _ => by simp [mostL]; omega
  | k + 1, h => by
    rw [mostL]
    split
    · exact h k (by omega)
    · exact mostL_lt c m hm k (fun x hx => h x (by omega))
theorem most_col {t b : Nat → Nat} {n : Nat} (ht : PairedN t n) (hb : PairedN b n) : mostL (colN t b n) n + 1 = (cntW t b n : Int) := by
  have hk := col_ok ht hb
  have h1 := mostL_lt (colN t b n) (cntW t b n) (by omega) n (fun x hx => (hk.rng x hx).2)
  have h2 := mostL_le (colN t b n) n
  by_cases e : cntW t b n = 0
  · omega
  · obtain ⟨y, y1, y2, y3⟩ := hk.full ((cntW t b n : Int) - 1) (by omega) (by omega)
    have := mostL_ge (colN t b n) n y y2
    omega

/-! ### a way half gone, as a loop has it -/
def WayAt (t b : Nat → Nat) (n i g x : Nat) (done : List Nat) : Prop := (x = i ∧ done = wayN t b n i) ∨ (x ≠ i ∧ Hits t b i g x ∧ done ++ wayF t b i g x = wayN t b n i)
theorem wayAt_len {t b : Nat → Nat} {n i g x : Nat} {done : List Nat} (h : WayAt t b n i g x done) : done.length ≤ 2 * n := by
  have h1 : (wayN t b n i).length ≤ 2 * n := wayF_len t b i n i
  rcases h with ⟨_, h⟩ | ⟨_, _, h⟩
  · rw [h]; exact h1
  · rw [← h, List.length_append] at h1; omega
theorem wayAt_end {t b : Nat → Nat} {n i g : Nat} {done : List Nat} (h : WayAt t b n i g i done) : done = wayN t b n i := by
  rcases h with ⟨_, h⟩ | ⟨h, _⟩
  · exact h
  · exact absurd rfl h
theorem wayF_next {t b : Nat → Nat} {n i g x : Nat} {done : List Nat} (hh : Hits t b i g x) (h : done ++ wayF t b i g x = wayN t b n i) : ∃ g', g = g' + 1 ∧ WayAt t b n i g' (b (t x)) (done ++ [x, t x]) := by
  obtain ⟨g', rfl⟩ : ∃ g', g = g' + 1 := ⟨g - 1, by have := hits_pos hh; omega⟩
  refine ⟨g', rfl, ?_⟩
  rw [wayF] at h
  by_cases e : b (t x) = i
  · rw [if_pos e] at h
    exact .inl ⟨e, h⟩
  · rw [if_neg e] at h
    exact .inr ⟨e, hits_next hh e, by rw [← h]; simp⟩
theorem wayAt_next {t b : Nat → Nat} {n i g x : Nat} {done : List Nat} (h : WayAt t b n i g x done) (hx : x ≠ i) : ∃ g', g = g' + 1 ∧ WayAt t b n i g' (b (t x)) (done ++ [x, t x]) := by
  rcases h with ⟨h, _⟩ | ⟨_, hh, h⟩
  · exact absurd h hx
  · exact wayF_next hh h
theorem wayAt_start {t b : Nat → Nat} {n i : Nat} (ht : PairedN t n) (hb : PairedN b n) (hi : i < n) : WayAt t b n i (n - 1) (b (t i)) [i, t i] := by
  obtain ⟨g', e, h⟩ := wayF_next (done := []) (hits_start ht hb hi) rfl
  have : g' = n - 1 := by omega
  rw [this] at h
  exact h
def wayV (t b : Nat → Nat) (n i : Nat) : List Int := (wayN t b n i).map fun (k : Nat) => (k : Int)
theorem wayN_len (t b : Nat → Nat) (n i : Nat) : (wayN t b n i).length ≤ 2 * n := wayF_len t b i n i
theorem wayV_len (t b : Nat → Nat) (n i : Nat) : (wayV t b n i).length ≤ 2 * n := by rw [wayV, List.length_map]; exact wayN_len t b n i

theorem good_paired {l : List Int} (h : goodB l = true) : PairedN (par l) l.length := by
  intro i hi
  obtain ⟨h1, h2, h3, h4⟩ := (good_facts h).2.2.1 i hi
  have e := par_int h1
  refine ⟨by omega, by omega, ?_⟩
  show (l.getD (par l i) 0).toNat = i
  have : l.getD (par l i) 0 = i := h4
  rw [this]; simp
theorem good_cell {l : List Int} (h : goodB l = true) (i : Nat) (hi : i < l.length) : l.getD i 0 = ((par l i : Nat) : Int) := (par_int ((good_facts h).2.2.1 i hi).1).symm

theorem cnt_le (t b : Nat → Nat) (n : Nat) : cntW t b n ≤ n := colS_le t b n n

end Go.Proofs.Ytogjclmmjdhfeac
