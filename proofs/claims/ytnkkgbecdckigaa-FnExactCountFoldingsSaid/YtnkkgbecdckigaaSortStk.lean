/- slices.SortFunc on the program's stacks. -/
import Derived.Test.YtnkkgbecdckigaaLaySortStk
import Derived.Test.YtnkkgbecdckigaaCmpStk
import Derived.Test.YtnkkgbecdckigaaStkS
namespace Go.Proofs.Ytnkkgbecdckigaa
open Go.RowKit Go.Shelf Go.Sort
set_option linter.unusedSimpArgs false
set_option linter.unusedVariables false

def KStk := { l : List Int // l.length ≤ 8 }
instance : Inhabited KStk := ⟨⟨[], by simp⟩⟩
def encStk (x : KStk) : List Value := stkR x.1
def cfStk (x y : KStk) : Int := cmpL x.1 y.1
theorem ltOf_stk (x y : KStk) : Go.Proofs.ltOf cfStk x y = ltL x.1 y.1 := rfl
theorem swoStk : SWO (Go.Proofs.ltOf cfStk) where
  irrefl x := by rw [ltOf_stk]; exact ltL_irrefl _
  trans x y z h1 h2 := by rw [ltOf_stk] at *; exact ltL_trans _ _ _ h1 h2
  ntrans x y z h1 h2 := by rw [ltOf_stk] at *; exact ltL_ntrans _ _ _ h1 h2
theorem cmpLaysStk (blk off size : Nat) (w : World) : Go.Proofs.CmpLays Try.prog 65 #[] encStk 9 cfStk blk off size w := by
  intro m os dk _ x y
  have e1 : (encStk x).toArray = stkC x.1 := stkR_arr x.2
  have e2 : (encStk y).toArray = stkC y.1 := stkR_arr y.2
  rw [e1, e2]
  exact compareStacks_any x.1 y.1 _ x.2 y.2

/-- lists of stacks as the library's arrays -/
def toK (ls : List (List Int)) (h : ∀ l ∈ ls, l.length ≤ 8) : Array KStk := (ls.pmap (fun l hl => (⟨l, hl⟩ : KStk)) h).toArray
theorem toK_len : ∀ (ls : List (List Int)) (h : ∀ l ∈ ls, l.length ≤ 8), (ls.pmap (fun l hl => (⟨l, hl⟩ : KStk)) h).length = ls.length
  | [], _ => rfl
  | l :: ls, h => by simp only [List.pmap, List.length_cons]; rw [toK_len ls]
theorem toK_size {ls : List (List Int)} (h : ∀ l ∈ ls, l.length ≤ 8) : (toK ls h).size = ls.length := toK_len ls h
theorem toK_map : ∀ (ls : List (List Int)) (h : ∀ l ∈ ls, l.length ≤ 8), (ls.pmap (fun l hl => (⟨l, hl⟩ : KStk)) h).map (·.1) = ls
  | [], _ => rfl
  | l :: ls, h => by simp only [List.pmap, List.map_cons]; rw [toK_map ls]
theorem toK_val {ls : List (List Int)} (h : ∀ l ∈ ls, l.length ≤ 8) : (toK ls h).toList.map (·.1) = ls := toK_map ls h

theorem flat_stk (d : Array KStk) : (flatK encStk 9 d).toList = stkRs (d.toList.map (·.1)) := by
  apply List.ext_getElem?
  intro t
  by_cases h : t < d.size * 9
  · have e : t = (t / 9) * 9 + t % 9 := by omega
    have h1 : t / 9 < d.size := by omega
    have hl : t / 9 < (d.toList.map (·.1)).length := by simpa using h1
    conv => rhs; rw [e, stkRs_get _ _ _ hl (by omega)]
    have hs : t < (flatK encStk 9 d).toList.length := by simpa using h
    rw [List.getElem?_eq_getElem hs, List.getElem?_eq_getElem (by rw [stkR_len]; omega)]
    have hg := get_flatK encStk 9 d t h
    rw [getElem!_pos _ t (by simpa using h)] at hg
    simp only [Array.getElem_toList, hg]
    have e2 : (d.toList.map (·.1)).getD (t / 9) [] = (d[t / 9]!).1 := by
      rw [getElem!_pos d (t / 9) h1]
      simp [List.getD, h1]
    rw [e2]
    have hlt : t % 9 < (stkR (d[t / 9]!).1).length := by rw [stkR_len]; omega
    exact congrArg some (getElem!_pos (stkR (d[t / 9]!).1) (t % 9) hlt)
  · rw [List.getElem?_eq_none (by simpa using h), List.getElem?_eq_none (by rw [stkRs_length]; simpa using h)]

/-- the sort's world -/
theorem sortK_heap {w : World} {g n k : Nat} {d : Array KStk} {os : Array Obj} (hk : k < w.heap.size) : (sortWorldK encStk 9 w g 0 n d os).heap[k]? = if g = k then (w.heap[k]?).map (onCells (putCells id 0 (flatK encStk 9 d))) else w.heap[k]? := by
  show ((w.heap.modify g (onCells (putCells id 0 (flatK encStk 9 d)))) ++ os)[k]? = _
  rw [Array.getElem?_append, if_pos (by simpa using hk), Array.getElem?_modify]
theorem below_sortK {w : World} {g n : Nat} {d : Array KStk} {os : Array Obj} {B : Nat} (hg : g < w.heap.size) (hB : B ≤ g) : Below B w (sortWorldK encStk 9 w g 0 n d os) := by
  refine ⟨rfl, rfl, rfl, ?_, fun k hk => ?_⟩
  · show w.heap.size ≤ ((w.heap.modify g (onCells (putCells id 0 (flatK encStk 9 d)))) ++ os).size
    simp
  · rw [sortK_heap (by omega), if_neg (by omega)]
theorem put_take (F cur : Array Value) (h : F.size ≤ cur.size) : (putCells id 0 F cur).size = cur.size ∧ (putCells id 0 F cur).toList.take F.size = F.toList := by
  unfold putCells
  refine ⟨by simp, ?_⟩
  apply List.ext_getElem?
  intro t
  rw [List.getElem?_take]
  by_cases ht : t < F.size
  · rw [if_pos ht]
    have h1 : t < cur.size := by omega
    simp [h1, ht]
  · rw [if_neg ht]
    rw [List.getElem?_eq_none (by simpa using ht)]
theorem ownK_sortK {B n2 c : Nat} {w : World} {g n : Nat} {ls ls' : List (List Int)} {d : Array KStk} {os : Array Obj} (h : OwnK B w (.slice (some ⟨g, 0, none⟩) n2 c) ls) (hd : d.toList.map (·.1) = ls') (hl : ls'.length = ls.length) : OwnK B (sortWorldK encStk 9 w g 0 n d os) (.slice (some ⟨g, 0, none⟩) n2 c) ls' := by
  rcases h.2 with ⟨hv, _⟩ | ⟨g', cap, cur, hv, hB, hg, hnc, hcm, hcs, ht⟩
  · cases hv
  simp only [Value.slice.injEq, Option.some.injEq, Addr.mk.injEq, and_true] at hv
  obtain ⟨rfl, rfl, rfl⟩ := hv
  have hgs := (Array.getElem?_eq_some_iff.1 hg).1
  have hF : (flatK encStk 9 d).toList = stkRs ls' := by rw [flat_stk, hd]
  have hsz : (flatK encStk 9 d).size = ls.length * 9 := by
    have := congrArg List.length hF
    rw [stkRs_length, hl] at this
    simpa using this
  have hp := put_take (flatK encStk 9 d) cur (by rw [hsz, hcs]; exact Nat.mul_le_mul_right _ hnc)
  refine ⟨by rw [stkRs_length], .inr ⟨g, c, _, by rw [hl], hB, by rw [sortK_heap hgs, if_pos rfl, hg]; rfl, by rw [hl]; exact hnc, hcm, by rw [hp.1]; exact hcs, ?_⟩⟩
  rw [hl, ← hsz, hp.2, hF]
theorem holds_stk {B n2 c : Nat} {w : World} {g : Nat} {ls : List (List Int)} (h : OwnK B w (.slice (some ⟨g, 0, none⟩) n2 c) ls) (h8 : ∀ l ∈ ls, l.length ≤ 8) : HoldsK encStk 9 w g 0 (toK ls h8) := by
  intro j hj
  have hF : (flatK encStk 9 (toK ls h8)).toList = stkRs ls := by rw [flat_stk, toK_val]
  have hsz : (flatK encStk 9 (toK ls h8)).size = ls.length * 9 := by rw [size_flatK, toK_size]
  have hn : n2 = ls.length := by
    rcases h.2 with ⟨hv, _⟩ | ⟨g', cap, cur, hv, _⟩
    · cases hv
    · simp at hv; exact hv.2.1
  subst hn
  have e := World.ownsRow.cellAt h j (by rw [← hsz]; exact hj)
  rw [Nat.zero_add, e, ← hF]
  refine ⟨?_, World.ownsRow.frozenAt h j⟩
  rw [getElem!_pos _ j hj]
  simp [hj]

/-- a slice of stacks in order -/
def SortedK (B : Nat) (w : World) (v : Value) (ls : List (List Int)) (e : Ending) (w' : World) : Prop := e = .returned (.tuple #[]) ∧ OwnK B w' v (putAll ls) ∧ Below B w w'
theorem sortStk_any (B : Nat) (v : Value) (ls : List (List Int)) (w : World) (h : OwnK B w v ls) (h8 : ∀ l ∈ ls, l.length ≤ 8) (hn : ls.length ≤ 1000000) (hB : B ≤ w.heap.size) :
    Calls Try.prog 64 #[v, .func (.func 65) #[] #[]] w (SortedK B w v ls) := by
  by_cases h0 : ls.length = 0
  · obtain ⟨a, c, rfl, _⟩ := h.form
    rw [h0]
    obtain rfl : ls = [] := List.eq_nil_of_length_eq_zero h0
    exact (Go.Proofs.AnyF.slices_SortFunc_none sortStk a c _ w).mono fun e w' ⟨h1, h2⟩ => ⟨h1, by rw [h2]; exact h, by rw [h2]; exact Below.refl _ _⟩
  · obtain ⟨a, c, rfl, _⟩ := h.form
    obtain ⟨g, rfl, _, hBg, hgs, _⟩ := h.at (by omega)
    have eg : ∀ args w, (callFunc 65 args).run Try.prog w = .ok (.enter 65 args) w := enters_of Try.func65 (by kernel_rfl) rfl
    have hcon := Go.Proofs.AnyQ.slices_SortFunc sortStk 9 Try.isAgg42 Try.sizeOf42 encStk (fun x => stkR_len x.1) (fun x v hv => stkRs_one [x.1] v (by simpa [stkRs] using (show v ∈ stkR x.1 from hv))) cfStk swoStk 65 #[] g 0 c (toK ls h8) w eg (cmpLaysStk g 0 _ w) (holds_stk h h8) hgs (by rw [toK_size]; omega)
    rw [toK_size] at hcon
    refine hcon.mono fun e w' ⟨he, d', n, os, hp, hs, hw⟩ => ?_
    rw [hw]
    have hsz : d'.size = ls.length := by rw [hp.1, toK_size]
    have hperm : (d'.toList.map (·.1)).Perm ls := by
      have h3 := hp.2.2
      rw [Array.extract_eq_self_of_le (by rw [hsz]; exact Nat.le_refl _), Array.extract_eq_self_of_le (by rw [toK_size]; exact Nat.le_refl _)] at h3
      have := h3.map (·.1)
      rwa [toK_val] at this
    have hsrt : srtL (d'.toList.map (·.1)) := by
      unfold srtL
      rw [List.pairwise_map, List.pairwise_iff_getElem]
      intro i j hi hj hij
      have hi' : i < d'.size := by simpa using hi
      have hj' : j < d'.size := by simpa using hj
      have := hs i j (Nat.zero_le _) hij (by rw [← hsz]; exact hj')
      rw [ltOf_stk, getElem!_pos d' j hj', getElem!_pos d' i hi'] at this
      simpa using this
    have hall : putAll ls = d'.toList.map (·.1) := putAll_eq hsrt hperm
    refine ⟨he, ?_, below_sortK hgs hBg⟩
    exact ownK_sortK h hall.symm (putAll_length ls)

end Go.Proofs.Ytnkkgbecdckigaa
