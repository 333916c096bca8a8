/- slices.SortFunc on the program's words. -/
import Derived.Test.YteeoepbbocdchaaLaySortWo
import Derived.Test.YteeoepbbocdchaaCmpWd
import Derived.Test.YteeoepbbocdchaaWdSl
import Derived.Test.YteeoepbbocdchaaCmpI
import Derived.Test.YteeoepbbocdchaaPutMath
namespace Go.Proofs.Yteeoepbbocdchaa
open Go.RowKit Go.Shelf Go.Sort
set_option linter.unusedSimpArgs false
set_option linter.unusedVariables false

def KStkWo := { l : List Int // l.length ≤ 12 }
instance : Inhabited KStkWo := ⟨⟨[], by simp⟩⟩
def encStkWo (x : KStkWo) : List Value := wrdR x.1
def cfStkWo (x y : KStkWo) : Int := cmpL x.1 y.1
theorem ltOf_stkWo (x y : KStkWo) : Go.Proofs.ltOf cfStkWo x y = ltL x.1 y.1 := rfl
theorem swoStkWo : SWO (Go.Proofs.ltOf cfStkWo) where
  irrefl x := by rw [ltOf_stkWo]; exact ltL_irrefl _
  trans x y z h1 h2 := by rw [ltOf_stkWo] at *; exact ltL_trans _ _ _ h1 h2
  ntrans x y z h1 h2 := by rw [ltOf_stkWo] at *; exact ltL_ntrans _ _ _ h1 h2
theorem cmpLaysStkWo (blk off size : Nat) (w : World) : Go.Proofs.CmpLays Try.prog 95 #[] encStkWo 25 cfStkWo blk off size w := by
  intro m os dk _ x y
  have e1 : (encStkWo x).toArray = wrdC x.1 := wrdR_arr x.2
  have e2 : (encStkWo y).toArray = wrdC y.1 := wrdR_arr y.2
  rw [e1, e2]
  exact compareWords_any x.1 y.1 _ x.2 y.2

/-- lists of stacks as the library's arrays -/
def toKWo (ls : List (List Int)) (h : ∀ l ∈ ls, l.length ≤ 12) : Array KStkWo := (ls.pmap (fun l hl => (⟨l, hl⟩ : KStkWo)) h).toArray
theorem toK_lenWo : ∀ (ls : List (List Int)) (h : ∀ l ∈ ls, l.length ≤ 12), (ls.pmap (fun l hl => (⟨l, hl⟩ : KStkWo)) h).length = ls.length
  | [], _ => rfl
  | l :: ls, h => by simp only [List.pmap, List.length_cons]; rw [toK_lenWo ls]
theorem toK_sizeWo {ls : List (List Int)} (h : ∀ l ∈ ls, l.length ≤ 12) : (toKWo ls h).size = ls.length := toK_lenWo ls h
theorem toK_mapWo : ∀ (ls : List (List Int)) (h : ∀ l ∈ ls, l.length ≤ 12), (ls.pmap (fun l hl => (⟨l, hl⟩ : KStkWo)) h).map (·.1) = ls
  | [], _ => rfl
  | l :: ls, h => by simp only [List.pmap, List.map_cons]; rw [toK_mapWo ls]
theorem toK_valWo {ls : List (List Int)} (h : ∀ l ∈ ls, l.length ≤ 12) : (toKWo ls h).toList.map (·.1) = ls := toK_mapWo ls h

theorem flat_stkWo (d : Array KStkWo) : (flatK encStkWo 25 d).toList = wrdRs (d.toList.map (·.1)) := by
  apply List.ext_getElem?
  intro t
  by_cases h : t < d.size * 25
  · have e : t = (t / 25) * 25 + t % 25 := by omega
    have h1 : t / 25 < d.size := by omega
    have hl : t / 25 < (d.toList.map (·.1)).length := by simpa using h1
    conv => rhs; rw [e, wrdRs_get _ _ _ hl (by omega)]
    have hs : t < (flatK encStkWo 25 d).toList.length := by simpa using h
    rw [List.getElem?_eq_getElem hs, List.getElem?_eq_getElem (by rw [wrdR_len]; omega)]
    have hg := get_flatK encStkWo 25 d t h
    rw [getElem!_pos _ t (by simpa using h)] at hg
    simp only [Array.getElem_toList, hg]
    have e2 : (d.toList.map (·.1)).getD (t / 25) [] = (d[t / 25]!).1 := by
      rw [getElem!_pos d (t / 25) h1]
      simp [List.getD, h1]
    rw [e2]
    have hlt : t % 25 < (wrdR (d[t / 25]!).1).length := by rw [wrdR_len]; omega
    exact congrArg some (getElem!_pos (wrdR (d[t / 25]!).1) (t % 25) hlt)
  · rw [List.getElem?_eq_none (by simpa using h), List.getElem?_eq_none (by rw [wrdRs_length]; simpa using h)]

/-- the sort's world -/
theorem sortK_heapWo {w : World} {g n k : Nat} {d : Array KStkWo} {os : Array Obj} (hk : k < w.heap.size) : (sortWorldK encStkWo 25 w g 0 n d os).heap[k]? = if g = k then (w.heap[k]?).map (onCells (putCells id 0 (flatK encStkWo 25 d))) else w.heap[k]? := by
  show ((w.heap.modify g (onCells (putCells id 0 (flatK encStkWo 25 d)))) ++ os)[k]? = _
  rw [Array.getElem?_append, if_pos (by simpa using hk), Array.getElem?_modify]
theorem below_sortKWo {w : World} {g n : Nat} {d : Array KStkWo} {os : Array Obj} {B : Nat} (hg : g < w.heap.size) (hB : B ≤ g) : Below B w (sortWorldK encStkWo 25 w g 0 n d os) := by
  refine ⟨rfl, rfl, rfl, ?_, fun k hk => ?_⟩
  · show w.heap.size ≤ ((w.heap.modify g (onCells (putCells id 0 (flatK encStkWo 25 d)))) ++ os).size
    simp
  · rw [sortK_heapWo (by omega), if_neg (by omega)]
theorem put_takeWo (F cur : Array Value) (h : F.size ≤ cur.size) : (putCells id 0 F cur).size = cur.size ∧ (putCells id 0 F cur).toList.take F.size = F.toList := by
  unfold putCells
  refine ⟨by simp, ?_⟩
  apply List.ext_getElem?
  intro t
  rw [List.getElem?_take]
  by_cases ht : t < F.size
  · rw [if_pos ht]
    have h1 : t < cur.size := by omega
    simp [h1, ht]
  · rw [if_neg ht]
    rw [List.getElem?_eq_none (by simpa using ht)]
theorem ownK_sortKWo {B n2 c : Nat} {w : World} {g n : Nat} {ls ls' : List (List Int)} {d : Array KStkWo} {os : Array Obj} (h : OwnWo B w (.slice (some ⟨g, 0, none⟩) n2 c) ls) (hd : d.toList.map (·.1) = ls') (hl : ls'.length = ls.length) : OwnWo B (sortWorldK encStkWo 25 w g 0 n d os) (.slice (some ⟨g, 0, none⟩) n2 c) ls' := by
  rcases h.2 with ⟨hv, _⟩ | ⟨g', cap, cur, hv, hB, hg, hnc, hcm, hcs, ht⟩
  · cases hv
  simp only [Value.slice.injEq, Option.some.injEq, Addr.mk.injEq, and_true] at hv
  obtain ⟨rfl, rfl, rfl⟩ := hv
  have hgs := (Array.getElem?_eq_some_iff.1 hg).1
  have hF : (flatK encStkWo 25 d).toList = wrdRs ls' := by rw [flat_stkWo, hd]
  have hsz : (flatK encStkWo 25 d).size = ls.length * 25 := by
    have := congrArg List.length hF
    rw [wrdRs_length, hl] at this
    simpa using this
  have hp := put_takeWo (flatK encStkWo 25 d) cur (by rw [hsz, hcs]; exact Nat.mul_le_mul_right _ hnc)
  refine ⟨by rw [wrdRs_length], .inr ⟨g, c, _, by rw [hl], hB, by rw [sortK_heapWo hgs, if_pos rfl, hg]; rfl, by rw [hl]; exact hnc, hcm, by rw [hp.1]; exact hcs, ?_⟩⟩
  rw [hl, ← hsz, hp.2, hF]
theorem holds_stkWo {B n2 c : Nat} {w : World} {g : Nat} {ls : List (List Int)} (h : OwnWo B w (.slice (some ⟨g, 0, none⟩) n2 c) ls) (h8 : ∀ l ∈ ls, l.length ≤ 12) : HoldsK encStkWo 25 w g 0 (toKWo ls h8) := by
  intro j hj
  have hF : (flatK encStkWo 25 (toKWo ls h8)).toList = wrdRs ls := by rw [flat_stkWo, toK_valWo]
  have hsz : (flatK encStkWo 25 (toKWo ls h8)).size = ls.length * 25 := by rw [size_flatK, toK_sizeWo]
  have hn : n2 = ls.length := by
    rcases h.2 with ⟨hv, _⟩ | ⟨g', cap, cur, hv, _⟩
    · cases hv
    · simp at hv; exact hv.2.1
  subst hn
  have e := World.ownsRow.cellAt h j (by rw [← hsz]; exact hj)
  rw [Nat.zero_add, e, ← hF]
  refine ⟨?_, World.ownsRow.frozenAt h j⟩
  rw [getElem!_pos _ j hj]
  simp [hj]

/-- a slice of stacks in order -/
def SortedKWo (B : Nat) (w : World) (v : Value) (ls : List (List Int)) (e : Ending) (w' : World) : Prop := e = .returned (.tuple #[]) ∧ OwnWo B w' v (putAll ls) ∧ Below B w w'
theorem sortStk_anyWo (B : Nat) (v : Value) (ls : List (List Int)) (w : World) (h : OwnWo B w v ls) (h8 : ∀ l ∈ ls, l.length ≤ 12) (hn : ls.length ≤ 1000000) (hB : B ≤ w.heap.size) :
    Calls Try.prog 94 #[v, .func (.func 95) #[] #[]] w (SortedKWo B w v ls) := by
  by_cases h0 : ls.length = 0
  · obtain ⟨a, c, rfl, _⟩ := h.form
    rw [h0]
    obtain rfl : ls = [] := List.eq_nil_of_length_eq_zero h0
    exact (Go.Proofs.AnyF.slices_SortFunc_none sortWo a c _ w).mono fun e w' ⟨h1, h2⟩ => ⟨h1, by rw [h2]; exact h, by rw [h2]; exact Below.refl _ _⟩
  · obtain ⟨a, c, rfl, _⟩ := h.form
    obtain ⟨g, rfl, _, hBg, hgs, _⟩ := h.at (by omega)
    have eg : ∀ args w, (callFunc 95 args).run Try.prog w = .ok (.enter 95 args) w := enters_of Try.func95 (by kernel_rfl) rfl
    have hcon := Go.Proofs.AnyQ.slices_SortFunc sortWo 25 Try.isAgg72 Try.sizeOf72 encStkWo (fun x => wrdR_len x.1) (fun x v hv => wrdRs_one [x.1] v (by simpa [wrdRs] using (show v ∈ wrdR x.1 from hv))) cfStkWo swoStkWo 95 #[] g 0 c (toKWo ls h8) w eg (cmpLaysStkWo g 0 _ w) (holds_stkWo h h8) hgs (by rw [toK_sizeWo]; omega)
    rw [toK_sizeWo] at hcon
    refine hcon.mono fun e w' ⟨he, d', n, os, hp, hs, hw⟩ => ?_
    rw [hw]
    have hsz : d'.size = ls.length := by rw [hp.1, toK_sizeWo]
    have hperm : (d'.toList.map (·.1)).Perm ls := by
      have h3 := hp.2.2
      rw [Array.extract_eq_self_of_le (by rw [hsz]; exact Nat.le_refl _), Array.extract_eq_self_of_le (by rw [toK_sizeWo]; exact Nat.le_refl _)] at h3
      have := h3.map (·.1)
      rwa [toK_valWo] at this
    have hsrt : srtL (d'.toList.map (·.1)) := by
      unfold srtL
      rw [List.pairwise_map, List.pairwise_iff_getElem]
      intro i j hi hj hij
      have hi' : i < d'.size := by simpa using hi
      have hj' : j < d'.size := by simpa using hj
      have := hs i j (Nat.zero_le _) hij (by rw [← hsz]; exact hj')
      rw [ltOf_stkWo, getElem!_pos d' j hj', getElem!_pos d' i hi'] at this
      simpa using this
    have hall : putAll ls = d'.toList.map (·.1) := putAll_eq hsrt hperm
    refine ⟨he, ?_, below_sortKWo hgs hBg⟩
    exact ownK_sortKWo h hall.symm (putAll_length ls)

end Go.Proofs.Yteeoepbbocdchaa
