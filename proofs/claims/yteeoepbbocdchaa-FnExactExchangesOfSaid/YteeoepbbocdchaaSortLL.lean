/- A contract of the library laid at this program. -/
/- A contract of the library laid at this program. -/
/- The rows of a slice of slices in another order. -/
/- slices.SortFunc on slices of ints with slices.Compare. -/
import Derived.Test.YteeoepbbocdchaaProg
import Derived.Shelf.SlSortCmp.NoneTotal
import Derived.Test.YteeoepbbocdchaaListsLaw
import Derived.Test.YteeoepbbocdchaaCmpI
import Derived.Test.YteeoepbbocdchaaLLPut
namespace Go.Proofs.Yteeoepbbocdchaa
open Go.Shelf Go.Proofs
def sortLL_ren : Go.Shelf.Ren := ⟨fun | 6 => 50 | 15 => 85 | 14 => 84 | 28 => 128 | 29 => 129 | 20 => 120 | 21 => 121 | 22 => 122 | 23 => 123 | 24 => 124 | 25 => 125 | 26 => 126 | 27 => 127 | 46 => 164 | 47 => 165 | 48 => 166 | 49 => 167 | 50 => 168 | 57 => 193 | n => n,
  fun | 22 => 23 | 24 => 22 | 25 => 66 | 3 => 3 | 39 => 104 | 0 => 0 | 53 => 140 | 55 => 142 | 4 => 4 | 46 => 134 | 45 => 133 | 50 => 34 | 5 => 5 | 9 => 9 | 66 => 173 | 70 => 177 | 76 => 204 | 77 => 86 | n => n,
  fun | n => n⟩
theorem sortLL : Go.Proofs.SlLaysF0.n6 Try.prog sortLL_ren := {
  mixed := by kernel_rfl
  f6 := ⟨Try.f50.name, by decide, Try.func50.trans (congrArg some (by kernel_rfl))⟩
  f14 := ⟨Try.f84.name, by decide, Try.func84.trans (congrArg some (by kernel_rfl))⟩
  f15 := Try.func85.trans (congrArg some (by kernel_rfl))
  f20 := ⟨Try.f120.name, by decide, Try.func120.trans (congrArg some (by kernel_rfl))⟩
  f21 := ⟨Try.f121.name, by decide, Try.func121.trans (congrArg some (by kernel_rfl))⟩
  f22 := ⟨Try.f122.name, by decide, Try.func122.trans (congrArg some (by kernel_rfl))⟩
  f23 := ⟨Try.f123.name, by decide, Try.func123.trans (congrArg some (by kernel_rfl))⟩
  f24 := ⟨Try.f124.name, by decide, Try.func124.trans (congrArg some (by kernel_rfl))⟩
  f25 := ⟨Try.f125.name, by decide, Try.func125.trans (congrArg some (by kernel_rfl))⟩
  f26 := ⟨Try.f126.name, by decide, Try.func126.trans (congrArg some (by kernel_rfl))⟩
  f27 := ⟨Try.f127.name, by decide, Try.func127.trans (congrArg some (by kernel_rfl))⟩
  f28 := Try.func128.trans (congrArg some (by kernel_rfl))
  f29 := Try.func129.trans (congrArg some (by kernel_rfl))
  f46 := ⟨Try.f164.name, by decide, Try.func164.trans (congrArg some (by kernel_rfl))⟩
  f47 := Try.func165.trans (congrArg some (by kernel_rfl))
  f48 := Try.func166.trans (congrArg some (by kernel_rfl))
  f49 := ⟨Try.f167.name, by decide, Try.func167.trans (congrArg some (by kernel_rfl))⟩
  f50 := ⟨Try.f168.name, by decide, Try.func168.trans (congrArg some (by kernel_rfl))⟩
  f57 := ⟨Try.f193.name, by decide, Try.func193.trans (congrArg some (by kernel_rfl))⟩
  t0 := Try.underlying0
  a0 := Try.isAgg0
  z0 := Try.sizeOf0
  v0 := Try.zeroValue0
  t3 := Try.underlying3
  a3 := Try.isAgg3
  z3 := Try.sizeOf3
  v3 := Try.zeroValue3
  t4 := Try.underlying4
  a4 := Try.isAgg4
  z4 := Try.sizeOf4
  v4 := Try.zeroValue4
  t5 := Try.underlying5
  a5 := Try.isAgg5
  z5 := Try.sizeOf5
  v5 := Try.zeroValue5
  t9 := Try.underlying9
  a9 := Try.isAgg9
  z9 := Try.sizeOf9
  v9 := Try.zeroValue9
  t22 := Try.underlying23
  a22 := Try.isAgg23
  z22 := Try.sizeOf23
  v22 := Try.zeroValue23
  t25 := Try.underlying66
  a25 := Try.isAgg66
  z25 := Try.sizeOf66
  v25 := Try.zeroValue66
  t39 := Try.underlying104
  a39 := Try.isAgg104
  z39 := Try.sizeOf104
  v39 := Try.zeroValue104
  t45 := Try.underlying133
  a45 := Try.isAgg133
  z45 := Try.sizeOf133
  v45 := Try.zeroValue133
  t46 := Try.underlying134
  a46 := Try.isAgg134
  z46 := Try.sizeOf134
  v46 := Try.zeroValue134
  t50 := Try.underlying34
  a50 := Try.isAgg34
  z50 := Try.sizeOf34
  v50 := Try.zeroValue34
  t53 := Try.underlying140
  a53 := Try.isAgg140
  z53 := Try.sizeOf140
  v53 := Try.zeroValue140
  t55 := Try.underlying142
  a55 := Try.isAgg142
  z55 := Try.sizeOf142
  v55 := Try.zeroValue142
  t66 := Try.underlying173
  a66 := Try.isAgg173
  z66 := Try.sizeOf173
  v66 := Try.zeroValue173
  t70 := Try.underlying177
  a70 := Try.isAgg177
  z70 := Try.sizeOf177
  v70 := Try.zeroValue177
  t76 := Try.underlying204
  a76 := Try.isAgg204
  z76 := Try.sizeOf204
  v76 := Try.zeroValue204
  t77 := Try.underlying86
  a77 := Try.isAgg86
  z77 := Try.sizeOf86
  v77 := Try.zeroValue86 }
end Go.Proofs.Yteeoepbbocdchaa

namespace Go.Proofs.Yteeoepbbocdchaa
open Go.Shelf Go.Proofs
def sortLE_ren : Go.Shelf.Ren := ⟨fun | 6 => 50 | 15 => 85 | 14 => 84 | 28 => 128 | 29 => 129 | 20 => 120 | 21 => 121 | 22 => 122 | 23 => 123 | 24 => 124 | 25 => 125 | 26 => 126 | 27 => 127 | 46 => 164 | 47 => 165 | 48 => 166 | 49 => 167 | 50 => 168 | 57 => 193 | n => n,
  fun | 22 => 23 | 24 => 22 | 25 => 66 | 3 => 3 | 39 => 104 | 0 => 0 | 53 => 140 | 55 => 142 | 4 => 4 | 46 => 134 | 45 => 133 | 50 => 34 | 5 => 5 | 9 => 9 | 66 => 173 | 70 => 177 | 76 => 204 | 77 => 86 | n => n,
  fun | n => n⟩
theorem sortLE : Go.Proofs.SlLaysF.n6 Try.prog sortLE_ren := {
  mixed := by kernel_rfl
  f6 := ⟨Try.f50.name, by decide, Try.func50.trans (congrArg some (by kernel_rfl))⟩
  f14 := ⟨Try.f84.name, by decide, Try.func84.trans (congrArg some (by kernel_rfl))⟩
  f15 := Try.func85.trans (congrArg some (by kernel_rfl))
  f20 := ⟨Try.f120.name, by decide, Try.func120.trans (congrArg some (by kernel_rfl))⟩
  f21 := ⟨Try.f121.name, by decide, Try.func121.trans (congrArg some (by kernel_rfl))⟩
  f22 := ⟨Try.f122.name, by decide, Try.func122.trans (congrArg some (by kernel_rfl))⟩
  f23 := ⟨Try.f123.name, by decide, Try.func123.trans (congrArg some (by kernel_rfl))⟩
  f24 := ⟨Try.f124.name, by decide, Try.func124.trans (congrArg some (by kernel_rfl))⟩
  f25 := ⟨Try.f125.name, by decide, Try.func125.trans (congrArg some (by kernel_rfl))⟩
  f26 := ⟨Try.f126.name, by decide, Try.func126.trans (congrArg some (by kernel_rfl))⟩
  f27 := ⟨Try.f127.name, by decide, Try.func127.trans (congrArg some (by kernel_rfl))⟩
  f28 := Try.func128.trans (congrArg some (by kernel_rfl))
  f29 := Try.func129.trans (congrArg some (by kernel_rfl))
  f46 := ⟨Try.f164.name, by decide, Try.func164.trans (congrArg some (by kernel_rfl))⟩
  f47 := Try.func165.trans (congrArg some (by kernel_rfl))
  f48 := Try.func166.trans (congrArg some (by kernel_rfl))
  f49 := ⟨Try.f167.name, by decide, Try.func167.trans (congrArg some (by kernel_rfl))⟩
  f50 := ⟨Try.f168.name, by decide, Try.func168.trans (congrArg some (by kernel_rfl))⟩
  f57 := ⟨Try.f193.name, by decide, Try.func193.trans (congrArg some (by kernel_rfl))⟩
  t0 := Try.underlying0
  a0 := Try.isAgg0
  z0 := Try.sizeOf0
  v0 := Try.zeroValue0
  t3 := Try.underlying3
  a3 := Try.isAgg3
  z3 := Try.sizeOf3
  v3 := Try.zeroValue3
  t4 := Try.underlying4
  a4 := Try.isAgg4
  z4 := Try.sizeOf4
  v4 := Try.zeroValue4
  t5 := Try.underlying5
  a5 := Try.isAgg5
  z5 := Try.sizeOf5
  v5 := Try.zeroValue5
  t9 := Try.underlying9
  a9 := Try.isAgg9
  z9 := Try.sizeOf9
  v9 := Try.zeroValue9
  t22 := Try.underlying23
  a22 := Try.isAgg23
  z22 := Try.sizeOf23
  v22 := Try.zeroValue23
  a24 := Try.isAgg22
  z24 := Try.sizeOf22
  t25 := Try.underlying66
  a25 := Try.isAgg66
  z25 := Try.sizeOf66
  v25 := Try.zeroValue66
  t39 := Try.underlying104
  a39 := Try.isAgg104
  z39 := Try.sizeOf104
  v39 := Try.zeroValue104
  t45 := Try.underlying133
  a45 := Try.isAgg133
  z45 := Try.sizeOf133
  v45 := Try.zeroValue133
  t46 := Try.underlying134
  a46 := Try.isAgg134
  z46 := Try.sizeOf134
  v46 := Try.zeroValue134
  t50 := Try.underlying34
  a50 := Try.isAgg34
  z50 := Try.sizeOf34
  v50 := Try.zeroValue34
  t53 := Try.underlying140
  a53 := Try.isAgg140
  z53 := Try.sizeOf140
  v53 := Try.zeroValue140
  t55 := Try.underlying142
  a55 := Try.isAgg142
  z55 := Try.sizeOf142
  v55 := Try.zeroValue142
  t66 := Try.underlying173
  a66 := Try.isAgg173
  z66 := Try.sizeOf173
  v66 := Try.zeroValue173
  t70 := Try.underlying177
  a70 := Try.isAgg177
  z70 := Try.sizeOf177
  v70 := Try.zeroValue177
  t76 := Try.underlying204
  a76 := Try.isAgg204
  z76 := Try.sizeOf204
  v76 := Try.zeroValue204
  t77 := Try.underlying86
  a77 := Try.isAgg86
  z77 := Try.sizeOf86
  v77 := Try.zeroValue86 }
end Go.Proofs.Yteeoepbbocdchaa

namespace Go.Proofs.Yteeoepbbocdchaa
open Go.RowKit
set_option linter.unusedSimpArgs false
set_option linter.unusedVariables false

theorem OwnLL.perm {lo hi : Nat} {w w' : World} {v : Value} {vs vs' : List Value} {ls ls' : List (List Int)} (h : OwnLL lo hi w v vs ls) (s : Nat → Nat) (hs : ∀ i, i < ls.length → s i < ls.length)
    (hinj : ∀ i j, i < ls.length → j < ls.length → i ≠ j → s i ≠ s j) (hl : ls'.length = ls.length) (hv : vs'.length = ls.length)
    (hvs : ∀ i, i < ls.length → rowV vs' i = rowV vs (s i)) (hls : ∀ i, i < ls.length → ls'.getD i [] = ls.getD (s i) [])
    (hr : w'.ownsRow lo 22 1 v ls.length vs') (hk : ∀ i, i < ls.length → Own lo w' (rowV vs i) (ls.getD i [])) (hsz : w.heap.size ≤ w'.heap.size) : OwnLL lo hi w' v vs' ls' := by
  refine ⟨Nat.le_trans h.ends hsz, by rw [hv, hl], by rw [hl]; exact hr, fun i hi => ?_, h.inn, fun i hi => ?_, fun i j hi hj hne k h1 h2 => ?_⟩
  · rw [hl] at hi
    rw [hvs i hi, hls i hi]
    exact hk _ (hs i hi)
  · rw [hl] at hi
    rw [hvs i hi]
    exact h.inr _ (hs i hi)
  · rw [hl] at hi hj
    rw [hvs i hi] at h1
    rw [hvs j hj] at h2
    exact h.apart _ _ (hs i hi) (hs j hj) (hinj i j hi hj hne) k h1 h2

end Go.Proofs.Yteeoepbbocdchaa

namespace Go.Proofs.Yteeoepbbocdchaa
open Go.RowKit Go.Shelf Go.Sort
set_option linter.unusedSimpArgs false
set_option linter.unusedVariables false

def cfLL (ls : List (List Int)) (i j : Nat) : Int := cmpL (ls.getD i []) (ls.getD j [])
theorem ltOf_ll (ls : List (List Int)) (i j : Nat) : Go.Proofs.ltOf (cfLL ls) i j = ltL (ls.getD i []) (ls.getD j []) := rfl
theorem swoLL (ls : List (List Int)) : SWO (Go.Proofs.ltOf (cfLL ls)) where
  irrefl x := by rw [ltOf_ll]; exact ltL_irrefl _
  trans x y z h1 h2 := by rw [ltOf_ll] at *; exact ltL_trans _ _ _ h1 h2
  ntrans x y z h1 h2 := by rw [ltOf_ll] at *; exact ltL_ntrans _ _ _ h1 h2
theorem one_LL {lo hi : Nat} {w : World} {v : Value} {vs : List Value} {ls : List (List Int)} (h : OwnLL lo hi w v vs ls) : OneCell (rowV vs) := by
  intro i
  by_cases hi : i < vs.length
  · exact h.ones _ (by rw [show rowV vs i = vs[i] by simp [rowV, List.getD, hi]]; exact List.getElem_mem hi)
  · rw [show rowV vs i = .slice none 0 0 by simp [rowV, List.getD, hi]]; rfl
theorem sortL_heap {w : World} {g n k : Nat} {vs : List Value} {d : Array Nat} {os : Array Obj} (hk : k < w.heap.size) : (sortWorld (rowV vs) w g 0 n d os).heap[k]? = if g = k then (w.heap[k]?).map (onCells (putCells (rowV vs) 0 d)) else w.heap[k]? := by
  show ((w.heap.modify g (onCells (putCells (rowV vs) 0 d))) ++ os)[k]? = _
  rw [Array.getElem?_append, if_pos (by simpa using hk), Array.getElem?_modify]
theorem below_sortL {w : World} {g n : Nat} {vs : List Value} {d : Array Nat} {os : Array Obj} {B : Nat} (hg : g < w.heap.size) (hB : B ≤ g) : Below B w (sortWorld (rowV vs) w g 0 n d os) := by
  refine ⟨rfl, rfl, rfl, ?_, fun k hk => ?_⟩
  · show w.heap.size ≤ ((w.heap.modify g (onCells (putCells (rowV vs) 0 d))) ++ os).size
    simp
  · rw [sortL_heap (by omega), if_neg (by omega)]
theorem grown_sortL {w : World} {g n : Nat} {vs : List Value} {d : Array Nat} {os : Array Obj} (hg : g < w.heap.size) : w.grownBy (sortWorld (rowV vs) w g 0 n d os) (some g) := by
  refine ⟨rfl, rfl, rfl, ?_, fun k hk hne => ?_⟩
  · show w.heap.size ≤ ((w.heap.modify g (onCells (putCells (rowV vs) 0 d))) ++ os).size
    simp
  · rw [sortL_heap (by omega), if_neg (by intro e; exact hne (by rw [e]))]
theorem kept_sortL {lo hi n c g m : Nat} {w : World} {vs : List Value} {ls : List (List Int)} (h : OwnLL lo hi w (.slice (some ⟨g, 0, none⟩) n c) vs ls) (hg : g < w.heap.size) (d : Array Nat) (os : Array Obj) (i : Nat) (hi : i < ls.length) : Own lo (sortWorld (rowV vs) w g 0 m d os) (rowV vs i) (ls.getD i []) := by
  have ho := h.own i hi
  refine World.ownsRow.kept ho (grown_sortL hg) ?_
  cases e : (rowV vs i).ownBlock with
  | none => exact .inl rfl
  | some k => exact .inr fun e' => own_apart ho h.row k e e'.symm
theorem rd_nil (w : World) : Rd w (.slice none 0 0) [] := (Own.nil 0 w).rd
theorem cmpReadsLL {lo hi n c g size : Nat} {w : World} {vs : List Value} {ls : List (List Int)} (h : OwnLL lo hi w (.slice (some ⟨g, 0, none⟩) n c) vs ls) (hg : g < w.heap.size) :
    Go.Proofs.CmpReads Try.prog 51 #[] (rowV vs) (cfLL ls) g 0 size w := by
  intro m os dk _ x y
  have hr : ∀ i, Rd (sortWorld (rowV vs) w g 0 m dk os) (rowV vs i) (ls.getD i []) := fun i => by
    by_cases hi : i < ls.length
    · exact (kept_sortL h hg dk os i hi).rd
    · rw [show rowV vs i = .slice none 0 0 by simp [rowV, List.getD, h.len, hi], show ls.getD i [] = [] by simp [List.getD, hi]]
      exact rd_nil _
  exact (slicesCompare_any _ _ _ _ _ (hr x) (hr y)).mono fun e w' ⟨h1, h2⟩ => ⟨h1, 0, h2.symm⟩
theorem holds_LL {lo hi c g : Nat} {w : World} {vs : List Value} {ls : List (List Int)} (h : OwnLL lo hi w (.slice (some ⟨g, 0, none⟩) ls.length c) vs ls) : Holds (rowV vs) w g 0 (Array.range ls.length) := by
  intro j hj
  rw [Array.size_range] at hj
  have hv : j < vs.length := by rw [h.len]; exact hj
  have e : (Array.range ls.length)[j]! = j := by rw [getElem!_pos _ j (by simpa using hj)]; simp
  have e1 := World.ownsRow.cellAt h.row j (by simpa using hj)
  have e2 := World.ownsRow.frozenAt h.row j
  rw [e]
  refine ⟨?_, by simpa using e2⟩
  rw [Nat.zero_add, e1]
  simp [rowV, List.getD, hv]
theorem sorted_put {ls : List (List Int)} {d : Array Nat} (hp : PermIn 0 ls.length (Array.range ls.length) d) (hs : SortedIn (Go.Proofs.ltOf (cfLL ls)) 0 ls.length d) : d.size = ls.length ∧ d.toList.Perm (List.range ls.length) ∧ putAll ls = d.toList.map (fun i => ls.getD i []) := by
  have hsz : d.size = ls.length := by rw [hp.1]; simp
  have h3 := hp.2.2
  rw [Array.extract_eq_self_of_le (by rw [hsz]; exact Nat.le_refl _), Array.extract_eq_self_of_le (by simp)] at h3
  have h4 : d.toList.Perm (List.range ls.length) := by simpa using h3
  refine ⟨hsz, h4, putAll_eq ?_ ?_⟩
  · unfold srtL
    rw [List.pairwise_map, List.pairwise_iff_getElem]
    intro i j hi hj hij
    have hi' : i < d.size := by simpa using hi
    have hj' : j < d.size := by simpa using hj
    have := hs i j (Nat.zero_le _) hij (by rw [← hsz]; exact hj')
    rw [ltOf_ll, getElem!_pos d j hj', getElem!_pos d i hi'] at this
    simpa using this
  · have h5 := h4.map (fun i => ls.getD i [])
    have e : (List.range ls.length).map (fun i => ls.getD i []) = ls := by
      apply List.ext_getElem?
      intro t
      by_cases ht : t < ls.length
      · simp [ht, List.getD]
      · simp [ht, List.getElem?_eq_none (Nat.le_of_not_lt ht)]
    rwa [e] at h5
theorem put_takeL (enc : Nat → Value) (d : Array Nat) (cur : Array Value) (h : d.size ≤ cur.size) : (putCells enc 0 d cur).size = cur.size ∧ (putCells enc 0 d cur).toList.take d.size = d.toList.map enc := by
  unfold putCells
  refine ⟨by simp, ?_⟩
  apply List.ext_getElem?
  intro t
  rw [List.getElem?_take]
  by_cases ht : t < d.size
  · rw [if_pos ht]
    have h1 : t < cur.size := by omega
    simp [h1, ht]
  · rw [if_neg ht]
    rw [List.getElem?_eq_none (by simpa using ht)]
theorem ownLL_sortL {lo hi n2 c g m : Nat} {w : World} {vs : List Value} {ls : List (List Int)} {d : Array Nat} {os : Array Obj} (h : OwnLL lo hi w (.slice (some ⟨g, 0, none⟩) n2 c) vs ls) (hgs : g < w.heap.size)
    (hd : d.size = ls.length) (hp : d.toList.Perm (List.range ls.length)) : OwnLL lo hi (sortWorld (rowV vs) w g 0 m d os) (.slice (some ⟨g, 0, none⟩) n2 c) (d.toList.map (rowV vs)) (d.toList.map (fun i => ls.getD i [])) := by
  have hdl : d.toList.length = ls.length := by simpa using hd
  have hget : ∀ i, i < ls.length → d.toList[i]? = some (d.toList.getD i 0) := fun i hi => by simp [List.getD, hd, hi]
  have hmem : ∀ i, i < ls.length → d.toList.getD i 0 < ls.length := fun i hi => by
    have h1 : d.toList.getD i 0 ∈ d.toList := List.mem_of_getElem? (hget i hi)
    exact List.mem_range.1 (hp.mem_iff.1 h1)
  have hnd : d.toList.Nodup := hp.nodup_iff.2 List.nodup_range
  refine h.perm (fun i => d.toList.getD i 0) hmem (fun i j hi hj hne e => ?_) (by simpa using hd) (by simpa using hd) (fun i hi => ?_) (fun i hi => ?_) ?_ (fun i hi => kept_sortL h hgs d os i hi) (below_sortL hgs (Nat.le_refl _)).size
  · have h1 := hget i hi; have h2 := hget j hj
    have e' : d.toList.getD i 0 = d.toList.getD j 0 := e
    rw [e', ← h2] at h1
    exact hne ((List.getElem?_inj (by omega) hnd).1 h1)
  · show (List.map (rowV vs) d.toList).getD i _ = _
    rw [List.getD_eq_getElem?_getD, List.getElem?_map, hget i hi]; rfl
  · rw [List.getD_eq_getElem?_getD, List.getElem?_map, hget i hi]; rfl
  · rcases h.row.2 with ⟨hv, _⟩ | ⟨g', cap, cur, hv, hB, hg, hnc, hcm, hcs, ht⟩
    · cases hv
    simp only [Value.slice.injEq, Option.some.injEq, Addr.mk.injEq, and_true] at hv
    obtain ⟨rfl, rfl, rfl⟩ := hv
    have hpt := put_takeL (rowV vs) d cur (by rw [hd, hcs]; omega)
    refine ⟨by simpa using hd, .inr ⟨g, c, _, rfl, hB, by rw [sortL_heap hgs, if_pos rfl, hg]; rfl, hnc, hcm, by rw [hpt.1]; exact hcs, ?_⟩⟩
    rw [Nat.mul_one, ← hd, hpt.2]
/-- a slice of slices of ints, sorted -/
theorem sortLL_any (lo hi : Nat) (v : Value) (vs : List Value) (ls : List (List Int)) (w : World) (h : OwnLL lo hi w v vs ls) (hn : ls.length ≤ 1000000) :
    Calls Try.prog 50 #[v, .func (.func 51) #[] #[]] w fun e w' => e = .returned (.tuple #[]) ∧ (∃ vs', OwnLL lo hi w' v vs' (putAll ls)) ∧ Below lo w w' := by
  rcases h.shape with ⟨rfl, rfl⟩ | ⟨g, c, rfl, _, _, h1, h2, _⟩
  · exact (Go.Proofs.AnyF.slices_SortFunc_none sortLL none 0 _ w).mono fun e w' ⟨h1, h2⟩ => ⟨h1, by rw [h2]; exact ⟨vs, h⟩, by rw [h2]; exact Below.refl _ _⟩
  · obtain ⟨hBg, hgs⟩ : lo ≤ g ∧ g < w.heap.size := by
      rcases h.row.2 with ⟨hv, _⟩ | ⟨g', cap, cur, hv, hB, hg, _⟩
      · cases hv
      · simp only [Value.slice.injEq, Option.some.injEq, Addr.mk.injEq, and_true] at hv
        obtain ⟨rfl, _⟩ := hv
        exact ⟨hB, (Array.getElem?_eq_some_iff.1 hg).1⟩
    have eg : ∀ args w, (callFunc 51 args).run Try.prog w = .ok (.enter 51 args) w := enters_of Try.func51 (by kernel_rfl) rfl
    have hcon := Go.Proofs.Any.slices_SortFunc sortLE (rowV vs) (one_LL h) (cfLL ls) (swoLL ls) 51 #[] g 0 c (Array.range ls.length) w eg (Go.Proofs.CmpReads.lays (cmpReadsLL h hgs)) (holds_LL h) hgs (by rw [Array.size_range]; omega)
    rw [Array.size_range] at hcon
    refine hcon.mono fun e w' ⟨he, d', n, os, hp, hs, hw⟩ => ?_
    obtain ⟨hd, hperm, hall⟩ := sorted_put hp hs
    rw [hw, hall]
    exact ⟨he, ⟨_, ownLL_sortL h hgs hd hperm⟩, below_sortL hgs hBg⟩

end Go.Proofs.Yteeoepbbocdchaa
