/- FlipSeaweed. -/
import Derived.Test.YtgaaddfipkdlaaaWeedMake
import Derived.Test.YtgaaddfipkdlaaaShift
namespace Go.Proofs.Ytgaaddfipkdlaaa
open Go.RowKit
set_option linter.unusedSimpArgs false
set_option linter.unusedVariables false

/-- a function that gives a seaweed out of a variable, and a bool -/
theorem results_sea (F : Func) (hr : F.results = #[.cell 2 29, .tmp 3]) (tmps : Array Value) (w : World) (g : Nat) (v1 v2 : Value) (ok : Bool) (hg : Box2 29 w g v1 v2) (h2 : tmps.getD 2 undef = .pointer (some ⟨g, 0, none⟩)) (h3 : tmps.getD 3 undef = .bool ok) :
    (results F tmps).run Try.prog w = .ok (.tuple #[.agg #[v1, v2], .bool ok]) w := by
  have h2' : tmps[2]?.getD undef = .pointer (some ⟨g, 0, none⟩) := by simpa using h2
  have h3' : tmps[3]?.getD undef = .bool ok := by simpa using h3
  simp [results, hr, h2', h3', asAddr, run_loadSea w g v1 v2 hg]
def res1_FlipSeaweed (t b : List Int) : List Int := if weedB t b then b else []
def res2_FlipSeaweed (t b : List Int) : List Int := if weedB t b then t else []
def ok_FlipSeaweed (t b : List Int) : Bool := weedB t b
theorem weed_lens {t b : List Int} (h : weedB t b = true) : t.length ≤ 20 ∧ b.length ≤ 20 := ⟨(parts_facts (weed_facts h).1).2.2.1, (parts_facts (weed_facts h).2.1).2.2.1⟩
theorem len_FlipSeaweed (t b : List Int) : (res1_FlipSeaweed t b).length ≤ 1000000 ∧ (res2_FlipSeaweed t b).length ≤ 1000000 := by
  unfold res1_FlipSeaweed res2_FlipSeaweed
  split
  · next h => have := weed_lens h; omega
  · simp
/-- a seaweed in a variable under two stores from two slices of its own making -/
theorem sea_stored {w W : World} {g : Nat} {r1 r2 v1 v2 : Value} {l1 l2 : List Int} {B : Nat} (HR : Box2 29 W g r1 r2) (HB : Below w.heap.size w W) (hg : w.heap.size ≤ g) (hgB : g < B) (O1 : Own B W v1 l1) (O2 : Own B W v2 l2) (AP : ApartV v1 v2) (hB : w.heap.size ≤ B) :
    Hid (Box2 29 ((W.setCell ⟨g, 0, none⟩ v1).setCell ⟨g, 1, none⟩ v2) g v1 v2 ∧ Own w.heap.size ((W.setCell ⟨g, 0, none⟩ v1).setCell ⟨g, 1, none⟩ v2) v1 l1 ∧ Own w.heap.size ((W.setCell ⟨g, 0, none⟩ v1).setCell ⟨g, 1, none⟩ v2) v2 l2 ∧ ApartV v1 v2 ∧ Below w.heap.size w ((W.setCell ⟨g, 0, none⟩ v1).setCell ⟨g, 1, none⟩ v2)) :=
  ⟨(HR.set0 _).set1 _, (O1.set2 hgB v1 v2).mono hB, (O2.set2 hgB v1 v2).mono hB, AP, (HB.setCell (p := ⟨g, 0, none⟩) hg v1).setCell (p := ⟨g, 1, none⟩) hg v2⟩
/-- .. where there is none -/
theorem sea_none {w W : World} {g : Nat} {r1 r2 : Value} (HR : Box2 29 W g r1 r2) (HB : Below w.heap.size w W) (hg : w.heap.size ≤ g) :
    Hid (Box2 29 ((W.setCell ⟨g, 0, none⟩ (.slice none 0 0)).setCell ⟨g, 1, none⟩ (.slice none 0 0)) g (.slice none 0 0) (.slice none 0 0) ∧ Below w.heap.size w ((W.setCell ⟨g, 0, none⟩ (.slice none 0 0)).setCell ⟨g, 1, none⟩ (.slice none 0 0))) :=
  ⟨(HR.set0 _).set1 _, (HB.setCell (p := ⟨g, 0, none⟩) hg _).setCell (p := ⟨g, 1, none⟩) hg _⟩

end Go.Proofs.Ytgaaddfipkdlaaa
