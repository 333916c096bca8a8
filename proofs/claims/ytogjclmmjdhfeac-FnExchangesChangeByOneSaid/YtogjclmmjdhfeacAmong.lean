/- meandersAmong: the pairs of a list that are meanders. -/
import Derived.Test.YtogjclmmjdhfeacCountC
import Derived.Great.BuildSlice
namespace Go.Proofs.Ytogjclmmjdhfeac
open Go.RowKit
set_option linter.unusedSimpArgs false
set_option linter.unusedVariables false

theorem OwnP.grown {B : Nat} {w w' : World} {v : Value} {ps : List (List Int × List Int)} {row : Option Nat} (h : OwnP B w v ps) (hg : w.grownBy w' row) (hne : ∀ k, v.ownBlock = some k → row ≠ some k) : OwnP B w' v ps :=
  World.ownsRow.kept h hg (by
    cases e : v.ownBlock with
    | none => exact .inl rfl
    | some k => exact .inr fun e' => hne k e e'.symm)

/-- pairs put behind others -/
theorem wp_appendPs {ops : Array Oper} {rest : List Oper} {o : Oper} {a : Act} {Q : Exit → Act → World → Prop} (w : World)
    (hg : o.guard = none) (s x : Operand) (hop : o.op = Op.call { callee := Callee.builtin Builtin.append, args := #[s, x], argTypes := #[71, 71] })
    (B g m c : Nat) (v : Value) (ps qs : List (List Int × List Int)) (hs : a.eval s = v) (hx : a.eval x = .slice (some ⟨g, 0, none⟩) m c) (hm : m = qs.length) (hc : ∀ j, j < qs.length * 26 → w.cell? ⟨g, j, none⟩ = (pairsC qs)[j]?)
    (hown : OwnP B w v ps) (hlen : ps.length + qs.length ≤ 1000000) (hB : B ≤ w.heap.size)
    (hK : ∀ v' w', OwnP B w' v' (ps ++ qs) → w.grownBy w' v.ownBlock → Below B w w' → (∀ k, v'.ownBlock = some k → v.ownBlock = some k ∨ w.heap.size ≤ k) → wpList Try.prog ops Q rest (a.put o.dst v') w') :
    wpList Try.prog ops Q (o :: rest) a w := by
  obtain ⟨i0, hi0, hz0, hz1, hz2⟩ := info_parts pair_zero26
  have hnews : ∀ j u, (pairsC qs)[j]? = some u → w.cell? ((⟨g, 0, none⟩ : Addr).add j) = some u := by
    intro j u hj
    have hlt : j < qs.length * 26 := by have := (List.getElem?_eq_some_iff.1 hj).1; rwa [pairsC_length] at this
    rw [Addr.add_mid, Nat.zero_add, hc j hlt]
    exact hj
  obtain ⟨v', w', hr, h1, h2, _⟩ := run_append_own (P := Try.prog) w B 71 o.type 58 i0 _ 26 208 Try.underlying71 hi0 hz0 hz1 hz2 rfl (by decide) v ps.length (pairsC ps) hown ⟨g, 0, none⟩ m c (pairsC qs) (by rw [pairsC_length, hm]) hnews (pairsC_one qs) (by unfold maxLen; omega) (by omega) hB
  have h3 := append_where w B 71 o.type 58 i0 _ 26 208 Try.underlying71 hi0 hz0 hz1 hz2 rfl (by decide) v ps.length (pairsC ps) hown ⟨g, 0, none⟩ m c (pairsC qs) (by rw [pairsC_length, hm]) hnews (pairsC_one qs) (by unfold maxLen; omega) (by omega) hB v' w' hr
  refine wpList_plain hg fun _ hK' => ?_
  unfold Oper.wp execOp
  simp only [hop, resolve, invoke, builtin, Sem.run_bind, Sem.run_pure, Result.andThen_ok, List.map_toArray, List.map_cons, List.map_nil, hs, hx, hr]
  have hown' : OwnP B w' v' (ps ++ qs) := by
    unfold OwnP
    rw [List.length_append, pairsC_append, ← hm]
    exact h1
  exact hK' _ _ (hK v' w' hown' h2 (below_grown h2 hB fun k hk => (hown.lt k hk).1) h3)

theorem fill_pair (t b : List Int) : Instr.fill (fun i => some (i * 26, 26)) ((Array.range (1 * 26)).map ((Value.agg #[.int .i64 0, .int .i64 0, .int .i64 0, .int .i64 0, .int .i64 0, .int .i64 0, .int .i64 0, .int .i64 0, .int .i64 0, .int .i64 0, .int .i64 0, .int .i64 0, .int .i64 0, .int .i64 0, .int .i64 0, .int .i64 0, .int .i64 0, .int .i64 0, .int .i64 0, .int .i64 0, .int .i64 0, .int .i64 0, .int .i64 0, .int .i64 0, .int .i64 0, .int .i64 0]).cells[· % 26]!)) [(0, .agg (pairC t b))] = some (pairC t b) := by kernel_rfl

/-- '[]pair{p}' -/
theorem wp_buildP1 {ops : Array Oper} {rest : List Oper} {o : Oper} {a : Act} {Q : Exit → Act → World → Prop} (w : World)
    (hg : o.guard = none) (x : Operand) (hop : o.op = Op.buildSlice 71 1 #[(0, x)]) (t b : List Int) (hx : a.eval x = .agg (pairC t b))
    (h : wpList Try.prog ops Q rest (a.put o.dst (.slice (some ⟨w.heap.size, 0, none⟩) 1 1)) (w.alloc (.cells (pairC t b) 58))) : wpList Try.prog ops Q (o :: rest) a w := by
  obtain ⟨i0, hi0, hz0, hz1, hz2⟩ := info_parts pair_zero26
  refine wpList_buildSlice hg 71 58 1 #[(0, x)] hop (pairC t b) i0 _ Try.underlying71 hi0 hz0 (by rw [hz1]; omega) (by rw [hz1]; omega) ?_ h
  rw [hz1]
  simp only [List.map_toArray, List.map_cons, List.map_nil, hx]
  exact fill_pair t b
theorem built_cells (w : World) (t b : List Int) (j : Nat) (hj : j < 26) : (w.alloc (.cells (pairC t b) 58)).cell? ⟨w.heap.size, j, none⟩ = (pairsC [(t, b)])[j]? := by
  rw [cell_of_row _ _ j _ _ _ (heap_alloc_new w _)]
  simp [pairsC]

def isOne (p : List Int × List Int) : Bool := decide (compsL p.1 p.2 = 1)
def amongL (ps : List (List Int × List Int)) : List (List Int × List Int) := ps.filter isOne
theorem filterP_take_succ (f : List Int × List Int → Bool) (L : List (List Int × List Int)) (k : Nat) (h : k < L.length) : (L.take (k + 1)).filter f = (L.take k).filter f ++ (if f (L.getD k ([], [])) then [L.getD k ([], [])] else []) := by
  rw [List.take_add_one, List.filter_append]
  congr 1
  simp [List.getElem?_eq_getElem h, List.getD, List.filter_cons]

set_option maxRecDepth 100000 in
set_option maxHeartbeats 4000000 in
theorem meandersAmong_any (ps : List (List Int × List Int)) (hgd : ∀ k, k < ps.length → goodB (ps.getD k ([], [])).1 = true ∧ goodB (ps.getD k ([], [])).2 = true ∧ (ps.getD k ([], [])).1.length = (ps.getD k ([], [])).2.length) (hn : ps.length ≤ 20000) (B : Nat) (w : World) (v : Value) (hown : OwnP B w v ps) :
    Calls Try.prog 50 #[v] w (MadeP w (amongL ps)) := by
  have hck : ∀ k, k < ps.length → ∀ w, Calls Try.prog 89 #[.agg (pairC (ps.getD k ([], [])).1 (ps.getD k ([], [])).2)] w fun e w' => e = .returned (.bool (isOne (ps.getD k ([], [])))) ∧ Below w.heap.size w w' :=
    fun k hk w => isMeander_any _ _ (hgd k hk).1 (hgd k hk).2.1 (hgd k hk).2.2 w
  have HCK := Lib.hid hck
  have HFT := Lib.hid (fun k => filterP_take_succ isOne ps k)
  have HFL : Hid (∀ k, ((ps.take k).filter isOne).length ≤ ps.length) := fun k => Nat.le_trans (List.length_filter_le _ _) (by rw [List.length_take]; omega)
  have hfl : amongL ps = (ps.take ps.length).filter isOne := by unfold amongL; rw [List.take_length]
  rw [hfl]
  clear hfl hck hgd
  obtain ⟨a0, c0, rfl, hx1, hx2⟩ := hown.form
  unfold maxLen at hx2
  have HO := Lib.hid hown
  clear hown
  go_enter Try.func50, Try.ntmps50
  go_wp2_with fail
  go_loopw [3, 8] (fun o i wr => ∃ k : Nat, k ≤ ps.length ∧ i = .int .i64 (k : Int) ∧ OwnP w.heap.size wr o ((ps.take k).filter isOne) ∧ Below w.heap.size w wr) (fun _ i _ => ps.length - (intOf i).toNat)
  case atStart => exact ⟨0, by omega, rfl, OwnP.nil _ _, Below.refl _ _⟩
  case round =>
    obtain ⟨k, hk, rfl, hown, hbel⟩ := hrel
    generalize wr = wc at *
    by_cases hlt : k < ps.length
    · obtain ⟨g, rfl, hy1, hy2, hy3, hrg, hth⟩ := (HO.out.below hbel).at (by omega)
      have hr := hrg k hlt
      have hsuc := HFT.out k hlt
      have hle := HFL.out k
      have hcall := HCK.out k hlt
      generalize isOne (ps.getD k ([], [])) = M at *
      generalize ps.getD k ([], []) = p at *
      obtain ⟨t, b⟩ := p
      generalize (ps.take k).filter isOne = S at *
      have HR := Lib.hid hr; have HCL := Lib.hid hcall; have HOQ := Lib.hid hown; have HBE := Lib.hid hbel; have HSU := Lib.hid hsuc
      have hsz := hbel.size
      clear hy1 hy2 hy3 hrg hth hr hcall hown hbel hsuc
      cases M with
      | true =>
        go_wp2_with (first
          | (with_reducible refine boxP_load rfl (.tmp 10) rfl g (k * 26) t b rfl HR.out ?_)
          | ((with_reducible refine wp_storePairN rfl (.tmp 5) (.tmp 11) rfl t b rfl rfl ?_); intro w5 hs5 hb5; have HS5 := Lib.hid hs5; have HB5 := Lib.hid hb5; clear hs5 hb5)
          | (with_reducible refine wp_loadPair rfl (.tmp 5) rfl wc.heap.size t b rfl HS5.out ?_)
          | (go_at_call 89; ((with_reducible refine (HCL.out _).mono ?_); rintro e w6 ⟨rfl, hb6⟩; have HS6 := Lib.hid (HS5.out.below hb6); have HB6 := Lib.hid (Below.step HB5.out hb6); clear hb6))
          | (with_reducible refine wp_loadPair rfl (.tmp 5) rfl wc.heap.size t b rfl HS6.out ?_)
          | (with_reducible refine wp_buildP1 _ rfl (.tmp 15) rfl t b rfl ?_)
          | (at_builtin; refine wp_appendPs _ rfl (.tmp 14) (.tmp 16) rfl w.heap.size w6.heap.size 1 1 _ S [(t, b)] rfl rfl rfl (fun j hj => built_cells w6 t b j hj) ((HOQ.out.below HB6.out).below (Below.alloc1 _ _)) (by simp; omega) (by have := HB6.out.size; simp; omega) ?_; intro o' w7 ho7 hg7 hb7 hw7; have HO7 := Lib.hid ho7; have HB7 := Lib.hid ((HBE.out.trans ((HB6.out.trans ((Below.alloc1 w6 (.cells (pairC t b) 58)).mono HB6.out.size)).mono hsz)).trans hb7); clear ho7 hg7 hb7 hw7))
        go_roundw
        case rel => exact ⟨k + 1, by omega, by go_num, by rw [HSU.out]; exact HO7.out, HB7.out⟩
        case measure => simp [intOf]; omega
      | false =>
        go_wp2_with (first
          | (with_reducible refine boxP_load rfl (.tmp 10) rfl g (k * 26) t b rfl HR.out ?_)
          | ((with_reducible refine wp_storePairN rfl (.tmp 5) (.tmp 11) rfl t b rfl rfl ?_); intro w5 hs5 hb5; have HS5 := Lib.hid hs5; have HB5 := Lib.hid hb5; clear hs5 hb5)
          | (with_reducible refine wp_loadPair rfl (.tmp 5) rfl wc.heap.size t b rfl HS5.out ?_)
          | (go_at_call 89; ((with_reducible refine (HCL.out _).mono ?_); rintro e w6 ⟨rfl, hb6⟩; have HB6 := Lib.hid (Below.step HB5.out hb6); clear hb6)))
        go_roundw
        case rel => exact ⟨k + 1, by omega, by go_num, by rw [HSU.out]; simpa using HOQ.out.below HB6.out, Below.step HBE.out HB6.out⟩
        case measure => simp [intOf]; omega
    · obtain rfl : k = ps.length := by omega
      obtain ⟨a5, c5, rfl, _⟩ := hown.form
      have HOQ := Lib.hid hown; have HBE := Lib.hid hbel
      clear hown hbel
      go_wp2_with fail
      go_ret
      exact ⟨_, rfl, HOQ.out, HBE.out⟩

end Go.Proofs.Ytogjclmmjdhfeac
