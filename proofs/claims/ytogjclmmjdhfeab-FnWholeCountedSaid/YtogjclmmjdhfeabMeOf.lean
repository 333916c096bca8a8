/- MeandersOf: the program's function and the model's. -/
import Derived.Test.YtogjclmmjdhfeabMeS
import Derived.Test.YtogjclmmjdhfeabMeAll2
import Derived.Test.YtogjclmmjdhfeabPairM
namespace Go.Proofs.Ytogjclmmjdhfeab
open Go.RowKit
set_option linter.unusedSimpArgs false
set_option linter.unusedVariables false

theorem rowV_app_lt {vs us : List Value} {i : Nat} (h : i < vs.length) : rowV (vs ++ us) i = rowV vs i := by simp [rowV, List.getD, List.getElem?_append_left h]
theorem OwnMF.snoc {lo hi mid n : Nat} {w w' : World} {v v' u1 u2 : Value} {vs : List Value} {ls : List (List Int)} {l1 l2 : List Int} (h : OwnMF lo hi w v n vs ls) (h1 : Own mid w u1 l1) (h2 : Own mid w u2 l2) (ha : ApartV u1 u2) (hm : hi ≤ mid) (hlo : lo ≤ mid)
    (hr : w'.ownsRow lo 26 2 v' (n + 1) (vs ++ [u1, u2])) (hg : w.grownBy w' v.ownBlock) : OwnMF lo w'.heap.size w' v' (n + 1) (vs ++ [u1, u2]) (ls ++ [l1, l2]) := by
  have ko : ∀ u m B, Own B w u m → Own B w' u m := fun u m B hu => World.ownsRow.kept hu hg (by
    cases e : u.ownBlock with
    | none => exact .inl rfl
    | some k => exact .inr fun e' => own_apartM hu h.rd.row k e e'.symm)
  have hsz := hg.size
  have hlen := h.rd.len
  have htwo := h.rd.two
  have key : ∀ i, i < (ls ++ [l1, l2]).length → (i < ls.length ∧ rowV (vs ++ [u1, u2]) i = rowV vs i ∧ (ls ++ [l1, l2]).getD i [] = ls.getD i []) ∨ (i = ls.length ∧ rowV (vs ++ [u1, u2]) i = u1 ∧ (ls ++ [l1, l2]).getD i [] = l1) ∨ (i = ls.length + 1 ∧ rowV (vs ++ [u1, u2]) i = u2 ∧ (ls ++ [l1, l2]).getD i [] = l2) := by
    intro i hi
    simp at hi
    by_cases e : i < ls.length
    · exact .inl ⟨e, rowV_app_lt (by omega), by simp [List.getD, List.getElem?_append_left e]⟩
    · by_cases e1 : i = ls.length
      · refine .inr (.inl ⟨e1, ?_, ?_⟩)
        · rw [e1, ← hlen]; simp [rowV, List.getD]
        · rw [e1]; simp [List.getD]
      · have e2 : i = ls.length + 1 := by omega
        refine .inr (.inr ⟨e2, ?_, ?_⟩)
        · rw [e2, ← hlen]; simp [rowV, List.getD]
        · rw [e2]; simp [List.getD]
  refine ⟨⟨by simp [hlen], by simp [htwo]; omega, hr, fun i hi => ?_⟩, Nat.le_refl _, fun k hk => hr.lt k hk, fun i hi k hk => ?_, fun i j hi hj hne k hk hk' => ?_⟩
  · rcases key i hi with ⟨a, e, f⟩ | ⟨a, e, f⟩ | ⟨a, e, f⟩ <;> rw [e, f]
    · exact ko _ _ _ (h.rd.own i a)
    · exact (ko _ _ _ h1).mono hlo
    · exact (ko _ _ _ h2).mono hlo
  · rcases key i hi with ⟨a, e, f⟩ | ⟨a, e, f⟩ | ⟨a, e, f⟩ <;> rw [e] at hk
    · have := h.inr i a k hk; have := h.ends; omega
    · have := h1.lt k hk; omega
    · have := h2.lt k hk; omega
  · rcases key i hi with ⟨a, e, _⟩ | ⟨a, e, _⟩ | ⟨a, e, _⟩ <;> rcases key j hj with ⟨b, f, _⟩ | ⟨b, f, _⟩ | ⟨b, f, _⟩ <;> rw [e] at hk <;> rw [f] at hk'
    · exact h.apart i j a b hne k hk hk'
    · have := h.inr i a k hk; have := h1.lt k hk'; omega
    · have := h.inr i a k hk; have := h2.lt k hk'; omega
    · have := h.inr j b k hk'; have := h1.lt k hk; omega
    · omega
    · exact ha k hk hk'
    · have := h.inr j b k hk'; have := h2.lt k hk; omega
    · exact ha k hk' hk
    · omega
theorem OwnMF.mono {lo lo' hi n : Nat} {w : World} {v : Value} {vs : List Value} {ls : List (List Int)} (h : OwnMF lo hi w v n vs ls) (hl : lo' ≤ lo) : OwnMF lo' hi w v n vs ls := by
  refine ⟨⟨h.rd.len, h.rd.two, ⟨h.rd.row.1, ?_⟩, fun i hi => (h.rd.own i hi).mono hl⟩, h.ends, fun k hk => ?_, fun i hi k hk => ?_, h.apart⟩
  · rcases h.rd.row.2 with hn | ⟨g, cap, cur, hv, hB, rest⟩
    · exact .inl hn
    · exact .inr ⟨g, cap, cur, hv, by omega, rest⟩
  · have := h.inn k hk; omega
  · have := h.inr i hi k hk; omega

theorem wp_appendMF {ops : Array Oper} {rest : List Oper} {o : Oper} {a : Act} {Q : Exit → Act → World → Prop} (w : World)
    (hg : o.guard = none) (s x : Operand) (hop : o.op = Op.call { callee := Callee.builtin Builtin.append, args := #[s, x], argTypes := #[84, 84] })
    (lo hi mid g n : Nat) (v u1 u2 : Value) (vs : List Value) (ls : List (List Int)) (l1 l2 : List Int) (hs : a.eval s = v) (hx : a.eval x = .slice (some ⟨g, 0, none⟩) 1 1) (hc0 : w.cell? ⟨g, 0, none⟩ = some u1) (hc1 : w.cell? ⟨g, 1, none⟩ = some u2)
    (hown : OwnMF lo hi w v n vs ls) (h1 : Own mid w u1 l1) (h2 : Own mid w u2 l2) (ha : ApartV u1 u2) (hm : hi ≤ mid) (hlo : lo ≤ mid) (hlen : n ≤ 1000000) (hB : lo ≤ w.heap.size)
    (hK : ∀ v' w', OwnMF lo w'.heap.size w' v' (n + 1) (vs ++ [u1, u2]) (ls ++ [l1, l2]) → w.grownBy w' v.ownBlock → Below lo w w' → wpList Try.prog ops Q rest (a.put o.dst v') w') :
    wpList Try.prog ops Q (o :: rest) a w := by
  obtain ⟨i0, hi0, hz0, hz1, hz2⟩ := info_parts mea_zero
  have one : ∀ (u : Value) (l : List Int), Own mid w u l → u.oneCell' = true := by
    intro u l hu
    rcases hu.2 with ⟨rfl, _⟩ | ⟨g, cap, cur, rfl, _⟩ <;> rfl
  have hnews : ∀ j u, ([u1, u2] : List Value)[j]? = some u → w.cell? ((⟨g, 0, none⟩ : Addr).add j) = some u := by
    intro j u hj
    rw [Addr.add_mid, Nat.zero_add]
    have hlt : j < 2 := (List.getElem?_eq_some_iff.1 hj).1
    have : j = 0 ∨ j = 1 := by omega
    rcases this with rfl | rfl
    · simp at hj; subst hj; exact hc0
    · simp at hj; subst hj; exact hc1
  have hones : ∀ u ∈ ([u1, u2] : List Value), u.oneCell' = true := fun u hu => by
    simp at hu
    rcases hu with rfl | rfl
    · exact one _ _ h1
    · exact one _ _ h2
  obtain ⟨v', w', hr, r1, r2, _⟩ := run_append_own (P := Try.prog) w lo 84 o.type 26 i0 _ 2 48 Try.underlying84 hi0 hz0 hz1 hz2 rfl (by decide) v n vs hown.rd.row ⟨g, 0, none⟩ 1 1 [u1, u2] rfl hnews hones (by unfold maxLen; omega) (by omega) hB
  have h3 := append_where w lo 84 o.type 26 i0 _ 2 48 Try.underlying84 hi0 hz0 hz1 hz2 rfl (by decide) v n vs hown.rd.row ⟨g, 0, none⟩ 1 1 [u1, u2] rfl hnews hones (by unfold maxLen; omega) (by omega) hB v' w' hr
  refine wpList_plain hg fun _ hK' => ?_
  unfold Oper.wp execOp
  simp only [hop, resolve, invoke, builtin, Sem.run_bind, Sem.run_pure, Result.andThen_ok, List.map_toArray, List.map_cons, List.map_nil, hs, hx, hr]
  exact hK' _ _ (hK v' w' (hown.snoc h1 h2 ha hm hlo r1 r2) r2 (below_grown r2 hB fun k hk => (hown.inn k hk).1))

def GivesRM (w : World) (ps : List (List Int × List Int)) (ok : Bool) (e : Ending) (w' : World) : Prop := ∃ v vs, e = .returned (.tuple #[v, .bool ok]) ∧ RdML w.heap.size w' v ps.length vs (flatP ps) ∧ Below w.heap.size w w'
def GivesMF (w : World) (ps : List (List Int × List Int)) (ok : Bool) (e : Ending) (w' : World) : Prop := ∃ v vs, e = .returned (.tuple #[v, .bool ok]) ∧ OwnMF w.heap.size w'.heap.size w' v ps.length vs (flatP ps) ∧ Below w.heap.size w w'
def ok_MeandersOf (x : Int) : Bool := inB x 0 4
def res_MeandersOf (x : Int) : List (List Int × List Int) := if inB x 0 4 then mcJ x.toNat (allL x.toNat) else []
theorem mcJ_fine {n : Nat} (hn : n ≤ 4) (k : Nat) (hk : k < (mcJ n (allL n)).length) : ((mcJ n (allL n)).getD k ([], [])).1.length ≤ 12 ∧ ((mcJ n (allL n)).getD k ([], [])).2.length ≤ 12 := by
  have hm : (mcJ n (allL n)).getD k ([], []) ∈ mcJ n (allL n) := by simp [List.getD, hk]
  rw [← among_pairsN] at hm ⊢
  have hp := pairsN_mem (List.mem_filter.1 hm).1
  exact ⟨good_len' (mem_good (by omega) hp.1).1, good_len' (mem_good (by omega) hp.2).1⟩
theorem len_MeandersOf (x : Int) : tot (flatP (res_MeandersOf x)) ≤ 1000000 ∧ ∀ i, i < (flatP (res_MeandersOf x)).length → ((flatP (res_MeandersOf x)).getD i []).length ≤ 1000000 := by
  unfold res_MeandersOf
  by_cases h : 0 ≤ x ∧ x ≤ 4
  · rw [inB_yes h.1 h.2, if_pos rfl]
    have hn : x.toNat ≤ 4 := by omega
    generalize x.toNat = n at hn
    have hlen : (mcJ n (allL n)).length ≤ 1000 := Nat.le_trans (mcJ_le n hn _) (by have := allL_14 hn; omega)
    have hf := fun k hk => mcJ_fine hn k hk
    generalize mcJ n (allL n) = M at *
    have hk : ∀ i, i < (flatP M).length → ((flatP M).getD i []).length ≤ 12 := by
      intro i hi
      rw [flatP_len] at hi
      have hk : i / 2 < M.length := by omega
      have a := flatP_at M (i / 2) hk
      have b := hf _ hk
      have e : i = i / 2 * 2 ∨ i = i / 2 * 2 + 1 := by omega
      rcases e with e | e
      · rw [e, a.1]; exact b.1
      · rw [e, a.2]; exact b.2
    have := tot_le hk
    rw [flatP_len] at this
    exact ⟨by omega, fun i hi => Nat.le_trans (hk i hi) (by omega)⟩
  · rw [inB_no h]
    exact ⟨by simp [flatP, tot], fun i hi => by simp [flatP] at hi⟩


def MadeMF (w : World) (ps : List (List Int × List Int)) (e : Ending) (w' : World) : Prop := ∃ v vs, e = .returned v ∧ OwnMF w.heap.size w'.heap.size w' v ps.length vs (flatP ps) ∧ Below w.heap.size w w'
set_option maxRecDepth 100000 in
set_option maxHeartbeats 4000000 in
theorem meandersFrom_any (M : List (List Int × List Int)) (h12 : ∀ k, k < M.length → (M.getD k ([], [])).1.length ≤ 12 ∧ (M.getD k ([], [])).2.length ≤ 12) (hlen : M.length ≤ 20000) (B : Nat) (w : World) (v : Value) (hown : OwnP B w v M) :
    Calls Try.prog 145 #[v] w (MadeMF w M) := by
  have HPM : Hid (∀ k, k < M.length → ∀ w, Calls Try.prog 124 #[.agg (pairC (M.getD k ([], [])).1 (M.getD k ([], [])).2)] w (MadeM w (M.getD k ([], [])).1 (M.getD k ([], [])).2)) :=
    fun k hk w => pairMeander_any _ _ w (h12 k hk).1 (h12 k hk).2
  have HTK : Hid (∀ k, k < M.length → flatP (M.take (k + 1)) = flatP (M.take k) ++ [(M.getD k ([], [])).1, (M.getD k ([], [])).2]) := by
    intro k hk
    rw [List.take_add_one, List.getElem?_eq_getElem hk, Option.toList_some, flatP_snoc]
    simp [List.getD, hk]
  obtain ⟨pa, pc, rfl, hm1, hm2⟩ := hown.form
  unfold maxLen at hm2
  have HLT := Lib.hid hown.lt; have HOM := Lib.hid hown
  clear h12 hown
  go_enter Try.func145, Try.ntmps145
  go_wp2_with fail
  go_loopw [3, 8] (fun o i wr => ∃ (k : Nat) (vs : List Value), k ≤ M.length ∧ i = .int .i64 (k : Int) ∧ OwnMF w.heap.size wr.heap.size wr o k vs (flatP (M.take k)) ∧ OwnP B wr (.slice pa M.length pc) M ∧ w.heap.size ≤ wr.heap.size ∧ Below w.heap.size w wr) (fun _ i _ => M.length - (intOf i).toNat)
  case atStart => exact ⟨0, [], by omega, rfl, OwnMF.nil _ _, HOM.out, Nat.le_refl _, Below.refl _ _⟩
  case round =>
    obtain ⟨k, vs, hk, rfl, hown, hps, hwz, hbel⟩ := hrel
    clear HOM
    generalize wr = wc at *
    by_cases hlt : k < M.length
    · obtain ⟨g, rfl, hx1, hx2, hx3, hrg, hth⟩ := hps.at (by omega)
      have hr := hrg k hlt
      have hsuc := HTK.out k hlt
      have hcall := HPM.out k hlt
      generalize M.getD k ([], []) = p at *
      obtain ⟨t, b⟩ := p
      simp only at hr hsuc hcall
      generalize flatP (M.take k) = S at *
      obtain ⟨oa, oc, rfl, ho1, ho2⟩ := hown.rd.form
      have HR := Lib.hid hr; have HSU := Lib.hid hsuc; have HC2 := Lib.hid hcall; have HO := Lib.hid hown; have HP := Lib.hid hps; have HBE := Lib.hid hbel
      have hsz := hbel.size
      clear hx1 hx3 hrg hth hr hsuc hcall hown hps hbel
      go_wp2_with (first
        | (with_reducible refine boxP_load rfl (.tmp 10) rfl g (k * 26) t b rfl HR.out ?_)
        | ((with_reducible refine wp_storePairN rfl (.tmp 5) (.tmp 11) rfl t b rfl rfl ?_); intro w5 hs5 hb5; have HS5 := Lib.hid hs5; have HB5 := Lib.hid hb5; have hz5 := hb5.size; clear hs5 hb5)
        | (with_reducible refine wp_loadPair rfl (.tmp 5) rfl wc.heap.size t b rfl HS5.out ?_)
        | (go_at_call 124; ((with_reducible refine (HC2.out _).mono ?_); rintro e w6 ⟨v1, v2, rfl, o1, o2, ap, hb6⟩; have HB6 := Lib.hid (Below.step HB5.out hb6); have hz6 := hb6.size; obtain ⟨x1, y1, z1, rfl⟩ := o1.form'; obtain ⟨x2, y2, z2, rfl⟩ := o2.form'; have HO1 := Lib.hid o1; have HO2 := Lib.hid o2; have HAP := Lib.hid ap; clear o1 o2 ap hb6))
        | (at_builtin; refine wp_appendMF _ rfl (.tmp 12) (.tmp 15) rfl w.heap.size wc.heap.size w5.heap.size w6.heap.size k _ (.slice x1 y1 z1) (.slice x2 y2 z2) vs S t b rfl rfl (cells_new w6 _ _ _).1 (cells_new w6 _ _ _).2 (HO.out.below (Below.step HB6.out (Below.alloc1 _ _))) (HO1.out.below (Below.alloc1 _ _)) (HO2.out.below (Below.alloc1 _ _)) HAP.out hz5 (by omega) (by omega) (by simp; omega) ?_; intro o' w7 ho7 hg7 hb7; have HO7 := Lib.hid ho7; have B67 := Lib.hid (Below.step HB6.out (Below.alloc1 w6 (.cells #[.slice x1 y1 z1, .slice x2 y2 z2] 26))); have HP7 := Lib.hid ((HP.out.below B67.out).grown hg7 (fun kk hkk e => by have h9 := HLT.out kk hkk; have h8 := (HO.out.inn kk e).1; omega)); have hz7 : w.heap.size ≤ w7.heap.size := Nat.le_trans hwz (Nat.le_trans B67.out.size hg7.size); have HB7 := Lib.hid ((Below.step HBE.out B67.out).trans (hb7.mono (Nat.le_refl _))); clear ho7 hg7 hb7))
      go_roundw
      case rel => exact ⟨k + 1, _, by omega, by go_num, by rw [HSU.out]; exact HO7.out, HP7.out, hz7, HB7.out⟩
      case measure => simp [intOf]; omega
    · obtain rfl : k = M.length := by omega
      rw [List.take_length] at hown
      obtain ⟨oa, oc, rfl, ho1, ho2⟩ := hown.rd.form
      have HO := Lib.hid hown; have HBE := Lib.hid hbel
      clear hown hps hbel
      go_wp2_with fail
      go_ret
      exact ⟨_, _, rfl, HO.out, HBE.out⟩

end Go.Proofs.Ytogjclmmjdhfeab
