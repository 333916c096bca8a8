/- All faces of a system, and their points, by the program. -/
import Derived.Test.YtfcjgcbjiongpaaExFace
import Derived.Test.YtfcjgcbjiongpaaListsLaw
namespace Go.Proofs.Ytfcjgcbjiongpaa
open Go.RowKit
set_option linter.unusedSimpArgs false
set_option linter.unusedVariables false

theorem face_zero : (Try.prog.info? 76).map (fun i => (i.zero, i.size, i.bytes)) = some (some .nilIface, 1, 16) := by kernel_rfl
/-- a slice of faces that the call made itself -/
def OwnF (B : Nat) (w : World) (v : Value) (xs : List Value) : Prop := w.ownsRow B 76 1 v xs.length xs
theorem OwnF.below {B : Nat} {w w' : World} {v : Value} {xs : List Value} (h : OwnF B w v xs) (hb : Below w.heap.size w w') : OwnF B w' v xs := ownsRow_below h hb
theorem OwnF.form {B : Nat} {w : World} {v : Value} {xs : List Value} (h : OwnF B w v xs) : ∃ a c, v = .slice a xs.length c ∧ xs.length ≤ c ∧ c ≤ maxLen := by
  rcases h.2 with ⟨rfl, hn⟩ | ⟨g, cap, cur, hv, hB, hg, hnc, hcm, _⟩
  · exact ⟨none, 0, by rw [hn], by omega, by unfold maxLen; omega⟩
  · exact ⟨_, cap, hv, hnc, hcm⟩
theorem OwnF.at {B n c : Nat} {a : Option Addr} {w : World} {xs : List Value} (h : OwnF B w (.slice a n c) xs) (hl : 0 < xs.length) :
    ∃ g, a = some ⟨g, 0, none⟩ ∧ ∀ k, k < xs.length → w.cell? ⟨g, k, none⟩ = some (xs.getD k .nilIface) := by
  rcases h.2 with ⟨_, hn⟩ | ⟨g, cap, cur, hv, hB, hg, hnc, hcm, _⟩
  · omega
  · have hn : n = xs.length := by simp at hv; exact hv.2.1
    have ha : a = some ⟨g, 0, none⟩ := by simp at hv; exact hv.1
    have hc : c = cap := by simp at hv; exact hv.2.2
    subst ha; subst hc; subst hn
    refine ⟨g, rfl, fun k hk => ?_⟩
    rw [World.ownsRow.cellAt h k (by omega)]
    simp [List.getD, hk]
theorem ownF_apart {B B' : Nat} {w : World} {u v : Value} {l : List Int} {xs : List Value} (h : Own B w u l) (hv : OwnF B' w v xs) : ∀ k, u.ownBlock = some k → v.ownBlock ≠ some k := by
  intro k hk hk'
  rcases h.2 with ⟨rfl, _⟩ | ⟨g, cap, cur, rfl, _, hg, _⟩
  · cases hk
  rcases hv.2 with ⟨rfl, _⟩ | ⟨g', cap', cur', rfl, _, hg', _⟩
  · cases hk'
  simp [Value.ownBlock] at hk hk'
  subst hk; subst hk'
  rw [hg] at hg'
  simp at hg'
theorem ownF_apartLL {B B' n : Nat} {w : World} {u v : Value} {xs ys : List Value} (hu : w.ownsRow B 22 1 u n ys) (hv : OwnF B' w v xs) : ∀ k, u.ownBlock = some k → v.ownBlock ≠ some k := by
  intro k hk hk'
  rcases hu.2 with ⟨rfl, _⟩ | ⟨g, cap, cur, rfl, _, hg, _⟩
  · cases hk
  rcases hv.2 with ⟨rfl, _⟩ | ⟨g', cap', cur', rfl, _, hg', _⟩
  · cases hk'
  simp [Value.ownBlock] at hk hk'
  subst hk; subst hk'
  rw [hg] at hg'
  simp at hg'
theorem OwnF.grownLL {B B' n : Nat} {w w' : World} {u v : Value} {xs ys : List Value} (hv : OwnF B' w v xs) (hu : w.ownsRow B 22 1 u n ys) (hg : w.grownBy w' u.ownBlock) : OwnF B' w' v xs :=
  World.ownsRow.kept hv hg (by
    cases e : v.ownBlock with
    | none => exact .inl rfl
    | some k => exact .inr fun e' => ownF_apartLL hu hv k e'.symm e)
theorem Own.grownF {B B' : Nat} {w w' : World} {u v : Value} {l : List Int} {xs : List Value} (h : Own B w u l) (hv : OwnF B' w v xs) (hg : w.grownBy w' v.ownBlock) : Own B w' u l :=
  World.ownsRow.kept h hg (by
    cases e : u.ownBlock with
    | none => exact .inl rfl
    | some k => exact .inr fun e' => ownF_apart h hv k e e'.symm)
theorem wp_appendF {ops : Array Oper} {rest : List Oper} {o : Oper} {a : Act} {Q : Exit → Act → World → Prop} (w : World)
    (hg : o.guard = none) (s x : Operand) (hop : o.op = Op.call { callee := Callee.builtin Builtin.append, args := #[s, x], argTypes := #[73, 73] })
    (B g : Nat) (v p : Value) (xs : List Value) (hs : a.eval s = v) (hx : a.eval x = .slice (some ⟨g, 0, none⟩) 1 1) (hc : w.cell? ⟨g, 0, none⟩ = some p) (hone : p.oneCell' = true)
    (hown : OwnF B w v xs) (hlen : xs.length ≤ 1000000) (hB : B ≤ w.heap.size)
    (hK : ∀ v' w', OwnF B w' v' (xs ++ [p]) → w.grownBy w' v.ownBlock → Below B w w' → wpList Try.prog ops Q rest (a.put o.dst v') w') :
    wpList Try.prog ops Q (o :: rest) a w := by
  obtain ⟨i0, hi0, hz0, hz1, hz2⟩ := info_parts face_zero
  have hnews : ∀ j u, ([p] : List Value)[j]? = some u → w.cell? ((⟨g, 0, none⟩ : Addr).add j) = some u := by
    intro j y hj
    have : j = 0 := by
      have := (List.getElem?_eq_some_iff.1 hj).1
      simp at this; exact this
    subst this
    simp at hj; subst hj
    exact hc
  have hones : ∀ u ∈ ([p] : List Value), u.oneCell' = true := fun u hu => by simp at hu; rw [hu]; exact hone
  obtain ⟨v', w', hr, h1, h2, _⟩ := run_append_own (P := Try.prog) w B 73 o.type 76 i0 .nilIface 1 16 Try.underlying73 hi0 hz0 hz1 hz2 rfl (by decide) v xs.length xs hown ⟨g, 0, none⟩ 1 1 [p] rfl hnews hones (by unfold maxLen; omega) (by omega) hB
  refine wpList_plain hg fun _ hK' => ?_
  unfold Oper.wp execOp
  simp only [hop, resolve, invoke, builtin, Sem.run_bind, Sem.run_pure, Result.andThen_ok, List.map_toArray, List.map_cons, List.map_nil, hs, hx, hr]
  have h3 : OwnF B w' v' (xs ++ [p]) := by unfold OwnF; rw [List.length_append]; exact h1
  exact hK' _ _ (hK v' w' h3 h2 (below_grown h2 hB fun k hk => (World.ownsRow.lt hown k hk).1))

theorem wp_loadLitF {ops : Array Oper} {rest : List Oper} {o : Oper} {a : Act} {w : World} {Q : Exit → Act → World → Prop} (hgd : o.guard = none) (x : Operand) (ho : o.op = .load 49 x)
    (g : Nat) (l : List Int) (hl : l.length ≤ 12) (hx : a.eval x = .pointer (some ⟨g, 0, none⟩)) (hg : SysIn w g l)
    (h : wpList Try.prog ops Q rest (a.put o.dst (.agg #[sysV l 0, sysV l 1, sysV l 2, sysV l 3, sysV l 4, sysV l 5, sysV l 6, sysV l 7, sysV l 8, sysV l 9, sysV l 10, sysV l 11, sysV l 12])) w) : wpList Try.prog ops Q (o :: rest) a w :=
  wp_loadSys hgd x ho g l hl hx hg (by rw [sysC_lit hl]; exact h)

theorem Own.get {B n c : Nat} {w : World} {a : Option Addr} {l : List Int} (h : Own B w (.slice a n c) l) (k : Nat) (hk : k < l.length) : ∃ g, a = some ⟨g, 0, none⟩ ∧ w.cell? ⟨g, k, none⟩ = some (.int .i64 (l.getD k 0)) := by
  rcases h.shape with ⟨_, rfl⟩ | ⟨g, c', hv, _⟩
  · simp at hk
  · simp only [Value.slice.injEq] at hv
    obtain ⟨rfl, rfl, rfl⟩ := hv
    exact ⟨g, rfl, h.cellAt k hk⟩
theorem OwnF.mono {B B' : Nat} {w : World} {v : Value} {xs : List Value} (h : OwnF B w v xs) (hb : B' ≤ B) : OwnF B' w v xs := by
  refine ⟨h.1, ?_⟩
  rcases h.2 with hn | ⟨g, cap, cur, hv, hB, rest⟩
  · exact .inl hn
  · exact .inr ⟨g, cap, cur, hv, by omega, rest⟩
theorem OwnF.lit1 (B : Nat) (w : World) (p : Value) (hB : B ≤ w.heap.size) : OwnF B (w.alloc (.cells #[p] 76)) (.slice (some ⟨w.heap.size, 0, none⟩) 1 1) [p] :=
  World.ownsRow_lit w #[p] 1 hB (by unfold maxLen; omega) rfl

/-- the faces as values -/
def outV (l : List Int) : Value := .iface 92 (.agg #[sysV l 0, sysV l 1, sysV l 2, sysV l 3, sysV l 4, sysV l 5, sysV l 6, sysV l 7, sysV l 8, sysV l 9, sysV l 10, sysV l 11, sysV l 12])
def arcV (l : List Int) (o : Int) : Value := .iface 94 (.agg (archC l o))
def faceV (l : List Int) : List Value := outV l :: (beginsL l).map (arcV l)
theorem faceV_len (l : List Int) : (faceV l).length = (faceW l).length := by simp [faceV, faceW]
theorem faceV_le {l : List Int} (hl : l.length ≤ 12) : (faceV l).length ≤ 13 := by
  have := whereL_len (beginsB l) l.length
  simp [faceV, beginsL]; omega
theorem begins_mem {l : List Int} {k : Nat} (hk : k < (beginsL l).length) : ∃ o : Nat, o < l.length ∧ (beginsL l).getD k 0 = (o : Int) := by
  have h : ∀ (n : Nat) (x : Int), x ∈ whereL (beginsB l) n → ∃ o : Nat, o < n ∧ x = (o : Int) := by
    intro n
    induction n with
    | zero => intro x hx; simp [whereL] at hx
    | succ n ih =>
      intro x hx
      rw [whereL, List.mem_append] at hx
      rcases hx with hx | hx
      · obtain ⟨o, h1, h2⟩ := ih x hx; exact ⟨o, by omega, h2⟩
      · split at hx
        · simp at hx; exact ⟨n, by omega, hx⟩
        · simp at hx
  exact h _ _ (by simp [beginsL, List.getD] at hk ⊢; simp [hk])

set_option maxHeartbeats 2000000 in
set_option maxRecDepth 100000 in
theorem faces_any (l : List Int) (w : World) (hl : l.length ≤ 12) :
    Calls Try.prog 62 #[.agg (sysC l)] w (fun e w' => ∃ v, e = .returned v ∧ OwnF w.heap.size w' v (faceV l) ∧ Below w.heap.size w w') := by
  have hp := fun w => points_begins (beginsB l) (.agg (sysC l)) l w hl (fun i w h0 h1 => begins_any l i w hl h0 h1)
  have hbx : SysIn (w.alloc (.cells (sysC l) 49)) w.heap.size l := heap_alloc_new w _
  have hbl : (beginsL l).length ≤ 12 := by have := whereL_len (beginsB l) l.length; unfold beginsL; omega
  have htk : ∀ k, k < (beginsL l).length → ((beginsL l).take (k + 1)).map (arcV l) = ((beginsL l).take k).map (arcV l) ++ [arcV l ((beginsL l).getD k 0)] := by
    intro k hk
    rw [List.take_succ_eq_append_getElem hk, List.map_append]
    simp [List.getD, hk]
  unfold faceV
  change ∀ w, Calls _ _ _ w (Made w (beginsL l)) at hp
  generalize beginsL l = bs at *
  have HP := Lib.hid hp; have HX := Lib.hid hbx; have HL := Lib.hid hl; have HTK := Lib.hid htk; have HBL := Lib.hid hbl
  clear hp hbx hl htk hbl
  go_enter Try.func62, Try.ntmps62
  have HX1 : Hid (SysIn ((w.alloc (.cells (sysC l) 49)).alloc (.cells #[.iface 92 (.agg #[sysV l 0, sysV l 1, sysV l 2, sysV l 3, sysV l 4, sysV l 5, sysV l 6, sysV l 7, sysV l 8, sysV l 9, sysV l 10, sysV l 11, sysV l 12])] 76)) w.heap.size l) := Lib.hid (HX.out.below (Below.alloc1 _ (.cells #[outV l] 76)))
  have HF1 : Hid (OwnF (w.heap.size + 1) ((w.alloc (.cells (sysC l) 49)).alloc (.cells #[outV l] 76)) (.slice (some ⟨w.heap.size + 1, 0, none⟩) 1 1) [outV l]) := by
    have := OwnF.lit1 (w.heap.size + 1) (w.alloc (.cells (sysC l) 49)) (outV l) (by simp)
    rw [World.size_alloc] at this
    exact this
  have HB1 := Lib.hid (Below.alloc1 (w.alloc (.cells (sysC l) 49)) (.cells #[outV l] 76))
  go_wp2_with (first
    | (with_reducible refine wp_loadLitF rfl (.tmp 1) rfl w.heap.size l HL.out rfl HX.out ?_)
    | (with_reducible refine wp_loadSys rfl (.tmp 1) rfl w.heap.size l HL.out rfl HX1.out ?_)
    | (go_at_call 63; ((with_reducible refine (HP.out _).mono ?_); rintro e w2 ⟨v1, rfl, ho1, hb1⟩; obtain ⟨a1, c1, rfl, hcl, hcm⟩ := ho1.form; unfold maxLen at hcm; have HF2 := Lib.hid (HF1.out.below hb1); have HB2 := Lib.hid (Below.step HB1.out hb1); have HO1 := Lib.hid (ho1.mono (B' := w.heap.size + 1) (by simp)); clear ho1 hb1)))
  go_loopw [3, 15] (fun o i wr => ∃ k : Nat, k ≤ bs.length ∧ i = .int .i64 (k : Int) ∧ OwnF (w.heap.size + 1) wr o (outV l :: (bs.take k).map (arcV l)) ∧ Own (w.heap.size + 1) wr (.slice a1 bs.length c1) bs ∧ Below (w.heap.size + 1) (w.alloc (.cells (sysC l) 49)) wr) (fun _ i _ => bs.length - (intOf i).toNat)
  case atStart => exact ⟨0, by omega, rfl, by simpa using HF2.out, HO1.out, by have := HB2.out; rwa [World.size_alloc] at this⟩
  case round =>
    obtain ⟨k, hk, rfl, hf, hbs, hbel⟩ := hrel
    clear HF2 HO1 HB2
    generalize wr = wc at *
    by_cases hlt : k < bs.length
    · obtain ⟨g, rfl, hck⟩ := hbs.get k hlt
      have hx2 : SysIn wc w.heap.size l := HX.out.below (by rw [World.size_alloc]; exact hbel)
      have htk2 : outV l :: (bs.take (k + 1)).map (arcV l) = (outV l :: (bs.take k).map (arcV l)) ++ [arcV l (bs.getD k 0)] := by rw [HTK.out k hlt]; rfl
      have HLT : Hid ((outV l :: (bs.take k).map (arcV l)).length ≤ 13) := by show _ ≤ _; have := HBL.out; simp; omega
      generalize bs.getD k 0 = y at *
      generalize outV l :: (bs.take k).map (arcV l) = O at *
      have HX2 := Lib.hid hx2; have HF := Lib.hid hf; have HBS := Lib.hid hbs; have HBE := Lib.hid hbel; have HT2 := Lib.hid htk2
      have HZ : Hid (w.heap.size + 1 ≤ wc.heap.size) := by have := hbel.size; rw [World.size_alloc] at this; exact this
      clear hx2 hf hbs hbel htk2
      go_wp2_with (first
        | (with_reducible refine wp_loadLitF rfl (.tmp 1) rfl w.heap.size l HL.out rfl HX2.out ?_)
        | (at_builtin; refine wp_appendF _ rfl (.tmp 19) (.tmp 24) rfl (w.heap.size + 1) wc.heap.size _ (arcV l y) O rfl rfl (cell_lit1 wc (arcV l y) _) rfl (HF.out.below (Below.alloc1 _ _)) (by have := HLT.out; omega) (by have := HZ.out; simp; omega) ?_; intro v' w3 hf3 hg3 hb3; have HF3 := Lib.hid hf3; have HB3 := Lib.hid ((HBE.out.trans ((Below.alloc1 wc (.cells #[arcV l y] 76)).mono HZ.out)).trans hb3); have HBS3 := Lib.hid ((HBS.out.below (Below.alloc1 wc (.cells #[arcV l y] 76))).grownF (HF.out.below (Below.alloc1 wc (.cells #[arcV l y] 76))) hg3); clear hf3 hg3 hb3))
      go_roundw
      case rel => exact ⟨k + 1, by omega, by go_num, by rw [HT2.out]; exact HF3.out, HBS3.out, HB3.out⟩
      case measure => simp [intOf]; omega
    · obtain rfl : k = bs.length := by omega
      rw [List.take_length] at hf
      obtain ⟨a5, c5, rfl, _⟩ := hf.form
      have HF := Lib.hid hf; have HBE := Lib.hid hbel
      clear hf hbel
      go_wp2_with fail
      go_ret
      exact ⟨_, rfl, HF.out.mono (Nat.le_succ _), (Below.alloc1 _ _).trans (HBE.out.mono (Nat.le_succ _))⟩

/-- the points of each face -/
theorem faceV_at (l : List Int) (hl : l.length ≤ 12) (k : Nat) (hk : k < (faceV l).length) : ∃ T v, (faceV l).getD k .nilIface = .iface T v ∧
    ∀ w, Calls Try.prog 63 #[.agg (sysC l), .func (.method "loop.example/g01126/impl.has") #[.iface T v] #[]] w (Made w ((faceW l).getD k [])) := by
  cases k with
  | zero =>
    refine ⟨92, .agg (sysC l), ?_, fun w => ?_⟩
    · rw [sysC_lit hl]; rfl
    · exact points_outF (isOuterB l) (.agg (sysC l)) l w hl (fun i w hi => outHas_any l i w hl hi)
  | succ k =>
    have hk' : k < (beginsL l).length := by simpa [faceV] using hk
    obtain ⟨o, ho, e⟩ := begins_mem hk'
    refine ⟨94, .agg (archC l (o : Int)), ?_, fun w => ?_⟩
    · rw [← e]
      simp only [faceV, List.getD_cons_succ]
      simp [List.getD, hk', arcV]
    · have e2 : (faceW l).getD (k + 1) [] = whereL (archB l (o : Int)) l.length := by
        rw [← e]
        simp only [faceW, List.getD_cons_succ]
        simp [List.getD, hk', underL']
      rw [e2]
      exact points_archF (archB l (o : Int)) (.agg (archC l (o : Int))) l w hl (fun i w hi => archHas_any l i o w hl hi (by omega))
theorem faceW_row (l : List Int) (k : Nat) : ((faceW l).getD k []).length ≤ l.length := by
  cases k with
  | zero => exact whereL_len _ _
  | succ k =>
    simp only [faceW, List.getD_cons_succ]
    rcases Nat.lt_or_ge k (beginsL l).length with h | h
    · simp [List.getD, h, underL']
      exact whereL_len _ _
    · simp [List.getD, h]

theorem step_appendLL {ops : Array Oper} {o : Oper} {a : Act} {K : Act → World → Prop} {Q : Exit → Act → World → Prop} {E : Prop} (w : World) (hgd : o.guard = none) (s x : Operand)
    (ho : o.op = .call { callee := .builtin .append, args := #[s, x], argTypes := #[23, 23] })
    (lo hi mid g : Nat) (v p : Value) (vs : List Value) (ls : List (List Int)) (l : List Int) (hs : a.eval s = v) (hx : a.eval x = .slice (some ⟨g, 0, none⟩) 1 1) (hc : w.cell? ⟨g, 0, none⟩ = some p)
    (hown : OwnLL lo hi w v vs ls) (hp : Own mid w p l) (hm : hi ≤ mid) (hlo : lo ≤ mid) (hlen : ls.length ≤ 1000000000) (hB : lo ≤ w.heap.size)
    (h : ∀ v' w', OwnLL lo w'.heap.size w' v' (vs ++ [p]) (ls ++ [l]) → w.grownBy w' v.ownBlock → Below lo w w' → (∀ k, v'.ownBlock = some k → v.ownBlock = some k ∨ w.heap.size ≤ k) → K (a.put o.dst v') w') :
    if Region.wanted o (yielded ops a.tmps) = true then Oper.wp Try.prog o a w K Q else E := by
  have hw : Region.wanted o (yielded ops a.tmps) = true := by simp [Region.wanted, hgd]
  rw [if_pos hw]
  obtain ⟨i0, hi0, hz0, hz1, hz2⟩ := info_parts Try.info22
  have hone : p.oneCell' = true := by
    rcases hp.2 with ⟨rfl, _⟩ | ⟨g, cap, cur, rfl, _⟩ <;> rfl
  have hnews : ∀ j u, ([p] : List Value)[j]? = some u → w.cell? ((⟨g, 0, none⟩ : Addr).add j) = some u := by
    intro j y hj
    have : j = 0 := by
      have := (List.getElem?_eq_some_iff.1 hj).1
      simp at this; exact this
    subst this
    simp at hj; subst hj
    exact hc
  have hones : ∀ u ∈ ([p] : List Value), u.oneCell' = true := fun u hu => by simp at hu; rw [hu]; exact hone
  obtain ⟨v', w', hr, h1, h2, _⟩ := run_append_own (P := Try.prog) w lo 23 o.type 22 i0 (.slice none 0 0) 1 24 Try.underlying23 hi0 hz0 hz1 hz2 rfl (by decide) v ls.length vs hown.row ⟨g, 0, none⟩ 1 1 [p] rfl hnews hones (by unfold maxLen; omega) (by omega) hB
  have h3 := append_where w lo 23 o.type 22 i0 (.slice none 0 0) 1 24 Try.underlying23 hi0 hz0 hz1 hz2 rfl (by decide) v ls.length vs hown.row ⟨g, 0, none⟩ 1 1 [p] rfl hnews hones (by unfold maxLen; omega) (by omega) hB v' w' hr
  unfold Oper.wp execOp
  simp only [ho, resolve, invoke, builtin, Sem.run_bind, Sem.run_pure, Result.andThen_ok, List.map_toArray, List.map_cons, List.map_nil, hs, hx, hr]
  exact h v' w' (hown.snoc hp hm hlo h1 h2) h2 (below_grown h2 hB fun k hk => (hown.inn k hk).1) h3

theorem step_nilFace {ops : Array Oper} {o : Oper} {a : Act} {K : Act → World → Prop} {Q : Exit → Act → World → Prop} {E : Prop} (w : World) (hgd : o.guard = none) (x : Operand) (ho : o.op = .nilCheck x) (T : TypeId) (v : Value) (hx : a.eval x = .iface T v)
    (h : K (a.put o.dst (.iface T v)) w) : if Region.wanted o (yielded ops a.tmps) = true then Oper.wp Try.prog o a w K Q else E := by
  have hw : Region.wanted o (yielded ops a.tmps) = true := by simp [Region.wanted, hgd]
  rw [if_pos hw]
  unfold Oper.wp execOp
  simp only [ho, hx]
  exact h

set_option maxHeartbeats 4000000 in
set_option maxRecDepth 100000 in
theorem faceLists_any (l : List Int) (w : World) (hl : l.length ≤ 12) :
    Calls Try.prog 37 #[.agg (sysC l)] w (MadeLL w (faceW l)) := by
  have hfa := fun w => faces_any l w hl
  have hbx : SysIn (w.alloc (.cells (sysC l) 49)) w.heap.size l := heap_alloc_new w _
  have hat := fun k hk => faceV_at l hl k hk
  have hle := faceV_le hl
  have hlen := faceV_len l
  have htk : ∀ k, k < (faceW l).length → (faceW l).take (k + 1) = (faceW l).take k ++ [(faceW l).getD k []] := fun k hk => by
    rw [List.take_succ_eq_append_getElem hk]
    simp [List.getD, hk]
  obtain ⟨n, hn⟩ : ∃ n, n = l.length := ⟨_, rfl⟩
  have hs12 : sysV l 12 = .int .i64 (n : Int) := by rw [hn]; rfl
  have ht := sysC_lit hl
  rw [hs12] at ht
  generalize faceV l = xs at *
  generalize faceW l = ls at *
  have HFA := Lib.hid hfa; have HX := Lib.hid hbx; have HAT := Lib.hid hat; have HL := Lib.hid hl; have HTK := Lib.hid htk; have HLEN := Lib.hid hlen; have HLE := Lib.hid hle; have HS12 := Lib.hid hs12; have HT := Lib.hid ht
  clear hfa hbx hat hl htk hlen hle hs12 ht hn
  go_enter Try.func37, Try.ntmps37
  go_wp2_with (first
    | (with_reducible refine wp_loadSys rfl (.tmp 1) rfl w.heap.size l HL.out rfl HX.out ?_)
    | (go_at_call 62; ((with_reducible refine (HFA.out _).mono ?_); rintro e w1 ⟨v1, rfl, ho1, hb1⟩; obtain ⟨a1, c1, rfl, hcl, hcm⟩ := ho1.form; unfold maxLen at hcm; have HF1 := Lib.hid (ho1.mono (B' := w.heap.size + 1) (by simp)); have HB1 : Hid (Below (w.heap.size + 1) (w.alloc (.cells (sysC l) 49)) w1) := (by rw [World.size_alloc] at hb1; exact hb1); clear ho1 hb1)))
  go_loopw [3, 9] (fun o i wr => ∃ (k : Nat) (vs : List Value), k ≤ xs.length ∧ i = .int .i64 (k : Int) ∧ OwnLL (w.heap.size + 1) wr.heap.size wr o vs (ls.take k) ∧ OwnF (w.heap.size + 1) wr (.slice a1 xs.length c1) xs ∧ Below (w.heap.size + 1) (w.alloc (.cells (sysC l) 49)) wr) (fun _ i _ => xs.length - (intOf i).toNat)
  case atStart => exact ⟨0, [], by omega, rfl, OwnLL.nil _ _ (by have := HB1.out.size; simpa using this), HF1.out, HB1.out⟩
  case round =>
    obtain ⟨k, vs, hk, rfl, hown, hf, hbel⟩ := hrel
    clear HF1 HB1
    generalize wr = wc at *
    by_cases hlt : k < xs.length
    · obtain ⟨T, v, hxe, hpt⟩ := HAT.out k hlt
      obtain ⟨g, rfl, hck0⟩ := hf.at (by omega)
      have hck := hck0 k hlt
      rw [hxe] at hck
      clear hck0
      have hx2 : SysIn wc w.heap.size l := HX.out.below (by rw [World.size_alloc]; exact hbel)
      have htk2 := HTK.out k (by rw [← HLEN.out]; exact hlt)
      have HLT : Hid ((ls.take k).length ≤ 13) := by show _ ≤ _; have := HLE.out; have := HLEN.out; rw [List.length_take]; omega
      have HZ : Hid (w.heap.size + 1 ≤ wc.heap.size) := by have := hbel.size; rw [World.size_alloc] at this; exact this
      generalize ls.getD k [] = t at *
      generalize ls.take k = S at *
      have HX2 := Lib.hid hx2; have HF := Lib.hid hf; have HOW := Lib.hid hown; have HBE := Lib.hid hbel; have HT2 := Lib.hid htk2; have HPT := Lib.hid hpt
      have HB0 : Hid (Below w.heap.size w wc) := (Below.alloc1 _ _).trans (hbel.mono (Nat.le_succ _))
      clear hx2 hf hown hbel htk2 hpt hxe
      go_wp2_with fail
      go_region_held3 (fun w' => Hid (SysIn w' w.heap.size l ∧ Below w.heap.size w w') ∧ w'.cell? ⟨w.heap.size, 0, none⟩ = some (sysV l 0) ∧ w'.cell? ⟨w.heap.size, 1, none⟩ = some (sysV l 1) ∧ w'.cell? ⟨w.heap.size, 2, none⟩ = some (sysV l 2) ∧ w'.cell? ⟨w.heap.size, 3, none⟩ = some (sysV l 3) ∧ w'.cell? ⟨w.heap.size, 4, none⟩ = some (sysV l 4) ∧ w'.cell? ⟨w.heap.size, 5, none⟩ = some (sysV l 5) ∧ w'.cell? ⟨w.heap.size, 6, none⟩ = some (sysV l 6) ∧ w'.cell? ⟨w.heap.size, 7, none⟩ = some (sysV l 7) ∧ w'.cell? ⟨w.heap.size, 8, none⟩ = some (sysV l 8) ∧ w'.cell? ⟨w.heap.size, 9, none⟩ = some (sysV l 9) ∧ w'.cell? ⟨w.heap.size, 10, none⟩ = some (sysV l 10) ∧ w'.cell? ⟨w.heap.size, 11, none⟩ = some (sysV l 11) ∧ w'.cell? ⟨w.heap.size, 12, none⟩ = some (.int .i64 (n : Int)))
        (first | assumption | exact next_cells HS12.out HL.out (show SysIn (World.drew _) _ _ from HX2.out) (Below.drew HB0.out) | exact next_keep HS12.out HL.out (by assumption) (by assumption) | exact next_keep HS12.out HL.out (by assumption) (Below.alloc1 _ _))
        (first
          | (refine step_nilFace _ (by rfl) (.tmp 15) (by rfl) T v (by rfl) ?_)
          | (go_at_call 63; (try rw [← HT.out]); ((with_reducible refine (HPT.out _).mono ?_); rintro e' w6 ⟨p, rfl, hp, hb6⟩; obtain ⟨p1, p2, p3, rfl⟩ := hp.form'; have HP := Lib.hid hp; have HB6 := Lib.hid (((Below.refl wc.heap.size wc).drew).trans hb6); have hS6 := next_cells HS12.out HL.out (HX2.out.below HB6.out) (Below.step HB0.out HB6.out); clear hp hb6))
          | ((refine step_appendLL _ (by rfl) (.tmp 13) (.tmp 19) (by rfl) (w.heap.size + 1) wc.heap.size wc.heap.size w6.heap.size _ (.slice p1 p2 p3) vs S t (by rfl) (by rfl) (cell_lit1 _ _ _) (OwnLL.below HOW.out (HB6.out.alloc HB6.out.size _)) (Own.below HP.out (Below.alloc1 _ _)) (Nat.le_refl _) HZ.out (by have := HLT.out; omega) (by have := HB6.out.size; have := HZ.out; simp at *; omega) ?_); intro v' w7 hown7 hgr7 hbel7 _; have HC7 := Lib.hid (HB6.out.alloc HB6.out.size (.cells #[.slice p1 p2 p3] 22)); have HO7 := Lib.hid hown7; have HF7 := Lib.hid ((HF.out.below HC7.out).grownLL (HOW.out.below HC7.out).row hgr7); have HB7 := Lib.hid ((HBE.out.trans (HC7.out.mono HZ.out)).trans hbel7); have hX7 : SysIn w7 w.heap.size l := (HX2.out.below HC7.out).under hbel7 (Nat.lt_succ_self _); have hB7 : Below w.heap.size w w7 := (Below.alloc1 _ _).trans (HB7.out.mono (Nat.le_succ _)); have hS7 := next_cells HS12.out HL.out hX7 hB7; clear hown7 hgr7 hbel7 hX7 hB7))
      all_goals
        go_wp2
        go_roundw
        case rel => exact ⟨k + 1, _, by omega, by go_num, by rw [HT2.out]; exact HO7.out, HF7.out, HB7.out⟩
        case measure => simp [intOf]; omega
    · obtain rfl : k = xs.length := by omega
      have e : ls.take xs.length = ls := by rw [HLEN.out, List.take_length]
      rw [e] at hown
      obtain ⟨a5, c5, rfl, _⟩ := hown.form
      have HOW := Lib.hid hown; have HBE := Lib.hid hbel
      clear hown hbel
      go_wp2_with fail
      go_ret
      exact ⟨_, vs, rfl, HOW.out.mono (Nat.le_succ _) (Nat.le_refl _) (Nat.le_refl _), (Below.alloc1 _ _).trans (HBE.out.mono (Nat.le_succ _))⟩
end Go.Proofs.Ytfcjgcbjiongpaa
