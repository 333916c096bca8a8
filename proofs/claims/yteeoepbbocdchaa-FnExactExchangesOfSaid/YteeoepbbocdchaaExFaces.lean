/- All faces of a system, and their points, by the program. -/
import Derived.Test.YteeoepbbocdchaaExFace
import Derived.Test.YteeoepbbocdchaaListsLaw
namespace Go.Proofs.Yteeoepbbocdchaa
open Go.RowKit
set_option linter.unusedSimpArgs false
set_option linter.unusedVariables false

theorem face_zero : (Try.prog.info? 169).map (fun i => (i.zero, i.size, i.bytes)) = some (some .nilIface, 1, 16) := by kernel_rfl
/-- a slice of faces that the call made itself -/
def OwnF (B : Nat) (w : World) (v : Value) (xs : List Value) : Prop := w.ownsRow B 169 1 v xs.length xs
theorem OwnF.below {B : Nat} {w w' : World} {v : Value} {xs : List Value} (h : OwnF B w v xs) (hb : Below w.heap.size w w') : OwnF B w' v xs := ownsRow_below h hb
theorem OwnF.form {B : Nat} {w : World} {v : Value} {xs : List Value} (h : OwnF B w v xs) : ∃ a c, v = .slice a xs.length c ∧ xs.length ≤ c ∧ c ≤ maxLen := by
  rcases h.2 with ⟨rfl, hn⟩ | ⟨g, cap, cur, hv, hB, hg, hnc, hcm, _⟩
  · exact ⟨none, 0, by rw [hn], by omega, by unfold maxLen; omega⟩
  · exact ⟨_, cap, hv, hnc, hcm⟩
theorem OwnF.at {B n c : Nat} {a : Option Addr} {w : World} {xs : List Value} (h : OwnF B w (.slice a n c) xs) (hl : 0 < xs.length) :
    ∃ g, a = some ⟨g, 0, none⟩ ∧ ∀ k, k < xs.length → w.cell? ⟨g, k, none⟩ = some (xs.getD k .nilIface) := by
  rcases h.2 with ⟨_, hn⟩ | ⟨g, cap, cur, hv, hB, hg, hnc, hcm, _⟩
  · omega
  · have hn : n = xs.length := by simp at hv; exact hv.2.1
    have ha : a = some ⟨g, 0, none⟩ := by simp at hv; exact hv.1
    have hc : c = cap := by simp at hv; exact hv.2.2
    subst ha; subst hc; subst hn
    refine ⟨g, rfl, fun k hk => ?_⟩
    rw [World.ownsRow.cellAt h k (by omega)]
    simp [List.getD, hk]
theorem ownF_apart {B B' : Nat} {w : World} {u v : Value} {l : List Int} {xs : List Value} (h : Own B w u l) (hv : OwnF B' w v xs) : ∀ k, u.ownBlock = some k → v.ownBlock ≠ some k := by
  intro k hk hk'
  rcases h.2 with ⟨rfl, _⟩ | ⟨g, cap, cur, rfl, _, hg, _⟩
  · cases hk
  rcases hv.2 with ⟨rfl, _⟩ | ⟨g', cap', cur', rfl, _, hg', _⟩
  · cases hk'
  simp [Value.ownBlock] at hk hk'
  subst hk; subst hk'
  rw [hg] at hg'
  simp at hg'
theorem ownF_apartLL {B B' n : Nat} {w : World} {u v : Value} {xs ys : List Value} (hu : w.ownsRow B 22 1 u n ys) (hv : OwnF B' w v xs) : ∀ k, u.ownBlock = some k → v.ownBlock ≠ some k := by
  intro k hk hk'
  rcases hu.2 with ⟨rfl, _⟩ | ⟨g, cap, cur, rfl, _, hg, _⟩
  · cases hk
  rcases hv.2 with ⟨rfl, _⟩ | ⟨g', cap', cur', rfl, _, hg', _⟩
  · cases hk'
  simp [Value.ownBlock] at hk hk'
  subst hk; subst hk'
  rw [hg] at hg'
  simp at hg'
theorem OwnF.grownLL {B B' n : Nat} {w w' : World} {u v : Value} {xs ys : List Value} (hv : OwnF B' w v xs) (hu : w.ownsRow B 22 1 u n ys) (hg : w.grownBy w' u.ownBlock) : OwnF B' w' v xs :=
  World.ownsRow.kept hv hg (by
    cases e : v.ownBlock with
    | none => exact .inl rfl
    | some k => exact .inr fun e' => ownF_apartLL hu hv k e'.symm e)
theorem Own.grownF {B B' : Nat} {w w' : World} {u v : Value} {l : List Int} {xs : List Value} (h : Own B w u l) (hv : OwnF B' w v xs) (hg : w.grownBy w' v.ownBlock) : Own B w' u l :=
  World.ownsRow.kept h hg (by
    cases e : u.ownBlock with
    | none => exact .inl rfl
    | some k => exact .inr fun e' => ownF_apart h hv k e e'.symm)
theorem wp_appendF {ops : Array Oper} {rest : List Oper} {o : Oper} {a : Act} {Q : Exit → Act → World → Prop} (w : World)
    (hg : o.guard = none) (s x : Operand) (hop : o.op = Op.call { callee := Callee.builtin Builtin.append, args := #[s, x], argTypes := #[167, 167] })
    (B g : Nat) (v p : Value) (xs : List Value) (hs : a.eval s = v) (hx : a.eval x = .slice (some ⟨g, 0, none⟩) 1 1) (hc : w.cell? ⟨g, 0, none⟩ = some p) (hone : p.oneCell' = true)
    (hown : OwnF B w v xs) (hlen : xs.length ≤ 1000000) (hB : B ≤ w.heap.size)
    (hK : ∀ v' w', OwnF B w' v' (xs ++ [p]) → w.grownBy w' v.ownBlock → Below B w w' → wpList Try.prog ops Q rest (a.put o.dst v') w') :
    wpList Try.prog ops Q (o :: rest) a w := by
  obtain ⟨i0, hi0, hz0, hz1, hz2⟩ := info_parts face_zero
  have hnews : ∀ j u, ([p] : List Value)[j]? = some u → w.cell? ((⟨g, 0, none⟩ : Addr).add j) = some u := by
    intro j y hj
    have : j = 0 := by
      have := (List.getElem?_eq_some_iff.1 hj).1
      simp at this; exact this
    subst this
    simp at hj; subst hj
    exact hc
  have hones : ∀ u ∈ ([p] : List Value), u.oneCell' = true := fun u hu => by simp at hu; rw [hu]; exact hone
  obtain ⟨v', w', hr, h1, h2, _⟩ := run_append_own (P := Try.prog) w B 167 o.type 169 i0 .nilIface 1 16 Try.underlying167 hi0 hz0 hz1 hz2 rfl (by decide) v xs.length xs hown ⟨g, 0, none⟩ 1 1 [p] rfl hnews hones (by unfold maxLen; omega) (by omega) hB
  refine wpList_plain hg fun _ hK' => ?_
  unfold Oper.wp execOp
  simp only [hop, resolve, invoke, builtin, Sem.run_bind, Sem.run_pure, Result.andThen_ok, List.map_toArray, List.map_cons, List.map_nil, hs, hx, hr]
  have h3 : OwnF B w' v' (xs ++ [p]) := by unfold OwnF; rw [List.length_append]; exact h1
  exact hK' _ _ (hK v' w' h3 h2 (below_grown h2 hB fun k hk => (World.ownsRow.lt hown k hk).1))

theorem wp_loadLitF {ops : Array Oper} {rest : List Oper} {o : Oper} {a : Act} {w : World} {Q : Exit → Act → World → Prop} (hgd : o.guard = none) (x : Operand) (ho : o.op = .load 59 x)
    (g : Nat) (l : List Int) (hl : l.length ≤ 12) (hx : a.eval x = .pointer (some ⟨g, 0, none⟩)) (hg : SysIn w g l)
    (h : wpList Try.prog ops Q rest (a.put o.dst (.agg #[sysV l 0, sysV l 1, sysV l 2, sysV l 3, sysV l 4, sysV l 5, sysV l 6, sysV l 7, sysV l 8, sysV l 9, sysV l 10, sysV l 11, sysV l 12])) w) : wpList Try.prog ops Q (o :: rest) a w :=
  wp_loadSys hgd x ho g l hl hx hg (by rw [sysC_lit hl]; exact h)

theorem OwnF.mono {B B' : Nat} {w : World} {v : Value} {xs : List Value} (h : OwnF B w v xs) (hb : B' ≤ B) : OwnF B' w v xs := by
  refine ⟨h.1, ?_⟩
  rcases h.2 with hn | ⟨g, cap, cur, hv, hB, rest⟩
  · exact .inl hn
  · exact .inr ⟨g, cap, cur, hv, by omega, rest⟩
theorem OwnF.lit1 (B : Nat) (w : World) (p : Value) (hB : B ≤ w.heap.size) : OwnF B (w.alloc (.cells #[p] 169)) (.slice (some ⟨w.heap.size, 0, none⟩) 1 1) [p] :=
  World.ownsRow_lit w #[p] 1 hB (by unfold maxLen; omega) rfl

/-- the faces as values -/
def outV (l : List Int) : Value := .iface 200 (.agg #[sysV l 0, sysV l 1, sysV l 2, sysV l 3, sysV l 4, sysV l 5, sysV l 6, sysV l 7, sysV l 8, sysV l 9, sysV l 10, sysV l 11, sysV l 12])
def arcV (l : List Int) (o : Int) : Value := .iface 203 (.agg (archC l o))
def faceV (l : List Int) : List Value := outV l :: (beginsL l).map (arcV l)
theorem faceV_len (l : List Int) : (faceV l).length = (faceW l).length := by simp [faceV, faceW]
theorem faceV_le {l : List Int} (hl : l.length ≤ 12) : (faceV l).length ≤ 13 := by
  have := whereL_len (beginsB l) l.length
  simp [faceV, beginsL]; omega
theorem begins_mem {l : List Int} {k : Nat} (hk : k < (beginsL l).length) : ∃ o : Nat, o < l.length ∧ (beginsL l).getD k 0 = (o : Int) := by
  have h : ∀ (n : Nat) (x : Int), x ∈ whereL (beginsB l) n → ∃ o : Nat, o < n ∧ x = (o : Int) := by
    intro n
    induction n with
    | zero => intro x hx; simp [whereL] at hx
    | succ n ih =>
      intro x hx
      rw [whereL, List.mem_append] at hx
      rcases hx with hx | hx
      · obtain ⟨o, h1, h2⟩ := ih x hx; exact ⟨o, by omega, h2⟩
      · split at hx
        · simp at hx; exact ⟨n, by omega, hx⟩
        · simp at hx
  exact h _ _ (by simp [beginsL, List.getD] at hk ⊢; simp [hk])

set_option maxHeartbeats 2000000 in
set_option maxRecDepth 100000 in
theorem faces_any (l : List Int) (w : World) (hl : l.length ≤ 12) :
    Calls Try.prog 162 #[.agg (sysC l)] w (fun e w' => ∃ v, e = .returned v ∧ OwnF w.heap.size w' v (faceV l) ∧ Below w.heap.size w w') := by
  have hp := fun w => points_begins (beginsB l) (.agg (sysC l)) l w hl (fun i w h0 h1 => begins_any l i w hl h0 h1)
  have hbx : SysIn (w.alloc (.cells (sysC l) 59)) w.heap.size l := heap_alloc_new w _
  have hbl : (beginsL l).length ≤ 12 := by have := whereL_len (beginsB l) l.length; unfold beginsL; omega
  have htk : ∀ k, k < (beginsL l).length → ((beginsL l).take (k + 1)).map (arcV l) = ((beginsL l).take k).map (arcV l) ++ [arcV l ((beginsL l).getD k 0)] := by
    intro k hk
    rw [List.take_succ_eq_append_getElem hk, List.map_append]
    simp [List.getD, hk]
  unfold faceV
  change ∀ w, Calls _ _ _ w (Made w (beginsL l)) at hp
  generalize beginsL l = bs at *
  have HP := Lib.hid hp; have HX := Lib.hid hbx; have HL := Lib.hid hl; have HTK := Lib.hid htk; have HBL := Lib.hid hbl
  clear hp hbx hl htk hbl
  go_enter Try.func162, Try.ntmps162
  have HX1 : Hid (SysIn ((w.alloc (.cells (sysC l) 59)).alloc (.cells #[.iface 200 (.agg #[sysV l 0, sysV l 1, sysV l 2, sysV l 3, sysV l 4, sysV l 5, sysV l 6, sysV l 7, sysV l 8, sysV l 9, sysV l 10, sysV l 11, sysV l 12])] 169)) w.heap.size l) := Lib.hid (HX.out.below (Below.alloc1 _ (.cells #[outV l] 169)))
  have HF1 : Hid (OwnF (w.heap.size + 1) ((w.alloc (.cells (sysC l) 59)).alloc (.cells #[outV l] 169)) (.slice (some ⟨w.heap.size + 1, 0, none⟩) 1 1) [outV l]) := by
    have := OwnF.lit1 (w.heap.size + 1) (w.alloc (.cells (sysC l) 59)) (outV l) (by simp)
    rw [World.size_alloc] at this
    exact this
  have HB1 := Lib.hid (Below.alloc1 (w.alloc (.cells (sysC l) 59)) (.cells #[outV l] 169))
  go_wp2_with (first
    | (with_reducible refine wp_loadLitF rfl (.tmp 1) rfl w.heap.size l HL.out rfl HX.out ?_)
    | (with_reducible refine wp_loadSys rfl (.tmp 1) rfl w.heap.size l HL.out rfl HX1.out ?_)
    | (go_at_call 192; ((with_reducible refine (HP.out _).mono ?_); rintro e w2 ⟨v1, rfl, ho1, hb1⟩; obtain ⟨a1, c1, rfl, hcl, hcm⟩ := ho1.form; unfold maxLen at hcm; have HF2 := Lib.hid (HF1.out.below hb1); have HB2 := Lib.hid (Below.step HB1.out hb1); have HO1 := Lib.hid (ho1.mono (B' := w.heap.size + 1) (by simp)); clear ho1 hb1)))
  go_loopw [3, 15] (fun o i wr => ∃ k : Nat, k ≤ bs.length ∧ i = .int .i64 (k : Int) ∧ OwnF (w.heap.size + 1) wr o (outV l :: (bs.take k).map (arcV l)) ∧ Own (w.heap.size + 1) wr (.slice a1 bs.length c1) bs ∧ Below (w.heap.size + 1) (w.alloc (.cells (sysC l) 59)) wr) (fun _ i _ => bs.length - (intOf i).toNat)
  case atStart => exact ⟨0, by omega, rfl, by simpa using HF2.out, HO1.out, by have := HB2.out; rwa [World.size_alloc] at this⟩
  case round =>
    obtain ⟨k, hk, rfl, hf, hbs, hbel⟩ := hrel
    clear HF2 HO1 HB2
    generalize wr = wc at *
    by_cases hlt : k < bs.length
    · obtain ⟨g, rfl, hck⟩ := hbs.get k hlt
      have hx2 : SysIn wc w.heap.size l := HX.out.below (by rw [World.size_alloc]; exact hbel)
      have htk2 : outV l :: (bs.take (k + 1)).map (arcV l) = (outV l :: (bs.take k).map (arcV l)) ++ [arcV l (bs.getD k 0)] := by rw [HTK.out k hlt]; rfl
      have HLT : Hid ((outV l :: (bs.take k).map (arcV l)).length ≤ 13) := by show _ ≤ _; have := HBL.out; simp; omega
      generalize bs.getD k 0 = y at *
      generalize outV l :: (bs.take k).map (arcV l) = O at *
      have HX2 := Lib.hid hx2; have HF := Lib.hid hf; have HBS := Lib.hid hbs; have HBE := Lib.hid hbel; have HT2 := Lib.hid htk2
      have HZ : Hid (w.heap.size + 1 ≤ wc.heap.size) := by have := hbel.size; rw [World.size_alloc] at this; exact this
      clear hx2 hf hbs hbel htk2
      go_wp2_with (first
        | (with_reducible refine wp_loadLitF rfl (.tmp 1) rfl w.heap.size l HL.out rfl HX2.out ?_)
        | (at_builtin; refine wp_appendF _ rfl (.tmp 19) (.tmp 24) rfl (w.heap.size + 1) wc.heap.size _ (arcV l y) O rfl rfl (cell_lit1 wc (arcV l y) _) rfl (HF.out.below (Below.alloc1 _ _)) (by have := HLT.out; omega) (by have := HZ.out; simp; omega) ?_; intro v' w3 hf3 hg3 hb3; have HF3 := Lib.hid hf3; have HB3 := Lib.hid ((HBE.out.trans ((Below.alloc1 wc (.cells #[arcV l y] 169)).mono HZ.out)).trans hb3); have HBS3 := Lib.hid ((HBS.out.below (Below.alloc1 wc (.cells #[arcV l y] 169))).grownF (HF.out.below (Below.alloc1 wc (.cells #[arcV l y] 169))) hg3); clear hf3 hg3 hb3))
      go_roundw
      case rel => exact ⟨k + 1, by omega, by go_num, by rw [HT2.out]; exact HF3.out, HBS3.out, HB3.out⟩
      case measure => simp [intOf]; omega
    · obtain rfl : k = bs.length := by omega
      rw [List.take_length] at hf
      obtain ⟨a5, c5, rfl, _⟩ := hf.form
      have HF := Lib.hid hf; have HBE := Lib.hid hbel
      clear hf hbel
      go_wp2_with fail
      go_ret
      exact ⟨_, rfl, HF.out.mono (Nat.le_succ _), (Below.alloc1 _ _).trans (HBE.out.mono (Nat.le_succ _))⟩
end Go.Proofs.Yteeoepbbocdchaa
