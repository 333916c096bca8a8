/- Steps and paths of the model. ExchangePath on both sides. -/
import Derived.Test.YtfcjgcbjiongpabExPath
import Derived.Test.YtfcjgcbjiongpabExAt
import Derived.Test.YtfcjgcbjiongpabSysS
namespace Go.Proofs.Ytfcjgcbjiongpab
open Go.RowKit
set_option linter.unusedSimpArgs false
set_option linter.unusedVariables false

def StepOut (w : World) (h : Option (List Int)) (e : Ending) (w' : World) : Prop :=
  match h with
  | none => e = .returned (.tuple #[.slice none 0 0, .bool false]) ∧ Below w.heap.size w w'
  | some q => ∃ a c, e = .returned (.tuple #[.slice a q.length c, .bool true]) ∧ Own w.heap.size w' (.slice a q.length c) q ∧ Below w.heap.size w w'
def scanL (t b : List Int) (by_ : Int) (ps : List (List Int)) : Option (List Int) := ((ps.map (exP t)).filter (nextB t b by_)).head?
theorem scan_all (t b : List Int) (by_ : Int) : scanL t b by_ (pairsL t) = (nextsL t b by_).head? := rfl
theorem scan_yes {t b : List Int} {by_ : Int} {p : List Int} {ps : List (List Int)} (h : nextB t b by_ (exP t p) = true) : scanL t b by_ (p :: ps) = some (exP t p) := by
  unfold scanL
  rw [List.map_cons, List.filter_cons, if_pos h]; rfl
theorem scan_no {t b : List Int} {by_ : Int} {p : List Int} {ps : List (List Int)} (h : nextB t b by_ (exP t p) = false) : scanL t b by_ (p :: ps) = scanL t b by_ ps := by
  unfold scanL
  rw [List.map_cons, List.filter_cons, if_neg (by rw [h]; simp)]
set_option maxHeartbeats 8000000 in
set_option maxRecDepth 100000 in
theorem exStep_any (t b : List Int) (by_ : Int) (gt : goodB t = true) (gb : goodB b = true) (hl : t.length = b.length) (hby : -1 ≤ by_ ∧ by_ ≤ 1) (w : World) (u1 u2 : Value) (h1 : Rd w u1 t) (h2 : Rd w u2 b) :
    Calls Try.prog 66 #[u1, u2, .int .i64 by_] w (StepOut w (nextsL t b by_).head?) := by
  rw [← scan_all]
  have l12 := good_len' gt
  have hcb := compsL_le t b
  have HCT : Hid (∀ w, Rd w u1 t → Rd w u2 b → Calls Try.prog 71 #[.agg #[u1, u2]] w fun e w' => e = .returned (.int .i64 ((compsL t b : Nat) : Int)) ∧ Below w.heap.size w w') := fun w h1 h2 => meCount_any t b gt gb hl w u1 u2 h1 h2
  have HCQ : Hid (∀ p ∈ pairsL t, ∀ w v, Rd w v (exP t p) → Rd w u2 b → Calls Try.prog 71 #[.agg #[v, u2]] w fun e w' => e = .returned (.int .i64 ((compsL (exP t p) b : Nat) : Int)) ∧ Below w.heap.size w w') := by
    intro p hp w v hv hu
    exact meCount_any (exP t p) b ((ex_facts gt).2.1 p hp) gb (by unfold exP; rw [exL_length, hl]) w v u2 hv hu
  have HAT : Hid (∀ p ∈ pairsL t, ∀ w, Rd w u1 t → Calls Try.prog 70 #[u1, .int .i64 (p.getD 0 0), .int .i64 (p.getD 1 0)] w (Made w (exP t p))) := by
    intro p hp w hu
    obtain ⟨i, j, h1, h2, _, rfl⟩ := pairs_mem.1 hp
    exact exAt_any t i j w u1 hu gt h1 h2
  have HT : Hid (∀ r ∈ pairsL t, r.length = 2) := fun r hr => by obtain ⟨i, j, _, _, _, rfl⟩ := pairs_mem.1 hr; rfl
  have HPA := Lib.hid (fun w h => exPairs_any t w u1 h gt)
  have hle := (ex_facts gt).2.2.2
  have hnb : ∀ q, nextB t b by_ q = (((compsL q b : Nat) : Int) == ((compsL t b : Nat) : Int) + by_) := fun q => by unfold nextB; rw [Bool.eq_iff_iff]; simp
  have HNB := Lib.hid hnb
  have HXL : Hid (∀ p, (exP t p).length = t.length) := fun p => exL_length _ _ _
  obtain ⟨H, hH⟩ : ∃ H, scanL t b by_ (pairsL t) = H := ⟨_, rfl⟩
  rw [hH]
  have HS := Lib.hid hH
  generalize compsL t b = ct at *
  generalize pairsL t = P at *
  have hw : IntKind.i64.wrap ((ct : Int) + by_) = (ct : Int) + by_ := IntWalk.i64_in _ (by omega)
  have H1 := Lib.hid h1; have H2 := Lib.hid h2
  obtain ⟨a1, c1, rfl, _⟩ := h1
  obtain ⟨a2, c2, rfl, _⟩ := h2
  clear hnb hcb gt gb hl hby hH l12
  generalize t.length = n1 at *
  go_enter Try.func66, Try.ntmps66
  go_wp2_with (first
    | (go_at_call 71; ((with_reducible refine (HCT.out _ H1.out H2.out).mono ?_); rintro e w0 ⟨rfl, hb0⟩; have HB0 := Lib.hid hb0; clear hb0))
    | (go_at_call 69; ((refine (HPA.out _ (H1.out.below HB0.out)).mono ?_); rintro e w1 ⟨vf, us, rfl, hU, hb1⟩; obtain ⟨au, cu, rfl, hcu1, hcu2⟩ := hU.form; unfold maxLen at hcu2; have HU := Lib.hid hU; have HB1 := Lib.hid (Below.step HB0.out hb1); clear hU hb1)))
  go_loopw [19] (fun i' wr => ∃ k : Nat, k ≤ P.length ∧ i' = .int .i64 (k : Int) ∧ Below w1.heap.size w1 wr ∧ Hid (scanL t b by_ (P.drop k) = H)) (fun i _ => P.length - (intOf i).toNat)
  case atStart => exact ⟨0, by omega, rfl, Below.refl _ _, HS.out⟩
  case round =>
    obtain ⟨k, hk, rfl, hbel, HF⟩ := hrel
    generalize wr = wc at *
    by_cases hlt : k < P.length
    · have hUk := HU.out.below hbel
      obtain ⟨gu, rfl, _, _, hcell, _⟩ := hUk.at (by omega)
      have hck := hcell k hlt
      have hru := hUk.own k hlt
      have hmem : P.getD k [] ∈ P := by simp [List.getD, hlt]
      have h2l := HT.out _ hmem
      have hscan := HF.out
      rw [drop_cons [] hlt] at hscan
      have hat := HAT.out _ hmem
      have hcq := HCQ.out _ hmem
      have hnb := HNB.out (exP t (P.getD k []))
      have hxl := HXL.out (P.getD k [])
      generalize P.getD k [] = r at *
      generalize rowV us k = pr at *
      obtain ⟨ap, cp, rfl, hcp1, hcp2⟩ := hru.form
      rw [h2l] at hcp1 hck
      unfold maxLen at hcp2
      obtain ⟨gp, rfl, k0⟩ := hru.get 0 (by omega)
      obtain ⟨gp', e', k1⟩ := hru.get 1 (by omega)
      simp only [Option.some.injEq, Addr.mk.injEq, and_true] at e'
      subst e'
      have HSY : Hid (nextB t b by_ (exP t r) = true → some (exP t r) = H) := fun h => by rw [← hscan, scan_yes h]
      have HSN : Hid (nextB t b by_ (exP t r) = false → scanL t b by_ (P.drop (k + 1)) = H) := fun h => by rw [← hscan, scan_no h]
      rw [hnb] at HSY HSN
      generalize r.getD 0 0 = r0 at *
      generalize r.getD 1 0 = r1 at *
      generalize exP t r = q at *
      generalize compsL q b = cq at *
      have HATC := Lib.hid hat; have HCQC := Lib.hid hcq; have HBE := Lib.hid hbel; have HXQ := Lib.hid hxl
      have hsz := hbel.size
      have hq0 : wc.drew.cell? ⟨gp, 0, none⟩ = some (.int .i64 r0) := k0
      have hq1 : wc.drew.cell? ⟨gp, 1, none⟩ = some (.int .i64 r1) := k1
      clear hcell hru h2l hat hcq hnb hscan hmem hUk hbel hxl
      go_wp2_with fail
      go_region_with (go_at_call 70; ((refine (HATC.out wc.drew (H1.out.below (Below.step HB1.out HBE.out).drew)).mono ?_); rintro e w5 ⟨v5, rfl, ho5, hb5⟩; obtain ⟨a5, c5, rfl, _⟩ := ho5.form; have HO5 := Lib.hid ho5; have HB5 := Lib.hid (((Below.refl wc.heap.size wc).drew).trans hb5); clear ho5 hb5))
      all_goals
        clear k0 k1 hq0 hq1
        by_cases hc : (cq : Int) = (ct : Int) + by_
        · have hc' : ((cq : Int) == (ct : Int) + by_) = true := beq_iff_eq.2 hc
          have HH := Lib.hid (HSY.out hc')
          clear hc
          go_wp2_with (go_at_call 71; ((with_reducible refine (HCQC.out _ _ HO5.out.rd (H2.out.below (Below.step HB1.out (Below.step HBE.out HB5.out)))).mono ?_); rintro e w6 ⟨rfl, hb6⟩; have HO6 := Lib.hid (HO5.out.below hb6); have HB6 := Lib.hid (Below.step HB5.out hb6); clear hb6))
          go_ret2
          rw [← HH.out]
          exact ⟨_, _, rfl, HO6.out.mono (Nat.le_trans HB1.out.size hsz), Below.step HB1.out (Below.step HBE.out HB6.out)⟩
        · have hc' : ((cq : Int) == (ct : Int) + by_) = false := beq_eq_false_iff_ne.2 hc
          have HH := Lib.hid (HSN.out hc')
          clear hc
          go_wp2_with (go_at_call 71; ((with_reducible refine (HCQC.out _ _ HO5.out.rd (H2.out.below (Below.step HB1.out (Below.step HBE.out HB5.out)))).mono ?_); rintro e w6 ⟨rfl, hb6⟩; have HB6 := Lib.hid (Below.step HB5.out hb6); clear hb6))
          go_roundw
          case rel => exact ⟨k + 1, by omega, by go_num, Below.step HBE.out HB6.out, HH.out⟩
          case measure => simp [intOf]; omega
    · obtain rfl : k = P.length := by omega
      have hs := HF.out
      rw [List.drop_eq_nil_of_le (Nat.le_refl _)] at hs
      have HH : Hid (none = H) := hs
      have HBE := Lib.hid hbel
      clear hbel hs
      go_wp2_with fail
      go_ret2
      rw [← HH.out]
      exact ⟨rfl, Below.step HB1.out HBE.out⟩

def lenV : Value → Nat
  | .slice _ n _ => n
  | _ => 0
theorem path_last (L : List (List Int)) (t : List Int) : (L ++ [t]).getD L.length [] = t := by simp [List.getD]
set_option maxHeartbeats 8000000 in
set_option maxRecDepth 100000 in
theorem exPath_any (t b : List Int) (by_ : Int) (hb : by_ = 1 ∨ by_ = -1) (gt : goodB t = true) (gb : goodB b = true) (hl : t.length = b.length) (w : World) (u1 u2 : Value) (h1 : Rd w u1 t) (h2 : Rd w u2 b) :
    Calls Try.prog 39 #[u1, u2, .int .i64 by_] w (MadeLL w (t :: tailF b by_ 12 t)) := by
  have l12 := good_len' gt
  have HO := Lib.hid (l1Own_any u1 t w h1 (by omega))
  have HST : Hid (∀ (x : List Int) (w : World) (v : Value), goodB x = true → x.length = b.length → Rd w v x → Rd w u2 b → Calls Try.prog 66 #[v, u2, .int .i64 by_] w (StepOut w (nextsL x b by_).head?)) := fun x w v gx hx hv hu => exStep_any x b by_ gx gb hx (by omega) w v u2 hv hu
  obtain ⟨R, hR⟩ : ∃ R, t :: tailF b by_ 12 t = R := ⟨_, rfl⟩
  rw [hR]
  have H2 := Lib.hid h2
  have hm0 : meas b by_ t ≤ 12 := by
    have := compsL_le t b
    unfold meas
    split <;> omega
  have HI : Hid (goodB t = true ∧ t.length = b.length ∧ meas b by_ t ≤ 12 ∧ ([] : List (List Int)).length + 12 = 12 ∧ ([] ++ [t]) ++ tailF b by_ 12 t = R) := ⟨gt, hl, hm0, rfl, hR⟩
  have HNX : Hid (∀ x q, goodB x = true → x.length = b.length → (nextsL x b by_).head? = some q → goodB q = true ∧ q.length = b.length ∧ meas b by_ q + 1 = meas b by_ x) := by
    intro x q gx hx hq
    have hq' : q ∈ nextsL x b by_ := List.mem_of_mem_head? (by rw [hq]; rfl)
    have h2 := next_facts gx hq'
    exact ⟨h2.1, by rw [h2.2.1, hx], meas_next hb gx hq'⟩
  obtain ⟨a1, c1, rfl, _⟩ := h1
  obtain ⟨a2, c2, rfl, _⟩ := h2
  clear hR gt gb hl hm0 l12 hb
  go_enter Try.func39, Try.ntmps39
  go_wp2_with (go_at_call 65; ((with_reducible refine HO.out.mono ?_); rintro e w1 ⟨v1, rfl, ho1, hb1⟩; obtain ⟨p1, p2, p3, rfl⟩ := ho1.form'; have HL0 := Lib.hid (OwnLL.lit1 w.heap.size w1 _ t ho1 hb1.size); have HB0 := Lib.hid (hb1.alloc hb1.size (.cells #[.slice p1 p2 p3] 22)); clear ho1 hb1))
  go_loopw [7] (fun o wr => ∃ (L : List (List Int)) (x : List Int) (f : Nat) (vs : List Value), OwnLL w.heap.size wr.heap.size wr o vs (L ++ [x]) ∧ Below w.heap.size w wr ∧ Hid (goodB x = true ∧ x.length = b.length ∧ meas b by_ x ≤ f ∧ L.length + f = 12 ∧ (L ++ [x]) ++ tailF b by_ f x = R)) (fun o _ => 14 - lenV o)
  case atStart => exact ⟨[], t, 12, _, HL0.out.mono (Nat.le_refl _) (by simp) (by simp), HB0.out, HI.out⟩
  case round =>
    obtain ⟨L, x, f, vs, hown, hbel, HX⟩ := hrel
    generalize wr = wc at *
    clear HL0 HB0 HI
    obtain ⟨gx, hx, hm, hLf, hR⟩ := HX.out
    obtain ⟨ao, co, rfl, hco1, hco2⟩ := hown.form
    obtain ⟨g, rfl, _, _, hcell, _⟩ := hown.at (by simp)
    have hck := hcell L.length (by simp)
    have hru := hown.own L.length (by simp)
    rw [path_last] at hru
    have hN : (L ++ [x]).length = L.length + 1 := by simp
    obtain ⟨N, hNN⟩ : ∃ N, (L ++ [x]).length = N := ⟨_, rfl⟩
    rw [hNN] at hco1 hN ⊢
    have HOW := Lib.hid hown
    have HNN := Lib.hid hNN
    obtain ⟨m, hmm⟩ : ∃ m, L.length = m := ⟨_, rfl⟩
    rw [hmm] at hck hru hN hLf
    have HMM := Lib.hid hmm
    generalize rowV vs m = pr at *
    obtain ⟨ap, cp, rfl, hcp1, hcp2⟩ := hru.form
    have HRU := Lib.hid hru
    have hw : IntKind.i64.wrap ((N : Int) - 1) = (m : Int) := by rw [show (N : Int) - 1 = (m : Int) by omega]; exact IntWalk.i64_in _ (by omega)
    have i1 : (m : Int) < (N : Int) := by omega
    have i2 : m < N := by omega
    unfold maxLen at hco2
    have HN1 := Lib.hid hN
    clear hN
    have HSC := Lib.hid (HST.out x wc _ gx hx HRU.out.rd (H2.out.below hbel))
    have HBE := Lib.hid hbel
    have hsz := hbel.size
    cases hh : (nextsL x b by_).head? with
    | none =>
      have e : tailF b by_ f x = [] := by
        cases f with
        | zero => rfl
        | succ f => rw [tailF, hh]
      rw [e, List.append_nil] at hR
      rw [hh] at HSC
      have HRR := Lib.hid hR
      clear hcell hru hown hbel hR e hh hNN hmm gx hx hm hLf HX
      go_wp2_with (go_at_call 66; ((refine HSC.out.mono ?_); rintro e w5 ⟨rfl, hb5⟩; have HB5 := Lib.hid hb5; clear hb5))
      go_ret
      refine ⟨_, vs, rfl, ?_, Below.step HBE.out HB5.out⟩
      rw [← HRR.out]
      have := HOW.out.below HB5.out
      rw [HNN.out] at this
      exact this.mono (Nat.le_refl _) HB5.out.size (Nat.le_refl _)
    | some q =>
      have hnx := HNX.out x q gx hx hh
      obtain ⟨f, rfl⟩ : ∃ g, f = g + 1 := ⟨f - 1, by omega⟩
      have e : tailF b by_ (f + 1) x = q :: tailF b by_ f q := by rw [tailF, hh]
      rw [e] at hR
      rw [hh] at HSC
      have HX2 : Hid (goodB q = true ∧ q.length = b.length ∧ meas b by_ q ≤ f ∧ (L ++ [x]).length + f = 12 ∧ ((L ++ [x]) ++ [q]) ++ tailF b by_ f q = R) := ⟨hnx.1, hnx.2.1, by omega, by have := HN1.out; omega, by rw [← hR, List.append_assoc]; rfl⟩
      have hml : m ≤ 12 := by omega
      clear hcell hru hown hbel hR e hh hmm gx hx hm hLf HX hnx
      generalize L ++ [x] = LL at *
      clear hNN
      go_wp2_with (first
        | (go_at_call 66; ((refine HSC.out.mono ?_); rintro e w5 ⟨a5, c5, rfl, ho5, hb5⟩; have HO5 := Lib.hid ho5; have HB5 := Lib.hid hb5; clear ho5 hb5))
        | (at_builtin; refine wp_appendLL _ rfl (.tmp 28) (.tmp 30) rfl w.heap.size wc.heap.size wc.heap.size w5.heap.size _ (.slice a5 q.length c5) vs LL q rfl rfl (cell_lit1 _ _ _) (by have := OwnLL.below HOW.out (HB5.out.alloc HB5.out.size (.cells #[.slice a5 q.length c5] 22)); rw [HNN.out] at this; exact this) (Own.below HO5.out (Below.alloc1 _ _)) (Nat.le_refl _) hsz (by have := HNN.out; have := HN1.out; omega) (by have := HB5.out.size; simp; omega) ?_; intro v' w7 hown7 hgr7 hbel7 _; have HO7 := Lib.hid hown7; have HB7 := Lib.hid ((HBE.out.trans ((HB5.out.alloc HB5.out.size _).mono hsz)).trans hbel7); clear hown7 hgr7 hbel7))
      obtain ⟨a7, c7, rfl, _⟩ := HO7.out.form
      go_roundw
      case rel => exact ⟨LL, q, f, _, HO7.out, HB7.out, HX2.out⟩
      case measure =>
        have := HNN.out
        have := HN1.out
        simp [lenV]
        omega

theorem wp_loadMidC {ops : Array Oper} {rest : List Oper} {o : Oper} {a : Act} {w : World} {Q : Exit → Act → World → Prop} (hgd : o.guard = none) (x : Operand) (ho : o.op = .load 53 x)
    (g off : Nat) (s : List Int) (hs : s.length ≤ 12) (hx : a.eval x = .pointer (some ⟨g, off, none⟩)) (hg : w.rangeAt g off [sysV s 0, sysV s 1, sysV s 2, sysV s 3, sysV s 4, sysV s 5, sysV s 6, sysV s 7, sysV s 8, sysV s 9, sysV s 10, sysV s 11, sysV s 12])
    (h : wpList Try.prog ops Q rest (a.put o.dst (.agg (sysC s))) w) : wpList Try.prog ops Q (o :: rest) a w :=
  wp_loadMidL hgd x ho g off s hx hg (by rw [← sysC_lit hs]; exact h)
set_option maxHeartbeats 4000000 in
set_option maxRecDepth 100000 in
theorem topsOn_any (ps : List (List Int × List Int)) (hgd : ∀ k, k < ps.length → (ps.getD k ([], [])).1.length ≤ 12) (hn : ps.length ≤ 1000) (B : Nat) (w : World) (v : Value) (hown : OwnP B w v ps) :
    Calls Try.prog 42 #[v] w (MadeS w (ps.map (·.1))) := by
  have HGL := Lib.hid hgd
  have HTS : Hid (∀ k, k < ps.length → (ps.take (k + 1)).map (·.1) = (ps.take k).map (·.1) ++ [(ps.getD k ([], [])).1]) := fun k hk => by
    rw [List.take_succ_eq_append_getElem hk, List.map_append]
    simp [List.getD, hk]
  obtain ⟨a0, c0, rfl, hx1, hx2⟩ := hown.form
  unfold maxLen at hx2
  have HO := Lib.hid hown
  clear hown hgd
  go_enter Try.func42, Try.ntmps42
  go_wp2_with fail
  go_loopw [3, 8] (fun o i wr => ∃ k : Nat, k ≤ ps.length ∧ i = .int .i64 (k : Int) ∧ OwnS w.heap.size wr o ((ps.take k).map (·.1)) ∧ Below w.heap.size w wr) (fun _ i _ => ps.length - (intOf i).toNat)
  case atStart => exact ⟨0, by omega, rfl, OwnS.nil _ _, Below.refl _ _⟩
  case round =>
    obtain ⟨k, hk, rfl, hown, hbel⟩ := hrel
    generalize wr = wc at *
    by_cases hlt : k < ps.length
    · obtain ⟨g, rfl, _, _, _, hrg, _⟩ := (HO.out.below hbel).at (by omega)
      have hr := hrg k hlt
      have hts := HTS.out k hlt
      have hgl := HGL.out k hlt
      have HLT : Hid (((ps.take k).map (·.1)).length ≤ 1000) := by show _ ≤ _; rw [List.length_map, List.length_take]; omega
      generalize ps.getD k ([], []) = p at *
      obtain ⟨t, b⟩ := p
      simp only at hr hts hgl
      generalize (ps.take k).map (·.1) = S at *
      have HR := Lib.hid hr; have HOQ := Lib.hid hown; have HBE := Lib.hid hbel; have HTS2 := Lib.hid hts; have HGL2 := Lib.hid hgl
      have hsz := hbel.size
      clear hrg hr hown hbel hts hgl
      go_wp2_with (first
        | (with_reducible refine boxP_loadX rfl (.tmp 10) rfl g (k * 26) t b rfl HR.out ?_)
        | ((with_reducible refine wp_storePairN rfl (.tmp 5) (.tmp 11) rfl t b rfl rfl ?_); intro w5 hs5 hb5; have HS5 := Lib.hid hs5; have HB5 := Lib.hid hb5; clear hs5 hb5)
        | (with_reducible refine wp_loadMidC rfl (.tmp 13) rfl wc.heap.size 0 t HGL2.out rfl (rp_top HS5.out) ?_)
        | (with_reducible refine wp_buildS _ rfl (.tmp 14) rfl t HGL2.out rfl ?_)
        | (at_builtin; refine wp_appendS _ rfl (.tmp 12) (.tmp 15) rfl w.heap.size w5.heap.size 1 1 _ S [t] rfl rfl rfl (fun j hj => builtS w5 t HGL2.out j (by simpa using hj)) ((HOQ.out.below HB5.out).below (Below.alloc1 _ _)) (by have := HLT.out; simp only [List.length_cons, List.length_nil]; omega) (by have := HB5.out.size; simp; omega) ?_; intro o' w7 ho7 hg7 hb7 hw7; have HO7 := Lib.hid ho7; have HB7 := Lib.hid (chain1 HBE.out hsz HB5.out hb7); clear ho7 hg7 hb7 hw7))
      go_roundw
      case rel => exact ⟨k + 1, by omega, by go_num, by rw [HTS2.out]; exact HO7.out, HB7.out⟩
      case measure => simp [intOf]; omega
    · obtain rfl : k = ps.length := by omega
      rw [List.take_length] at hown
      obtain ⟨a5, c5, rfl, _⟩ := hown.form
      have HOQ := Lib.hid hown; have HBE := Lib.hid hbel
      clear hown hbel
      go_wp2_with fail
      go_ret
      exact ⟨_, rfl, HOQ.out, HBE.out⟩

end Go.Proofs.Ytfcjgcbjiongpab
