/- The program's lists of words: made of each word and each number, chosen, and read. -/
import Derived.Test.YteeoepbbocdchaaWdSl
import Derived.Test.YteeoepbbocdchaaWdLast
import Derived.Test.YteeoepbbocdchaaWdOpen
import Derived.Test.YteeoepbbocdchaaWdV
import Derived.Test.YteeoepbbocdchaaWdMe
import Derived.Test.YteeoepbbocdchaaWdAll
import Derived.Test.YteeoepbbocdchaaListsLaw
namespace Go.Proofs.Yteeoepbbocdchaa
open Go.RowKit
set_option linter.unusedSimpArgs false
set_option linter.unusedVariables false

def openW1 (l : List Int) : Bool := (firstCrs l).isNone
def rowW (g : List Int → Nat → List Int) (l : List Int) (m : Nat) : List (List Int) := (List.range m).map (g l)
def allW (g : List Int → Nat → List Int) (ls : List (List Int)) (m q : Nat) : List (List Int) := (ls.take q).flatMap fun l => rowW g l m
theorem rowW_succ (g : List Int → Nat → List Int) (l : List Int) (k : Nat) : rowW g l (k + 1) = rowW g l k ++ [g l k] := by
  unfold rowW
  rw [List.range_succ, List.map_append]
  rfl
theorem rowW_len (g : List Int → Nat → List Int) (l : List Int) (k : Nat) : (rowW g l k).length = k := by simp [rowW]
theorem allW_succ (g : List Int → Nat → List Int) (ls : List (List Int)) (m q : Nat) (h : q < ls.length) : allW g ls m (q + 1) = allW g ls m q ++ rowW g (ls.getD q []) m := by
  unfold allW
  rw [List.take_succ_eq_append_getElem h, List.flatMap_append]
  simp [List.getD, h]
theorem allW_len (g : List Int → Nat → List Int) (ls : List (List Int)) (m : Nat) : ∀ q, (allW g ls m q).length ≤ q * m
  | 0 => by simp [allW]
  | q + 1 => by
    have := allW_len g ls m q
    by_cases h : q < ls.length
    · rw [allW_succ g ls m q h, List.length_append, rowW_len, Nat.succ_mul]; omega
    · have e : allW g ls m (q + 1) = allW g ls m q := by unfold allW; rw [List.take_of_length_le (by omega), List.take_of_length_le (by omega)]
      rw [e, Nat.succ_mul]; omega
theorem WdIn.grownO {w w' : World} {b : Nat} {row : Option Nat} {p q : List Int} (h : WdIn w b p q) (hg : w.grownBy w' row) (hne : some b ≠ row) : WdIn w' b p q :=
  (hg.block b h.lt hne).trans h
def WrdRet (w : World) (l : List Int) (e : Ending) (w' : World) : Prop := e = .returned (.agg (wrdC l)) ∧ Below w.heap.size w w'

set_option maxHeartbeats 2000000 in
set_option maxRecDepth 100000 in
theorem madeLast_any (g : List Int → Nat → List Int) (ls : List (List Int)) (m : Nat) (hm8 : m ≤ 8) (hl : ∀ k, k < ls.length → (ls.getD k []).length ≤ 12) (hg : ∀ q k, q < ls.length → k < m → (g (ls.getD q []) k).length ≤ 12) (hn : ls.length ≤ 20000)
    (hcall : ∀ (q k : Nat) (w : World), q < ls.length → k < m → Calls Try.prog 92 #[.agg (wdC (ls.getD q []) (idxW (ls.getD q []))), .int .i64 (k : Int)] w (WrdRet w (g (ls.getD q []) k))) (B : Nat) (w : World) (v : Value) (hown : OwnWo B w v ls) :
    Calls Try.prog 91 #[v, .int .i64 (m : Int), .func (.func 92) #[] #[]] w (MadeWo w (allW g ls m ls.length)) := by
  have HWN := Lib.hid hcall
  have HGS := Lib.hid (fun q (hq : q < ls.length) => allW_succ g ls m q hq)
  have HL8 := Lib.hid hl
  have HI8 := Lib.hid hg
  have HBD : Hid (∀ q k l, q ≤ ls.length → k ≤ m → (allW g ls m q ++ rowW g l k).length ≤ 200000) := fun q k l hq hk => by
    have h1 := allW_len g ls m q
    have h2 : q * m ≤ 20000 * 8 := Nat.mul_le_mul (by omega) (by omega)
    rw [List.length_append, rowW_len]
    omega
  have hcap : ls.length * m ≤ 20000 * 8 := Nat.mul_le_mul (by omega) (by omega)
  have hcap2 : (ls.length : Int) * (m : Int) = ((ls.length * m : Nat) : Int) := by simp
  have hw1 : IntKind.i64.wrap ((ls.length : Int) * (m : Int)) = ((ls.length * m : Nat) : Int) := by
    rw [hcap2]; exact IntWalk.i64_in _ (by omega)
  obtain ⟨a0, c0, rfl, hx1, hx2⟩ := hown.form
  unfold maxLen at hx2
  have HO := Lib.hid hown
  clear hown hl hg hcap2 hcall
  generalize hcp : ls.length * m = cap at *
  clear hcp
  go_enter Try.func91, Try.ntmps91
  go_wp2_with (at_make; refine wp_makeWo w rfl _ _ rfl cap _ rfl rfl (by first | exact hw1 | simp) (by omega) ?_; intro w1 hown1 hbel1)
  go_loopw [7, 18] (fun o i wr => ∃ q : Nat, q ≤ ls.length ∧ i = .int .i64 q ∧ OwnWo w.heap.size wr o (allW g ls m q) ∧ Below w.heap.size w wr) (fun _ i _ => ls.length - (intOf i).toNat)
  case atStart => exact ⟨0, by omega, rfl, by simpa [allW] using hown1, hbel1⟩
  case round =>
    clear hown1 hbel1
    obtain ⟨q, hq, rfl, hown, hbel⟩ := hrel
    generalize wr = wc at *
    by_cases hlt : q < ls.length
    · obtain ⟨gb, rfl, hy1, hy2, hy3, hrg⟩ := (HO.out.below hbel).at (by omega)
      have hr := hrg q hlt
      have hsuc := HGS.out q hlt
      have hl8 := HL8.out q hlt
      have hi8 := fun k => HI8.out q k hlt
      have hwn := fun k w hk => HWN.out q k w hlt hk
      have hbd := fun k hk => HBD.out q k (ls.getD q []) hq hk
      generalize ls.getD q [] = t at *
      generalize allW g ls m q = S at *
      have hsz := hbel.size
      have hst := hown.lt
      have HR := Lib.hid hr; have HOQ := Lib.hid hown; have HBE := Lib.hid hbel; have HSU := Lib.hid hsuc; have HT8 := Lib.hid hl8; have HN8 := Lib.hid hi8; have HCL := Lib.hid hwn; have HB2 := Lib.hid hbd; have HST := Lib.hid hst
      clear hy1 hy2 hy3 hrg hr hown hbel hsuc hl8 hi8 hwn hbd hst
      go_wp2_with (first
        | (with_reducible refine boxWo_load rfl (.tmp 20) rfl gb (q * 25) t HT8.out rfl HR.out ?_)
        | ((with_reducible refine wp_storeNewWd rfl (.tmp 9) (.tmp 21) rfl _ t (idxW t) HT8.out (idxW_length t) rfl rfl ?_); intro w5 hs5 hb5; have HS5 := Lib.hid hs5; have HB5 := Lib.hid hb5; clear hs5 hb5))
      go_loopw [7, 23] (fun o i wr => ∃ k : Nat, k ≤ m ∧ i = .int .i64 k ∧ OwnWo w.heap.size wr o (S ++ rowW g t k) ∧ WdIn wr wc.heap.size t (idxW t) ∧ (∀ k, o.ownBlock = some k → k ≠ wc.heap.size) ∧ wc.heap.size < wr.heap.size ∧ Below w.heap.size w wr) (fun _ i _ => m - (intOf i).toNat)
      case atStart => exact ⟨0, by omega, rfl, by simpa [rowW] using HOQ.out.below HB5.out, HS5.out, fun k hk => by have := (HST.out k hk).2; omega, HS5.out.lt, Below.step HBE.out HB5.out⟩
      case round =>
        clear HOQ HST HBE HS5 HB5
        obtain ⟨k, hk, rfl, hown, hstk, hst, hlt2, hbel⟩ := hrel
        generalize wr = wd at *
        have hsz2 := hbel.size
        by_cases hlk : k < m
        · have HO2 := Lib.hid hown; have HBE := Lib.hid hbel; have HSK := Lib.hid hstk; have HST := Lib.hid hst
          have HLT : Hid ((S ++ rowW g t k).length ≤ 200000) := HB2.out k (by omega)
          have HR2 := Lib.hid (fun w => HCL.out k w hlk)
          have HN := Lib.hid (HN8.out k hlk)
          have HX : Hid (rowW g t (k + 1) = rowW g t k ++ [g t k]) := rowW_succ g t k
          clear hown hbel hstk hst
          go_wp2_with (first
            | (with_reducible refine wp_loadWd rfl (.tmp 9) rfl wc.heap.size t (idxW t) HT8.out (idxW_length t) rfl HSK.out ?_)
            | (go_at_call 92; ((with_reducible refine (HR2.out _).mono ?_); rintro e w2 ⟨rfl, hb2⟩; have HB6 := Lib.hid hb2; have hs6 := hb2.size; clear hb2))
            | (with_reducible refine wp_buildWo _ rfl (.tmp 30) rfl (g t k) HN.out rfl ?_)
            | (at_builtin; refine wp_appendWo _ rfl (.tmp 26) (.tmp 31) rfl w.heap.size w2.heap.size 1 1 _ (S ++ rowW g t k) [g t k] rfl rfl rfl (fun j hj => builtWo w2 (g t k) HN.out j (by simpa using hj)) ((HO2.out.below HB6.out).below (Below.alloc1 _ _)) (by have := HLT.out; simp only [List.length_cons, List.length_nil]; omega) (by simp; omega) ?_; intro o' w3 ho3 hg3 hb3 hw3; have HO3 := Lib.hid ho3; have HB3 := Lib.hid (chain1 HBE.out hsz2 HB6.out hb3); have HS3 := Lib.hid (WdIn.grownO ((HSK.out.below HB6.out).below (Below.alloc1 _ _)) hg3 (fun h => HST.out _ h.symm rfl)); have HW3 := Lib.hid hw3; have hs3 := hg3.size; clear ho3 hg3 hb3 hw3))
          go_roundw
          case rel =>
            refine ⟨k + 1, by omega, by go_num, by rw [HX.out, ← List.append_assoc]; exact HO3.out, HS3.out, fun j hj => ?_, by simp at hs3; omega, HB3.out⟩
            rcases HW3.out j hj with h | h
            · exact HST.out j h
            · simp at h; omega
          case measure => simp [intOf]; omega
        · obtain rfl : k = m := by omega
          go_wp2
          go_roundw
          case rel => exact ⟨q + 1, by omega, by go_num, by rw [HSU.out]; exact hown, hbel⟩
          case measure => simp [intOf]; omega
    · obtain rfl : q = ls.length := by omega
      obtain ⟨a5, c5, rfl, _⟩ := hown.form
      go_wp2
      go_ret
      exact ⟨_, rfl, hown, hbel⟩

set_option maxHeartbeats 2000000 in
set_option maxRecDepth 100000 in
theorem chosenOpen_any (ls : List (List Int)) (hgd : ∀ k, k < ls.length → (ls.getD k []).length ≤ 12) (hn : ls.length ≤ 200000) (B : Nat) (w : World) (v : Value) (hown : OwnWo B w v ls) :
    Calls Try.prog 90 #[v, .func (.methodOf 72 "loop.example/g01126/impl.isOpen") #[] #[]] w (MadeWo w (ls.filter openW1)) := by
  have HCK := Lib.hid (fun k (hk : k < ls.length) w => isOpen_any (ls.getD k []) w (hgd k hk))
  have HGL := Lib.hid hgd
  have HFT := Lib.hid (fun k => filter_take_succ openW1 ls k)
  have HFL : Hid (∀ k, ((ls.take k).filter openW1).length ≤ ls.length) := fun k => Nat.le_trans (List.length_filter_le _ _) (by rw [List.length_take]; omega)
  have hfl : ls.filter openW1 = (ls.take ls.length).filter openW1 := by rw [List.take_length]
  rw [hfl]
  clear hfl hgd
  obtain ⟨a0, c0, rfl, hx1, hx2⟩ := hown.form
  unfold maxLen at hx2
  have HO := Lib.hid hown
  clear hown
  go_enter Try.func90, Try.ntmps90
  go_wp2_with fail
  go_loopw [5, 10] (fun o i wr => ∃ k : Nat, k ≤ ls.length ∧ i = .int .i64 (k : Int) ∧ OwnWo w.heap.size wr o ((ls.take k).filter openW1) ∧ Below w.heap.size w wr) (fun _ i _ => ls.length - (intOf i).toNat)
  case atStart => exact ⟨0, by omega, rfl, OwnWo.nil _ _, Below.refl _ _⟩
  case round =>
    obtain ⟨k, hk, rfl, hown, hbel⟩ := hrel
    generalize wr = wc at *
    by_cases hlt : k < ls.length
    · obtain ⟨g, rfl, hy1, hy2, hy3, hrg⟩ := (HO.out.below hbel).at (by omega)
      have hr := hrg k hlt
      have hsuc := HFT.out k hlt
      have hle := HFL.out k
      have hcall := fun w => (HCK.out k hlt w)
      have hgl := HGL.out k hlt
      have hM : (firstCrs (ls.getD k [])).isNone = openW1 (ls.getD k []) := rfl
      rw [hM] at hcall
      clear hM
      generalize ls.getD k [] = t at *
      generalize openW1 t = M at *
      generalize (ls.take k).filter openW1 = S at *
      have HR := Lib.hid hr; have HCL := Lib.hid hcall; have HOQ := Lib.hid hown; have HBE := Lib.hid hbel; have HSU := Lib.hid hsuc; have HGL2 := Lib.hid hgl
      have HIX : Hid ((idxW t).length = 12) := idxW_length t
      have hsz := hbel.size
      clear hy1 hy2 hy3 hrg hr hcall hown hbel hsuc hgl
      cases M with
      | true =>
        go_wp2_with (first
          | (with_reducible refine boxWo_load rfl (.tmp 12) rfl g (k * 25) t HGL2.out rfl HR.out ?_)
          | ((with_reducible refine wp_storeNewWd rfl (.tmp 7) (.tmp 13) rfl _ t (idxW t) HGL2.out HIX.out rfl rfl ?_); intro w5 hs5 hb5; have HS5 := Lib.hid hs5; have HB5 := Lib.hid hb5; clear hs5 hb5)
          | (with_reducible refine wp_loadWd rfl (.tmp 7) rfl wc.heap.size t (idxW t) HGL2.out HIX.out rfl HS5.out ?_)
          | (rw [metcall_isOpen HGL2.out HIX.out, Oper.upon_enter])
          | (go_at_call 93; ((with_reducible refine (HCL.out _).mono ?_); rintro e w6 ⟨rfl, hb6⟩; have HS6 := Lib.hid (HS5.out.below hb6); have HB6 := Lib.hid (Below.step HB5.out hb6); clear hb6))
          | (with_reducible refine wp_loadWd rfl (.tmp 7) rfl wc.heap.size t (idxW t) HGL2.out HIX.out rfl HS6.out ?_)
          | (with_reducible refine wp_buildWo _ rfl (.tmp 18) rfl t HGL2.out rfl ?_)
          | (at_builtin; refine wp_appendWo _ rfl (.tmp 17) (.tmp 19) rfl w.heap.size w6.heap.size 1 1 _ S [t] rfl rfl rfl (fun j hj => builtWo w6 t HGL2.out j (by simpa using hj)) ((HOQ.out.below HB6.out).below (Below.alloc1 _ _)) (by simp only [List.length_cons, List.length_nil]; omega) (by have := HB6.out.size; simp; omega) ?_; intro o' w7 ho7 hg7 hb7 hw7; have HO7 := Lib.hid ho7; have HB7 := Lib.hid (chain1 HBE.out hsz HB6.out hb7); clear ho7 hg7 hb7 hw7))
        go_roundw
        case rel => exact ⟨k + 1, by omega, by go_num, by rw [HSU.out]; exact HO7.out, HB7.out⟩
        case measure => simp [intOf]; omega
      | false =>
        go_wp2_with (first
          | (with_reducible refine boxWo_load rfl (.tmp 12) rfl g (k * 25) t HGL2.out rfl HR.out ?_)
          | ((with_reducible refine wp_storeNewWd rfl (.tmp 7) (.tmp 13) rfl _ t (idxW t) HGL2.out HIX.out rfl rfl ?_); intro w5 hs5 hb5; have HS5 := Lib.hid hs5; have HB5 := Lib.hid hb5; clear hs5 hb5)
          | (with_reducible refine wp_loadWd rfl (.tmp 7) rfl wc.heap.size t (idxW t) HGL2.out HIX.out rfl HS5.out ?_)
          | (rw [metcall_isOpen HGL2.out HIX.out, Oper.upon_enter])
          | (go_at_call 93; ((with_reducible refine (HCL.out _).mono ?_); rintro e w6 ⟨rfl, hb6⟩; have HB6 := Lib.hid (Below.step HB5.out hb6); clear hb6)))
        go_roundw
        case rel => exact ⟨k + 1, by omega, by go_num, by rw [HSU.out]; simpa using HOQ.out.below HB6.out, Below.step HBE.out HB6.out⟩
        case measure => simp [intOf]; omega
    · obtain rfl : k = ls.length := by omega
      obtain ⟨a5, c5, rfl, _⟩ := hown.form
      have HOQ := Lib.hid hown; have HBE := Lib.hid hbel
      clear hown hbel
      go_wp2_with fail
      go_ret
      exact ⟨_, rfl, HOQ.out, HBE.out⟩

set_option maxHeartbeats 2000000 in
set_option maxRecDepth 100000 in
theorem listsWo_any (ls : List (List Int)) (hgd : ∀ k, k < ls.length → (ls.getD k []).length ≤ 12) (hn : ls.length ≤ 200000) (B : Nat) (w : World) (v : Value) (hown : OwnWo B w v ls) :
    Calls Try.prog 56 #[v] w (MadeLL w ls) := by
  have HLC := Lib.hid (fun k (hk : k < ls.length) w => list_pts (ls.getD k []) w (hgd k hk))
  have HGL := Lib.hid hgd
  have HTS : Hid (∀ k, k < ls.length → ls.take (k + 1) = ls.take k ++ [ls.getD k []]) := fun k hk => by
    rw [List.take_succ_eq_append_getElem hk]
    simp [List.getD, hk]
  clear hgd
  obtain ⟨a0, c0, rfl, hx1, hx2⟩ := hown.form
  unfold maxLen at hx2
  have HO := Lib.hid hown
  clear hown
  go_enter Try.func56, Try.ntmps56
  go_wp2_with fail
  go_loopw [3, 8] (fun o i wr => ∃ (k : Nat) (vs : List Value), k ≤ ls.length ∧ i = .int .i64 (k : Int) ∧ OwnLL w.heap.size wr.heap.size wr o vs (ls.take k) ∧ Below w.heap.size w wr) (fun _ i _ => ls.length - (intOf i).toNat)
  case atStart => exact ⟨0, [], by omega, rfl, OwnLL.nil _ _ (Nat.le_refl _), Below.refl _ _⟩
  case round =>
    obtain ⟨k, vs, hk, rfl, hown, hbel⟩ := hrel
    generalize wr = wc at *
    by_cases hlt : k < ls.length
    · obtain ⟨g, rfl, hy1, hy2, hy3, hrg⟩ := (HO.out.below hbel).at (by omega)
      have hr := hrg k hlt
      have hts := HTS.out k hlt
      have hcall := HLC.out k hlt
      have hgl := HGL.out k hlt
      have HLT : Hid ((ls.take k).length ≤ ls.length) := by show _ ≤ _; rw [List.length_take]; omega
      generalize ls.getD k [] = t at *
      generalize ls.take k = S at *
      have HIX : Hid ((idxW t).length = 12) := idxW_length t
      have HR := Lib.hid hr; have HCL := Lib.hid hcall; have HOQ := Lib.hid hown; have HBE := Lib.hid hbel; have HTS2 := Lib.hid hts; have HGL2 := Lib.hid hgl
      have hsz := hbel.size
      clear hy1 hy2 hy3 hrg hr hcall hown hbel hts hgl
      go_wp2_with (first
        | (with_reducible refine boxWo_load rfl (.tmp 10) rfl g (k * 25) t HGL2.out rfl HR.out ?_)
        | ((with_reducible refine wp_storeNewWd rfl (.tmp 5) (.tmp 11) rfl _ t (idxW t) HGL2.out HIX.out rfl rfl ?_); intro w5 hs5 hb5; have HS5 := Lib.hid hs5; have HB5 := Lib.hid hb5; clear hs5 hb5)
        | (with_reducible refine wp_loadWd rfl (.tmp 5) rfl wc.heap.size t (idxW t) HGL2.out HIX.out rfl HS5.out ?_)
        | (rw [metcall_list HGL2.out HIX.out, Oper.upon_enter])
        | fail)
      show Calls Try.prog 135 #[.agg (ptC t)] _ _
      refine (HCL.out _).mono ?_
      rintro e w6 ⟨p, rfl, hp, hb6⟩
      have HP := Lib.hid hp; have HB6 := Lib.hid (Below.step HB5.out hb6); have HZ5 := Lib.hid HB5.out.size; have HZ6 := Lib.hid hb6.size
      obtain ⟨p1, p2, p3, rfl⟩ := hp.form'
      clear hp hb6
      go_wp2_with (at_builtin; refine wp_appendLL _ rfl (.tmp 12) (.tmp 16) rfl w.heap.size wc.heap.size w5.heap.size w6.heap.size _ (.slice p1 p2 p3) vs S t rfl rfl (cell_lit1 _ _ _) (OwnLL.below HOQ.out (HB6.out.alloc HB6.out.size _)) (Own.below HP.out (Below.alloc1 _ _)) HZ5.out (by have := HZ5.out; omega) (by have := HLT.out; omega) (by have := HB6.out.size; simp; omega) ?_; intro v' w7 hown7 hgr7 hbel7 _; have HO7 := Lib.hid hown7; have HB7 := Lib.hid (chain1 HBE.out hsz HB6.out hbel7); clear hown7 hgr7 hbel7)
      go_roundw
      case rel => exact ⟨k + 1, _, by omega, by go_num, by rw [HTS2.out]; exact HO7.out, HB7.out⟩
      case measure => simp [intOf]; omega
    · obtain rfl : k = ls.length := by omega
      rw [List.take_length] at hown
      obtain ⟨a5, c5, rfl, _⟩ := hown.form
      have HOQ := Lib.hid hown; have HBE := Lib.hid hbel
      clear hown hbel
      go_wp2_with fail
      go_ret
      exact ⟨_, vs, rfl, HOQ.out, HBE.out⟩

end Go.Proofs.Yteeoepbbocdchaa
