/- The program's lists of stacks, made of each source and each number. -/
import Derived.Test.YtnkkgbecdckigaaAdded
import Derived.Test.YtnkkgbecdckigaaFoldMoves
namespace Go.Proofs.Ytnkkgbecdckigaa
open Go.RowKit
set_option linter.unusedSimpArgs false
set_option linter.unusedVariables false

def rowG (g : List Int → Nat → List Int) (l : List Int) (m : Nat) : List (List Int) := (List.range m).map (g l)
def allG (g : List Int → Nat → List Int) (ls : List (List Int)) (m q : Nat) : List (List Int) := (ls.take q).flatMap fun l => rowG g l m
theorem rowG_succ (g : List Int → Nat → List Int) (l : List Int) (k : Nat) : rowG g l (k + 1) = rowG g l k ++ [g l k] := by
  unfold rowG
  rw [List.range_succ, List.map_append]
  rfl
theorem rowG_len (g : List Int → Nat → List Int) (l : List Int) (k : Nat) : (rowG g l k).length = k := by simp [rowG]
theorem allG_succ (g : List Int → Nat → List Int) (ls : List (List Int)) (m q : Nat) (h : q < ls.length) : allG g ls m (q + 1) = allG g ls m q ++ rowG g (ls.getD q []) m := by
  unfold allG
  rw [List.take_succ_eq_append_getElem h, List.flatMap_append]
  simp [List.getD, h]
theorem allG_len (g : List Int → Nat → List Int) (ls : List (List Int)) (m : Nat) : ∀ q, (allG g ls m q).length ≤ q * m
  | 0 => by simp [allG]
  | q + 1 => by
    have := allG_len g ls m q
    by_cases h : q < ls.length
    · rw [allG_succ g ls m q h, List.length_append, rowG_len, Nat.succ_mul]; omega
    · have e : allG g ls m (q + 1) = allG g ls m q := by unfold allG; rw [List.take_of_length_le (by omega), List.take_of_length_le (by omega)]
      rw [e, Nat.succ_mul]; omega

set_option maxHeartbeats 2000000 in
set_option maxRecDepth 100000 in
theorem madeWith_any (g : List Int → Nat → List Int) (ls : List (List Int)) (m : Nat) (hm8 : m ≤ 8) (hl : ∀ k, k < ls.length → (ls.getD k []).length ≤ 8) (hg : ∀ q k, q < ls.length → k < m → (g (ls.getD q []) k).length ≤ 8) (hn : ls.length ≤ 20000)
    (hcall : ∀ (q k : Nat) (w : World), q < ls.length → k < m → Calls Try.prog 53 #[.agg (stkC (ls.getD q [])), .int .i64 (k : Int)] w (StkRet w (g (ls.getD q []) k))) (B : Nat) (w : World) (v : Value) (hown : OwnK B w v ls) :
    Calls Try.prog 52 #[v, .int .i64 (m : Int), .func (.func 53) #[] #[]] w (MadeK w (allG g ls m ls.length)) := by
  have HWN := Lib.hid hcall
  have HGS := Lib.hid (fun q (hq : q < ls.length) => allG_succ g ls m q hq)
  have HL8 := Lib.hid hl
  have HI8 := Lib.hid hg
  have HBD : Hid (∀ q k l, q ≤ ls.length → k ≤ m → (allG g ls m q ++ rowG g l k).length ≤ 200000) := fun q k l hq hk => by
    have h1 := allG_len g ls m q
    have h2 : q * m ≤ 20000 * 8 := Nat.mul_le_mul (by omega) (by omega)
    rw [List.length_append, rowG_len]
    omega
  have hcap : ls.length * m ≤ 20000 * 8 := Nat.mul_le_mul (by omega) (by omega)
  have hcap2 : (ls.length : Int) * (m : Int) = ((ls.length * m : Nat) : Int) := by simp
  have hw1 : IntKind.i64.wrap ((ls.length : Int) * (m : Int)) = ((ls.length * m : Nat) : Int) := by
    rw [hcap2]; exact IntWalk.i64_in _ (by omega)
  obtain ⟨a0, c0, rfl, hx1, hx2⟩ := hown.form
  unfold maxLen at hx2
  have HO := Lib.hid hown
  clear hown hl hg hcap2 hcall
  generalize hcp : ls.length * m = cap at *
  clear hcp
  go_enter Try.func52, Try.ntmps52
  go_wp2_with (at_make; refine wp_makeK w rfl _ _ rfl cap _ rfl rfl (by first | exact hw1 | simp) (by omega) ?_; intro w1 hown1 hbel1)
  go_loopw [7, 18] (fun o i wr => ∃ q : Nat, q ≤ ls.length ∧ i = .int .i64 q ∧ OwnK w.heap.size wr o (allG g ls m q) ∧ Below w.heap.size w wr) (fun _ i _ => ls.length - (intOf i).toNat)
  case atStart => exact ⟨0, by omega, rfl, by simpa [allG] using hown1, hbel1⟩
  case round =>
    clear hown1 hbel1
    obtain ⟨q, hq, rfl, hown, hbel⟩ := hrel
    generalize wr = wc at *
    by_cases hlt : q < ls.length
    · obtain ⟨gb, rfl, hy1, hy2, hy3, hrg⟩ := (HO.out.below hbel).at (by omega)
      have hr := hrg q hlt
      have hsuc := HGS.out q hlt
      have hl8 := HL8.out q hlt
      have hi8 := fun k => HI8.out q k hlt
      have hwn := fun k w hk => HWN.out q k w hlt hk
      have hbd := fun k hk => HBD.out q k (ls.getD q []) hq hk
      generalize ls.getD q [] = t at *
      generalize allG g ls m q = S at *
      have hsz := hbel.size
      have hst := hown.lt
      have HR := Lib.hid hr; have HOQ := Lib.hid hown; have HBE := Lib.hid hbel; have HSU := Lib.hid hsuc; have HT8 := Lib.hid hl8; have HN8 := Lib.hid hi8; have HCL := Lib.hid hwn; have HB2 := Lib.hid hbd; have HST := Lib.hid hst
      clear hy1 hy2 hy3 hrg hr hown hbel hsuc hl8 hi8 hwn hbd hst
      go_wp2_with (first
        | (with_reducible refine boxK_load rfl (.tmp 20) rfl gb (q * 9) t HT8.out rfl HR.out ?_)
        | ((with_reducible refine wp_storeNewStk rfl (.tmp 9) (.tmp 21) rfl _ t HT8.out rfl rfl ?_); intro w5 hs5 hb5; have HS5 := Lib.hid hs5; have HB5 := Lib.hid hb5; clear hs5 hb5))
      go_loopw [7, 23] (fun o i wr => ∃ k : Nat, k ≤ m ∧ i = .int .i64 k ∧ OwnK w.heap.size wr o (S ++ rowG g t k) ∧ StkIn wr wc.heap.size t ∧ (∀ k, o.ownBlock = some k → k ≠ wc.heap.size) ∧ wc.heap.size < wr.heap.size ∧ Below w.heap.size w wr) (fun _ i _ => m - (intOf i).toNat)
      case atStart => exact ⟨0, by omega, rfl, by simpa [rowG] using HOQ.out.below HB5.out, HS5.out, fun k hk => by have := (HST.out k hk).2; omega, HS5.out.lt, Below.step HBE.out HB5.out⟩
      case round =>
        clear HOQ HST HBE HS5 HB5
        obtain ⟨k, hk, rfl, hown, hstk, hst, hlt2, hbel⟩ := hrel
        generalize wr = wd at *
        have hsz2 := hbel.size
        by_cases hlk : k < m
        · have HO2 := Lib.hid hown; have HBE := Lib.hid hbel; have HSK := Lib.hid hstk; have HST := Lib.hid hst
          have HLT : Hid ((S ++ rowG g t k).length ≤ 200000) := HB2.out k (by omega)
          have HR2 := Lib.hid (fun w => HCL.out k w hlk)
          have HN := Lib.hid (HN8.out k hlk)
          have HX : Hid (rowG g t (k + 1) = rowG g t k ++ [g t k]) := rowG_succ g t k
          clear hown hbel hstk hst
          go_wp2_with (first
            | (with_reducible refine wp_loadStk rfl (.tmp 9) rfl wc.heap.size t HT8.out rfl HSK.out ?_)
            | (go_at_call 53; ((with_reducible refine (HR2.out _).mono ?_); rintro e w2 ⟨rfl, hb2⟩; have HB6 := Lib.hid hb2; have hs6 := hb2.size; clear hb2))
            | (with_reducible refine wp_buildK _ rfl (.tmp 30) rfl (g t k) HN.out rfl ?_)
            | (at_builtin; refine wp_appendK _ rfl (.tmp 26) (.tmp 31) rfl w.heap.size w2.heap.size 1 1 _ (S ++ rowG g t k) [g t k] rfl rfl rfl (fun j hj => builtK w2 (g t k) HN.out j (by simpa using hj)) ((HO2.out.below HB6.out).below (Below.alloc1 _ _)) (by have := HLT.out; simp only [List.length_cons, List.length_nil]; omega) (by simp; omega) ?_; intro o' w3 ho3 hg3 hb3 hw3; have HO3 := Lib.hid ho3; have HB3 := Lib.hid (chain1 HBE.out hsz2 HB6.out hb3); have HS3 := Lib.hid (StkIn.grownO ((HSK.out.below HB6.out).below (Below.alloc1 _ _)) hg3 (fun h => HST.out _ h.symm rfl)); have HW3 := Lib.hid hw3; have hs3 := hg3.size; clear ho3 hg3 hb3 hw3))
          go_roundw
          case rel =>
            refine ⟨k + 1, by omega, by go_num, by rw [HX.out, ← List.append_assoc]; exact HO3.out, HS3.out, fun j hj => ?_, by simp at hs3; omega, HB3.out⟩
            rcases HW3.out j hj with h | h
            · exact HST.out j h
            · simp at h; omega
          case measure => simp [intOf]; omega
        · obtain rfl : k = m := by omega
          go_wp2
          go_roundw
          case rel => exact ⟨q + 1, by omega, by go_num, by rw [HSU.out]; exact hown, hbel⟩
          case measure => simp [intOf]; omega
    · obtain rfl : q = ls.length := by omega
      obtain ⟨a5, c5, rfl, _⟩ := hown.form
      go_wp2
      go_ret
      exact ⟨_, rfl, hown, hbel⟩

set_option maxHeartbeats 2000000 in
set_option maxRecDepth 100000 in
theorem madeTurned_any (g : List Int → Nat → List Int) (ls : List (List Int)) (m : Nat) (hm8 : m ≤ 8) (hl : ∀ k, k < ls.length → (ls.getD k []).length ≤ 8) (hg : ∀ q k, q < ls.length → k < m → (g (ls.getD q []) k).length ≤ 8) (hn : ls.length ≤ 20000)
    (hcall : ∀ (q k : Nat) (w : World), q < ls.length → k < m → Calls Try.prog 63 #[.agg (stkC (ls.getD q [])), .int .i64 (k : Int)] w (StkRet w (g (ls.getD q []) k))) (B : Nat) (w : World) (v : Value) (hown : OwnK B w v ls) :
    Calls Try.prog 52 #[v, .int .i64 (m : Int), .func (.func 63) #[] #[]] w (MadeK w (allG g ls m ls.length)) := by
  have HWN := Lib.hid hcall
  have HGS := Lib.hid (fun q (hq : q < ls.length) => allG_succ g ls m q hq)
  have HL8 := Lib.hid hl
  have HI8 := Lib.hid hg
  have HBD : Hid (∀ q k l, q ≤ ls.length → k ≤ m → (allG g ls m q ++ rowG g l k).length ≤ 200000) := fun q k l hq hk => by
    have h1 := allG_len g ls m q
    have h2 : q * m ≤ 20000 * 8 := Nat.mul_le_mul (by omega) (by omega)
    rw [List.length_append, rowG_len]
    omega
  have hcap : ls.length * m ≤ 20000 * 8 := Nat.mul_le_mul (by omega) (by omega)
  have hcap2 : (ls.length : Int) * (m : Int) = ((ls.length * m : Nat) : Int) := by simp
  have hw1 : IntKind.i64.wrap ((ls.length : Int) * (m : Int)) = ((ls.length * m : Nat) : Int) := by
    rw [hcap2]; exact IntWalk.i64_in _ (by omega)
  obtain ⟨a0, c0, rfl, hx1, hx2⟩ := hown.form
  unfold maxLen at hx2
  have HO := Lib.hid hown
  clear hown hl hg hcap2 hcall
  generalize hcp : ls.length * m = cap at *
  clear hcp
  go_enter Try.func52, Try.ntmps52
  go_wp2_with (at_make; refine wp_makeK w rfl _ _ rfl cap _ rfl rfl (by first | exact hw1 | simp) (by omega) ?_; intro w1 hown1 hbel1)
  go_loopw [7, 18] (fun o i wr => ∃ q : Nat, q ≤ ls.length ∧ i = .int .i64 q ∧ OwnK w.heap.size wr o (allG g ls m q) ∧ Below w.heap.size w wr) (fun _ i _ => ls.length - (intOf i).toNat)
  case atStart => exact ⟨0, by omega, rfl, by simpa [allG] using hown1, hbel1⟩
  case round =>
    clear hown1 hbel1
    obtain ⟨q, hq, rfl, hown, hbel⟩ := hrel
    generalize wr = wc at *
    by_cases hlt : q < ls.length
    · obtain ⟨gb, rfl, hy1, hy2, hy3, hrg⟩ := (HO.out.below hbel).at (by omega)
      have hr := hrg q hlt
      have hsuc := HGS.out q hlt
      have hl8 := HL8.out q hlt
      have hi8 := fun k => HI8.out q k hlt
      have hwn := fun k w hk => HWN.out q k w hlt hk
      have hbd := fun k hk => HBD.out q k (ls.getD q []) hq hk
      generalize ls.getD q [] = t at *
      generalize allG g ls m q = S at *
      have hsz := hbel.size
      have hst := hown.lt
      have HR := Lib.hid hr; have HOQ := Lib.hid hown; have HBE := Lib.hid hbel; have HSU := Lib.hid hsuc; have HT8 := Lib.hid hl8; have HN8 := Lib.hid hi8; have HCL := Lib.hid hwn; have HB2 := Lib.hid hbd; have HST := Lib.hid hst
      clear hy1 hy2 hy3 hrg hr hown hbel hsuc hl8 hi8 hwn hbd hst
      go_wp2_with (first
        | (with_reducible refine boxK_load rfl (.tmp 20) rfl gb (q * 9) t HT8.out rfl HR.out ?_)
        | ((with_reducible refine wp_storeNewStk rfl (.tmp 9) (.tmp 21) rfl _ t HT8.out rfl rfl ?_); intro w5 hs5 hb5; have HS5 := Lib.hid hs5; have HB5 := Lib.hid hb5; clear hs5 hb5))
      go_loopw [7, 23] (fun o i wr => ∃ k : Nat, k ≤ m ∧ i = .int .i64 k ∧ OwnK w.heap.size wr o (S ++ rowG g t k) ∧ StkIn wr wc.heap.size t ∧ (∀ k, o.ownBlock = some k → k ≠ wc.heap.size) ∧ wc.heap.size < wr.heap.size ∧ Below w.heap.size w wr) (fun _ i _ => m - (intOf i).toNat)
      case atStart => exact ⟨0, by omega, rfl, by simpa [rowG] using HOQ.out.below HB5.out, HS5.out, fun k hk => by have := (HST.out k hk).2; omega, HS5.out.lt, Below.step HBE.out HB5.out⟩
      case round =>
        clear HOQ HST HBE HS5 HB5
        obtain ⟨k, hk, rfl, hown, hstk, hst, hlt2, hbel⟩ := hrel
        generalize wr = wd at *
        have hsz2 := hbel.size
        by_cases hlk : k < m
        · have HO2 := Lib.hid hown; have HBE := Lib.hid hbel; have HSK := Lib.hid hstk; have HST := Lib.hid hst
          have HLT : Hid ((S ++ rowG g t k).length ≤ 200000) := HB2.out k (by omega)
          have HR2 := Lib.hid (fun w => HCL.out k w hlk)
          have HN := Lib.hid (HN8.out k hlk)
          have HX : Hid (rowG g t (k + 1) = rowG g t k ++ [g t k]) := rowG_succ g t k
          clear hown hbel hstk hst
          go_wp2_with (first
            | (with_reducible refine wp_loadStk rfl (.tmp 9) rfl wc.heap.size t HT8.out rfl HSK.out ?_)
            | (go_at_call 63; ((with_reducible refine (HR2.out _).mono ?_); rintro e w2 ⟨rfl, hb2⟩; have HB6 := Lib.hid hb2; have hs6 := hb2.size; clear hb2))
            | (with_reducible refine wp_buildK _ rfl (.tmp 30) rfl (g t k) HN.out rfl ?_)
            | (at_builtin; refine wp_appendK _ rfl (.tmp 26) (.tmp 31) rfl w.heap.size w2.heap.size 1 1 _ (S ++ rowG g t k) [g t k] rfl rfl rfl (fun j hj => builtK w2 (g t k) HN.out j (by simpa using hj)) ((HO2.out.below HB6.out).below (Below.alloc1 _ _)) (by have := HLT.out; simp only [List.length_cons, List.length_nil]; omega) (by simp; omega) ?_; intro o' w3 ho3 hg3 hb3 hw3; have HO3 := Lib.hid ho3; have HB3 := Lib.hid (chain1 HBE.out hsz2 HB6.out hb3); have HS3 := Lib.hid (StkIn.grownO ((HSK.out.below HB6.out).below (Below.alloc1 _ _)) hg3 (fun h => HST.out _ h.symm rfl)); have HW3 := Lib.hid hw3; have hs3 := hg3.size; clear ho3 hg3 hb3 hw3))
          go_roundw
          case rel =>
            refine ⟨k + 1, by omega, by go_num, by rw [HX.out, ← List.append_assoc]; exact HO3.out, HS3.out, fun j hj => ?_, by simp at hs3; omega, HB3.out⟩
            rcases HW3.out j hj with h | h
            · exact HST.out j h
            · simp at h; omega
          case measure => simp [intOf]; omega
        · obtain rfl : k = m := by omega
          go_wp2
          go_roundw
          case rel => exact ⟨q + 1, by omega, by go_num, by rw [HSU.out]; exact hown, hbel⟩
          case measure => simp [intOf]; omega
    · obtain rfl : q = ls.length := by omega
      obtain ⟨a5, c5, rfl, _⟩ := hown.form
      go_wp2
      go_ret
      exact ⟨_, rfl, hown, hbel⟩

end Go.Proofs.Ytnkkgbecdckigaa
