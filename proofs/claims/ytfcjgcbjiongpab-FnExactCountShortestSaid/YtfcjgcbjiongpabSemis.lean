/- Lists of semi-meanders: the program's generic lists of systems, the model's spSemis. -/
import Derived.Test.YtfcjgcbjiongpabSysS
import Derived.Test.YtfcjgcbjiongpabSemi2
import Derived.Test.YtfcjgcbjiongpabFill
import Derived.Test.YtfcjgcbjiongpabClosing
import Derived.Test.YtfcjgcbjiongpabListsLaw
namespace Go.Proofs.Ytfcjgcbjiongpab
open Go.RowKit
set_option linter.unusedSimpArgs false
set_option linter.unusedVariables false

def semisL (n : Nat) : List (List Int) := (allL n).filter semiB

set_option maxHeartbeats 2000000 in
set_option maxRecDepth 100000 in
theorem madeSys_any (n : Nat) (hn : n ≤ 6) (w : World) (b : Nat) (hb : w.cell? ⟨b, 0, none⟩ = some (.int .i64 (n : Int))) :
    Calls Try.prog 72 #[.slice (some ⟨b, 0, none⟩) 1 1, .int .i64 (catN n : Int), .func (.func 74) #[] #[]] w (MadeS w (allL n)) := by
  have hSR := Lib.hid (fun (r : Nat) (w : World) (hr : r < catN n) => systemRanked_any n r w hn hr)
  have hcb := (catN_bd n hn).2
  have HLL := Lib.hid (allL_length hn)
  have HGT := Lib.hid (fun r (hr : r < catN n) => allL_get hn hr)
  have HL12 : Hid (∀ r, (rankedL n r).length ≤ 12) := fun r => by rw [rankedL_length]; omega
  generalize catN n = m at *
  have HTS : Hid (∀ k, k < m → (allL n).take (k + 1) = (allL n).take k ++ [rankedL n k]) := fun k hk => by
    rw [← HGT.out k hk, List.take_succ_eq_append_getElem (by rw [HLL.out]; exact hk)]
    simp [List.getD, HLL.out, hk]
  generalize allL n = L at *
  have hw1 : IntKind.i64.wrap (m : Int) = (m : Int) := IntWalk.i64_in _ (by omega)
  have HBC := Lib.hid hb
  clear hb
  go_enter Try.func72, Try.ntmps72
  go_wp2_with (at_make; refine wp_makeS w rfl _ _ rfl m _ rfl rfl (by simp) (by omega) ?_; intro w1 hown1 hbel1)
  go_loopw [7, 18] (fun o i wr => ∃ q : Nat, q ≤ 1 ∧ i = .int .i64 q ∧ OwnS w.heap.size wr o (L.take (q * m)) ∧ Below w.heap.size w wr) (fun _ i _ => 1 - (intOf i).toNat)
  case atStart => exact ⟨0, by omega, rfl, by simpa using hown1, hbel1⟩
  case round =>
    clear hown1 hbel1
    obtain ⟨q, hq, rfl, hown, hbel⟩ := hrel
    by_cases hlt : q < 1
    · obtain rfl : q = 0 := by omega
      rw [show (Value.int .i64 ((0 : Nat) : Int)) = .int .i64 0 from rfl]
      have hsrc : wr.cell? ⟨b, 0, none⟩ = some (.int .i64 (n : Int)) := (hbel.cell (p := ⟨b, 0, none⟩) (World.block_lt_of_cell? w _ HBC.out)).trans HBC.out
      have HO := Lib.hid hown; have HBE := Lib.hid hbel
      clear hown hbel
      go_wp2
      go_loopw [7, 23] (fun o i wr => ∃ k : Nat, k ≤ m ∧ i = .int .i64 k ∧ OwnS w.heap.size wr o (L.take k) ∧ Below w.heap.size w wr) (fun _ i _ => m - (intOf i).toNat)
      case atStart => exact ⟨0, by omega, rfl, by simpa using HO.out, HBE.out⟩
      case round =>
        clear HO HBE hsrc
        obtain ⟨k, hk, rfl, hown, hbel⟩ := hrel
        have hsz := hbel.size
        by_cases hlk : k < m
        · have HO := Lib.hid hown; have HBE := Lib.hid hbel
          have HLT : Hid ((L.take k).length ≤ 132) := by show _ ≤ 132; rw [List.length_take]; omega
          have HT2 := Lib.hid (HTS.out k hlk)
          have HR := Lib.hid (fun w => hSR.out k w hlk)
          clear hown hbel
          go_wp2_with (first
            | (go_at_call 74; ((with_reducible refine (HR.out _).mono ?_); rintro e w2 ⟨rfl, hb2⟩; have HB2 := Lib.hid hb2; clear hb2))
            | (with_reducible refine wp_buildS _ rfl (.tmp 30) rfl (rankedL n k) (HL12.out k) rfl ?_)
            | (at_builtin; refine wp_appendS _ rfl (.tmp 26) (.tmp 31) rfl w.heap.size w2.heap.size 1 1 _ (L.take k) [rankedL n k] rfl rfl rfl (fun j hj => builtS w2 (rankedL n k) (HL12.out k) j (by simpa using hj)) ((HO.out.below HB2.out).below (Below.alloc1 _ _)) (by have := HLT.out; simp only [List.length_cons, List.length_nil]; omega) (by have := HB2.out.size; simp; omega) ?_; intro o' w3 ho3 hg3 hb3 hw3; have HO3 := Lib.hid ho3; have HB3 := Lib.hid (chain1 HBE.out hsz HB2.out hb3); clear ho3 hg3 hb3 hw3))
          go_roundw
          case rel => exact ⟨k + 1, by omega, by go_num, by rw [HT2.out]; exact HO3.out, HB3.out⟩
          case measure => simp [intOf]; omega
        · obtain rfl : k = m := by omega
          go_wp2
          go_roundw
          case rel => exact ⟨1, by omega, by go_num, by simpa using hown, hbel⟩
          case measure => simp [intOf]
    · obtain rfl : q = 1 := by omega
      obtain ⟨a5, c5, rfl, _⟩ := hown.form
      go_wp2
      go_ret
      rw [Nat.one_mul, List.take_of_length_le (by rw [HLL.out]; exact Nat.le_refl _)] at hown
      have e : (L.take (1 * m)).length = L.length := by rw [Nat.one_mul, List.length_take, HLL.out]; omega
      rw [e]
      exact ⟨_, rfl, hown, hbel⟩

set_option maxHeartbeats 1000000 in
theorem systemsOf_any (n : Nat) (hn : n ≤ 6) (w : World) : Calls Try.prog 51 #[.int .i64 (n : Int)] w (MadeS w (allL n)) := by
  have hC := Lib.hid (fun w => catalan_any n hn w)
  rw [cat_N n hn] at hC
  have hM := Lib.hid (fun w b hb => madeSys_any n hn w b hb)
  generalize allL n = L at *
  go_enter Try.func51, Try.ntmps51
  go_wp2_with (first
    | (go_at_call 73; ((with_reducible refine (hC.out _).mono ?_); rintro e w' ⟨rfl, rfl⟩))
    | (go_at_call 72; ((refine (hM.out _ _ (cell_lit1 _ _ _)).mono ?_); rintro e w1 ⟨v1, rfl, ho1, hb1⟩; have HO1 := Lib.hid (ho1.mono (B' := w.heap.size) (by simp)); have HB1 := Lib.hid (Below.step (Below.alloc1 _ _) hb1); obtain ⟨a1, c1, rfl, _⟩ := ho1.form; clear ho1 hb1)))
  go_ret
  exact ⟨_, rfl, HO1.out, HB1.out⟩

set_option maxHeartbeats 2000000 in
set_option maxRecDepth 100000 in
theorem chosenSys_any (ls : List (List Int)) (hgd : ∀ k, k < ls.length → goodB (ls.getD k []) = true) (hn : ls.length ≤ 20000) (B : Nat) (w : World) (v : Value) (hown : OwnS B w v ls) :
    Calls Try.prog 50 #[v, .func (.func 79) #[] #[]] w (MadeS w (ls.filter semiB)) := by
  have HCK := Lib.hid (fun k (hk : k < ls.length) w => isSemi_any (ls.getD k []) w (hgd k hk))
  have HGL := Lib.hid (fun k (hk : k < ls.length) => good_len' (hgd k hk))
  have HFT := Lib.hid (fun k => filter_take_succ semiB ls k)
  have HFL : Hid (∀ k, ((ls.take k).filter semiB).length ≤ ls.length) := fun k => Nat.le_trans (List.length_filter_le _ _) (by rw [List.length_take]; omega)
  have hfl : ls.filter semiB = (ls.take ls.length).filter semiB := by rw [List.take_length]
  rw [hfl]
  clear hfl hgd
  obtain ⟨a0, c0, rfl, hx1, hx2⟩ := hown.form
  unfold maxLen at hx2
  have HO := Lib.hid hown
  clear hown
  go_enter Try.func50, Try.ntmps50
  go_wp2_with fail
  go_loopw [5, 10] (fun o i wr => ∃ k : Nat, k ≤ ls.length ∧ i = .int .i64 (k : Int) ∧ OwnS w.heap.size wr o ((ls.take k).filter semiB) ∧ Below w.heap.size w wr) (fun _ i _ => ls.length - (intOf i).toNat)
  case atStart => exact ⟨0, by omega, rfl, OwnS.nil _ _, Below.refl _ _⟩
  case round =>
    obtain ⟨k, hk, rfl, hown, hbel⟩ := hrel
    generalize wr = wc at *
    by_cases hlt : k < ls.length
    · obtain ⟨g, rfl, hy1, hy2, hy3, hrg⟩ := (HO.out.below hbel).at (by omega)
      have hr := hrg k hlt
      have hsuc := HFT.out k hlt
      have hle := HFL.out k
      have hcall := HCK.out k hlt
      have hgl := HGL.out k hlt
      generalize ls.getD k [] = t at *
      generalize semiB t = M at *
      generalize (ls.take k).filter semiB = S at *
      have HR := Lib.hid hr; have HCL := Lib.hid hcall; have HOQ := Lib.hid hown; have HBE := Lib.hid hbel; have HSU := Lib.hid hsuc; have HGL2 := Lib.hid hgl
      have hsz := hbel.size
      clear hy1 hy2 hy3 hrg hr hcall hown hbel hsuc hgl
      cases M with
      | true =>
        go_wp2_with (first
          | (with_reducible refine boxS_load rfl (.tmp 12) rfl g (k * 13) t HGL2.out rfl HR.out ?_)
          | ((with_reducible refine wp_storeNew rfl (.tmp 7) (.tmp 13) rfl _ t HGL2.out rfl rfl ?_); intro w5 hs5 hb5; have HS5 := Lib.hid hs5; have HB5 := Lib.hid hb5; clear hs5 hb5)
          | (with_reducible refine wp_loadSys rfl (.tmp 7) rfl wc.heap.size t HGL2.out rfl HS5.out ?_)
          | (go_at_call 79; ((with_reducible refine (HCL.out _).mono ?_); rintro e w6 ⟨rfl, hb6⟩; have HS6 := Lib.hid (HS5.out.below hb6); have HB6 := Lib.hid (Below.step HB5.out hb6); clear hb6))
          | (with_reducible refine wp_loadSys rfl (.tmp 7) rfl wc.heap.size t HGL2.out rfl HS6.out ?_)
          | (with_reducible refine wp_buildS _ rfl (.tmp 18) rfl t HGL2.out rfl ?_)
          | (at_builtin; refine wp_appendS _ rfl (.tmp 17) (.tmp 19) rfl w.heap.size w6.heap.size 1 1 _ S [t] rfl rfl rfl (fun j hj => builtS w6 t HGL2.out j (by simpa using hj)) ((HOQ.out.below HB6.out).below (Below.alloc1 _ _)) (by simp only [List.length_cons, List.length_nil]; omega) (by have := HB6.out.size; simp; omega) ?_; intro o' w7 ho7 hg7 hb7 hw7; have HO7 := Lib.hid ho7; have HB7 := Lib.hid (chain1 HBE.out hsz HB6.out hb7); clear ho7 hg7 hb7 hw7))
        go_roundw
        case rel => exact ⟨k + 1, by omega, by go_num, by rw [HSU.out]; exact HO7.out, HB7.out⟩
        case measure => simp [intOf]; omega
      | false =>
        go_wp2_with (first
          | (with_reducible refine boxS_load rfl (.tmp 12) rfl g (k * 13) t HGL2.out rfl HR.out ?_)
          | ((with_reducible refine wp_storeNew rfl (.tmp 7) (.tmp 13) rfl _ t HGL2.out rfl rfl ?_); intro w5 hs5 hb5; have HS5 := Lib.hid hs5; have HB5 := Lib.hid hb5; clear hs5 hb5)
          | (with_reducible refine wp_loadSys rfl (.tmp 7) rfl wc.heap.size t HGL2.out rfl HS5.out ?_)
          | (go_at_call 79; ((with_reducible refine (HCL.out _).mono ?_); rintro e w6 ⟨rfl, hb6⟩; have HB6 := Lib.hid (Below.step HB5.out hb6); clear hb6)))
        go_roundw
        case rel => exact ⟨k + 1, by omega, by go_num, by rw [HSU.out]; simpa using HOQ.out.below HB6.out, Below.step HBE.out HB6.out⟩
        case measure => simp [intOf]; omega
    · obtain rfl : k = ls.length := by omega
      obtain ⟨a5, c5, rfl, _⟩ := hown.form
      have HOQ := Lib.hid hown; have HBE := Lib.hid hbel
      clear hown hbel
      go_wp2_with fail
      go_ret
      exact ⟨_, rfl, HOQ.out, HBE.out⟩

set_option maxHeartbeats 1000000 in
theorem semisOf_any (n : Nat) (hn : n ≤ 6) (w : World) : Calls Try.prog 61 #[.int .i64 (n : Int)] w (MadeS w (semisL n)) := by
  have hM := Lib.hid (fun w => systemsOf_any n hn w)
  have hgd : ∀ k, k < (allL n).length → goodB ((allL n).getD k []) = true := fun k hk => (allL_good hn hk).1
  have hle : (allL n).length ≤ 20000 := by rw [allL_length hn]; have := (catN_bd n hn).2; omega
  have hX := Lib.hid (fun B w v ho => chosenSys_any (allL n) hgd hle B w v ho)
  unfold semisL
  generalize allL n = L at *
  clear hgd
  go_enter Try.func61, Try.ntmps61
  go_wp2_with (first
    | (go_at_call 51; ((with_reducible refine (hM.out _).mono ?_); rintro e w1 ⟨v1, rfl, ho1, hb1⟩; have HO1 := Lib.hid ho1; have HB1 := Lib.hid hb1; obtain ⟨a1, c1, rfl, _⟩ := ho1.form; clear ho1 hb1))
    | (go_at_call 50; ((refine (hX.out _ _ _ HO1.out).mono ?_); rintro e w2 ⟨v2, rfl, ho2, hb2⟩)))
  go_ret
  exact ⟨_, rfl, ho2.mono HB1.out.size, Below.step HB1.out hb2⟩

end Go.Proofs.Ytfcjgcbjiongpab
