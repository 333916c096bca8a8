/- Given rows of numbers: the program's readRows and the model's taRows. -/
import Derived.Test.YtgaaddfipkdlaabListsLaw
import Derived.Test.YtgaaddfipkdlaabTab
import Derived.Test.YtgaaddfipkdlaabGood
namespace Go.Proofs.Ytgaaddfipkdlaab
open Go.RowKit
set_option linter.unusedSimpArgs false
set_option linter.unusedVariables false

def limR (n : Nat) : Int := if n ≤ 5 then 100 else 16
theorem limR_few {n : Nat} (h : n ≤ 5) : limR n = 100 := by simp [limR, h]
theorem limR_many {n : Nat} (h : ¬ n ≤ 5) : limR n = 16 := by simp [limR, h]
def sqR (ls : List (List Int)) (k : Nat) : Bool := decide ((ls.getD k []).length = ls.length)
def wiR (m : Int) (ls : List (List Int)) (k : Nat) : Bool := allFrom (fun c => inB ((ls.getD k []).getD c 0) (-m) m) 0 (ls.getD k []).length
def sqB (ls : List (List Int)) : Bool := allFrom (sqR ls) 0 ls.length
def wiB (m : Int) (ls : List (List Int)) : Bool := allFrom (wiR m ls) 0 ls.length
def rowsB (ls : List (List Int)) : Bool := decide (1 ≤ ls.length ∧ ls.length ≤ 14) && (sqB ls && wiB (limR ls.length) ls)
theorem allFrom_both (f g : Nat → Bool) : ∀ (m k : Nat), allFrom (fun i => f i && g i) k m = (allFrom f k m && allFrom g k m)
  | 0, _ => rfl
  | m + 1, k => by
    simp only [allFrom]
    rw [allFrom_both f g m (k + 1)]
    cases f k <;> cases g k <;> cases allFrom f (k + 1) m <;> cases allFrom g (k + 1) m <;> rfl

theorem OwnLL.elem {lo hi : Nat} {w : World} {y1 : Option Addr} {y2 y3 : Nat} {l : List Int} (h : Own lo w (.slice y1 y2 y3) l) (c : Nat) (hc : c < l.length) :
    ∃ gr, y1 = some ⟨gr, 0, none⟩ ∧ l.length ≤ y3 ∧ y3 ≤ maxLen ∧ w.cell? ⟨gr, c, none⟩ = some (.int .i64 (l.getD c 0)) := by
  rcases h.shape with ⟨_, h0⟩ | ⟨g, cc, hv, _, _, q1, q2⟩
  · rw [h0] at hc; simp at hc
  · have e := hv; simp only [Value.slice.injEq] at e
    obtain ⟨rfl, _, rfl⟩ := e
    exact ⟨g, rfl, q1, q2, h.cellAt c hc⟩

set_option maxHeartbeats 1000000 in
theorem isSquare_any (lo hi : Nat) (v : Value) (vs : List Value) (ls : List (List Int)) (w : World) (h : OwnLL lo hi w v vs ls) :
    Calls Try.prog 76 #[v] w (BoolOut w (sqB ls)) := by
  obtain ⟨a, c, rfl, h1, h2⟩ := h.form
  obtain ⟨R, hR⟩ : ∃ R, sqB ls = R := ⟨_, rfl⟩
  rw [hR]
  unfold sqB at hR
  unfold maxLen at h2
  have HO := Lib.hid h; have HR := Lib.hid hR
  clear h hR
  go_enter Try.func76, Try.ntmps76
  go_wp2
  go_loop [7] (fun i => ∃ k : Nat, k ≤ ls.length ∧ i = .int .i64 k ∧ Hid (allFrom (sqR ls) k (ls.length - k) = R)) (fun i => ls.length - (intOf i).toNat)
  case atStart => exact ⟨0, by omega, rfl, HR.out⟩
  case round =>
    obtain ⟨k, hk, rfl, HK⟩ := hrel
    clear HR
    by_cases hlt : k < ls.length
    · obtain ⟨g, rfl, _, _, hcell, _⟩ := HO.out.at (by omega)
      have hc := hcell k hlt
      have hrow := HO.out.own k hlt
      generalize hv : rowV vs k = rv at *
      obtain ⟨y1, y3, rfl, hy1, hy2⟩ := hrow.form
      have hK := HK.out
      rw [show ls.length - k = (ls.length - (k + 1)) + 1 by omega] at hK
      have hsq : sqR ls k = decide ((ls.getD k []).length = ls.length) := rfl
      clear hcell hrow hv HK
      by_cases he : (ls.getD k []).length = ls.length
      · have HK := Lib.hid (allFrom_yes hK (by rw [hsq]; simpa using he))
        clear hK hsq
        rw [he] at hc hy1
        clear he
        unfold maxLen at hy2
        go_wp2
        go_round
        case rel => exact ⟨k + 1, by omega, by go_num, HK.out⟩
        case measure => simp [intOf]; omega
      · have HK := Lib.hid (allFrom_no hK (by rw [hsq]; simpa using he))
        clear hK hsq
        generalize ls.getD k [] = l at *
        unfold maxLen at hy2
        go_wp2
        go_ret
        exact ret_eqB (by rw [HK.out])
    · obtain rfl : k = ls.length := by omega
      have hK := HK.out
      rw [Nat.sub_self] at hK
      have HK2 : Hid (true = R) := hK
      clear hK HK
      go_wp2
      go_ret
      exact ret_eqB HK2.out

set_option maxHeartbeats 400000 in
theorem readRowsCl_any (x m : Int) (b : Nat) (w : World) (hb : w.cell? ⟨b, 0, none⟩ = some (.int .i64 m)) (h0 : 0 ≤ m) (h1 : m ≤ 1000) :
    Calls Try.prog 78 #[.int .i64 x, .pointer (some ⟨b, 0, none⟩)] w (BoolOut w (inB x (-m) m)) := by
  have HW := Lib.hid (fun w => isWithin_any x m w h0 (by omega))
  go_enter Try.func78, Try.ntmps78
  go_wp2_with (go_at_call 52; ((with_reducible refine (HW.out _).mono ?_); rintro e w1 ⟨rfl, rfl⟩))
  go_ret
  exact ⟨rfl, rfl⟩

set_option maxHeartbeats 1000000 in
theorem every_any (lo hi : Nat) (v : Value) (vs : List Value) (ls : List (List Int)) (w : World) (h : OwnLL lo hi w v vs ls) (m : Int) (b : Nat) (hb : w.cell? ⟨b, 0, none⟩ = some (.int .i64 m)) (h0 : 0 ≤ m) (h1 : m ≤ 1000) :
    Calls Try.prog 77 #[v, .func (.func 78) #[] #[.pointer (some ⟨b, 0, none⟩)]] w (BoolOut w (wiB m ls)) := by
  obtain ⟨a, c, rfl, h2, h3⟩ := h.form
  obtain ⟨R, hR⟩ : ∃ R, wiB m ls = R := ⟨_, rfl⟩
  rw [hR]
  unfold wiB at hR
  unfold maxLen at h3
  have HO := Lib.hid h; have HR := Lib.hid hR
  have HCL := Lib.hid (fun x => readRowsCl_any x m b w hb h0 h1)
  clear h hR hb h0 h1
  go_enter Try.func77, Try.ntmps77
  go_wp2
  go_loop [11] (fun i => ∃ k : Nat, k ≤ ls.length ∧ i = .int .i64 k ∧ Hid (allFrom (wiR m ls) k (ls.length - k) = R)) (fun i => ls.length - (intOf i).toNat)
  case atStart => exact ⟨0, by omega, rfl, HR.out⟩
  case round =>
    obtain ⟨k, hk, rfl, HK⟩ := hrel
    clear HR
    by_cases hlt : k < ls.length
    · obtain ⟨g, rfl, _, _, hcell, _⟩ := HO.out.at (by omega)
      have hc := hcell k hlt
      have hrow := HO.out.own k hlt
      generalize hv : rowV vs k = rv at *
      obtain ⟨y1, y3, rfl, hy1, hy2⟩ := hrow.form
      have hK := HK.out
      rw [show ls.length - k = (ls.length - (k + 1)) + 1 by omega] at hK
      obtain ⟨q, hq⟩ : ∃ q, wiR m ls k = q := ⟨_, rfl⟩
      have hY := fun e : wiR m ls k = true => allFrom_yes hK e
      have hN := fun e : wiR m ls k = false => allFrom_no hK e
      rw [hq] at hY hN
      unfold wiR at hq
      have HR1 := Lib.hid hrow; have HQ := Lib.hid hq; have HY := Lib.hid hY; have HN := Lib.hid hN
      unfold maxLen at hy2
      clear hcell hrow hv HK hK hY hN hq
      generalize ls.getD k [] = l at *
      go_wp2
      go_loop [17] (fun i => ∃ c : Nat, c ≤ l.length ∧ i = .int .i64 c ∧ Hid (allFrom (fun c => inB (l.getD c 0) (-m) m) c (l.length - c) = q)) (fun i => l.length - (intOf i).toNat)
      case atStart => exact ⟨0, by omega, rfl, HQ.out⟩
      case round =>
        obtain ⟨c, hcl, rfl, HK⟩ := hrel
        clear HQ
        by_cases hclt : c < l.length
        · obtain ⟨gr, rfl, hr1, hr2, hr3⟩ := OwnLL.elem (hi := 0) HR1.out c hclt
          have hK := HK.out
          rw [show l.length - c = (l.length - (c + 1)) + 1 by omega] at hK
          clear HK
          cases hb : inB (l.getD c 0) (-m) m with
          | true =>
            have HK := Lib.hid (allFrom_yes hK hb)
            have HB := Lib.hid hb
            clear hK hb
            generalize l.getD c 0 = x at *
            go_wp2_with (go_at_call 78; ((with_reducible refine (HCL.out _).mono ?_); rintro e w1 ⟨rfl, rfl⟩; rw [HB.out]))
            go_round
            case rel => exact ⟨c + 1, by omega, by go_num, HK.out⟩
            case measure => simp [intOf]; omega
          | false =>
            have HK := Lib.hid (HN.out (allFrom_no hK hb))
            have HB := Lib.hid hb
            clear hK hb
            generalize l.getD c 0 = x at *
            go_wp2_with (go_at_call 78; ((with_reducible refine (HCL.out _).mono ?_); rintro e w1 ⟨rfl, rfl⟩; rw [HB.out]))
            go_ret
            exact ret_eqB (by rw [HK.out])
        · obtain rfl : c = l.length := by omega
          have hK := HK.out
          rw [Nat.sub_self] at hK
          have hq2 : true = q := hK
          have HK2 := Lib.hid (HY.out hq2.symm)
          clear hK HK hq2
          go_wp2
          go_round
          case rel => exact ⟨k + 1, by omega, by go_num, HK2.out⟩
          case measure => simp [intOf]; omega
    · obtain rfl : k = ls.length := by omega
      have hK := HK.out
      rw [Nat.sub_self] at hK
      have HK2 : Hid (true = R) := hK
      clear hK HK
      go_wp2
      go_ret
      exact ret_eqB HK2.out
set_option maxHeartbeats 1000000 in
theorem taRows_any (lo hi : Nat) (v : Value) (vs : List Value) (ls : List (List Int)) (w : World) (h : OwnLL lo hi w v vs ls) :
    Calls Try.prog 49 #[v] w (BoolOut w (rowsB ls)) := by
  obtain ⟨a, c, rfl, h2, h3⟩ := h.form
  unfold maxLen at h3
  have HIN := Lib.hid (fun w => l1In_any (ls.length : Int) 1 14 w)
  have HO := Lib.hid h
  clear h
  by_cases hin : 1 ≤ ls.length ∧ ls.length ≤ 14
  · have hib : inB (ls.length : Int) 1 14 = true := inB_yes (by omega) (by omega)
    have hrb : rowsB ls = allFrom (fun k => sqR ls k && wiR (limR ls.length) ls k) 0 ls.length := by
      unfold rowsB
      rw [allFrom_both]
      simp [hin, sqB, wiB]
    obtain ⟨R, hR⟩ : ∃ R, rowsB ls = R := ⟨_, rfl⟩
    rw [hR]
    rw [hrb] at hR
    have HR := Lib.hid hR; have HIB := Lib.hid hib
    clear hR hrb hib
    have hlim : (limR ls.length = 100 ∧ decide ((5 : Int) < (ls.length : Int)) = false) ∨ (limR ls.length = 16 ∧ decide ((5 : Int) < (ls.length : Int)) = true) := by
      by_cases h : ls.length ≤ 5
      · exact .inl ⟨limR_few h, by simp; omega⟩
      · exact .inr ⟨limR_many h, by simp; omega⟩
    have hgo : ∀ M : Int, limR ls.length = M → ((M = 100 ∧ decide ((5 : Int) < (ls.length : Int)) = false) ∨ (M = 16 ∧ decide ((5 : Int) < (ls.length : Int)) = true)) → Calls Try.prog 49 #[.slice a ls.length c] w (BoolOut w R) := by
      intro M hM hcs
      rw [hM] at HR
      have hall := fun u l R w h hR => l1All_any u l (-M) M R w h hR
      have HA := Lib.hid hall
      clear hlim hM hall
      rcases hcs with ⟨rfl, h5⟩ | ⟨rfl, h5⟩
      all_goals
        go_enter Try.func49, Try.ntmps49
        go_wp2_with (go_at_call 66; ((with_reducible refine (HIN.out _).mono ?_); rintro e w' ⟨rfl, rfl⟩; rw [HIB.out]))
        go_loop [15] (fun i => ∃ k : Nat, k ≤ ls.length ∧ i = .int .i64 k ∧ Hid (allFrom (fun k => sqR ls k && wiR _ ls k) k (ls.length - k) = R)) (fun i => ls.length - (intOf i).toNat)
        case atStart => exact ⟨0, by omega, rfl, HR.out⟩
        case round =>
          obtain ⟨k, hk, rfl, HK⟩ := hrel
          clear HR
          by_cases hlt : k < ls.length
          · obtain ⟨g, rfl, _, _, hcell, _⟩ := HO.out.at (by omega)
            have hc := hcell k hlt
            have hrow := HO.out.own k hlt
            generalize hv : rowV vs k = rv at *
            obtain ⟨y1, y3, rfl, hy1, hy2⟩ := hrow.form
            have hK := HK.out
            rw [show ls.length - k = (ls.length - (k + 1)) + 1 by omega] at hK
            have hY := fun e => allFrom_yes hK e
            have hN := fun e => allFrom_no hK e
            have hsq : sqR ls k = decide ((ls.getD k []).length = ls.length) := rfl
            have HY := Lib.hid hY; have HN := Lib.hid hN; have HRD := Lib.hid hrow.rd
            unfold maxLen at hy2
            have hwi : ∀ M, wiR M ls k = allFrom (fun c => inB ((ls.getD k []).getD c 0) (-M) M) 0 (ls.getD k []).length := fun M => rfl
            clear hcell hrow hv HK hK hY hN
            by_cases he : (ls.getD k []).length = ls.length
            · have hs1 : sqR ls k = true := by rw [hsq]; simpa using he
              rw [hs1] at HY HN
              first
                | (obtain ⟨q, hq⟩ : ∃ q, wiR 100 ls k = q := ⟨_, rfl⟩
                   rw [hq] at HY HN)
                | (obtain ⟨q, hq⟩ : ∃ q, wiR 16 ls k = q := ⟨_, rfl⟩
                   rw [hq] at HY HN)
              rw [hwi] at hq
              have HQ := Lib.hid hq
              rw [he] at hc hy1 HRD
              clear hq hwi hsq hs1 he
              generalize ls.getD k [] = l at *
              cases q with
              | true =>
                go_wp2_with (go_at_call 50; ((with_reducible refine (HA.out _ _ _ _ HRD.out HQ.out).mono ?_); rintro e w' ⟨rfl, rfl⟩))
                go_round
                case rel => exact ⟨k + 1, by omega, by go_num, Lib.hid (HY.out rfl)⟩
                case measure => simp [intOf]; omega
              | false =>
                go_wp2_with (go_at_call 50; ((with_reducible refine (HA.out _ _ _ _ HRD.out HQ.out).mono ?_); rintro e w' ⟨rfl, rfl⟩))
                go_ret
                exact ret_eqB (by rw [HN.out rfl])
            · have hs1 : sqR ls k = false := by rw [hsq]; simpa using he
              rw [hs1] at HN
              have HK := Lib.hid (HN.out (Bool.false_and _))
              clear hwi hsq hs1 HN HY
              generalize ls.getD k [] = l at *
              go_wp2
              go_ret
              exact ret_eqB (by rw [HK.out])
          · obtain rfl : k = ls.length := by omega
            have hK := HK.out
            rw [Nat.sub_self] at hK
            have HK2 : Hid (true = R) := hK
            clear hK HK
            go_wp2
            go_ret
            exact ret_eqB HK2.out
    exact hgo _ rfl hlim
  · have hib : inB (ls.length : Int) 1 14 = false := inB_no (by omega)
    have hrb : rowsB ls = false := by
      unfold rowsB
      simp [hin]
    rw [hrb]
    have HIB := Lib.hid hib
    clear hib hrb hin
    go_enter Try.func49, Try.ntmps49
    go_wp2_with (go_at_call 66; ((with_reducible refine (HIN.out _).mono ?_); rintro e w' ⟨rfl, rfl⟩; rw [HIB.out]))
    go_ret
    exact ⟨rfl, rfl⟩
end Go.Proofs.Ytgaaddfipkdlaab
