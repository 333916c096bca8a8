/- Texts of systems and of pairs are read back, and what is read has that text (pure). -/
import Derived.Test.YtbinpefogecgmaaParse
import Derived.Test.YtbinpefogecgmaaPairText
import Derived.Test.YtbinpefogecgmaaParseM
namespace Go.Proofs.Ytbinpefogecgmaa
set_option linter.unusedSimpArgs false
set_option linter.unusedVariables false

def bit8 (x : Bool) : Nat := if x then 40 else 41
theorem parseS_T2 (s : ByteArray) : ∀ (f k : Nat) (st p q : List Int), parseS s f k st p = some q → ∃ t : List Bool, t.length = f ∧ parseT t k st p = some q ∧ ∀ j, j < f → byteN s (k + j) = bit8 (t.getD j false)
  | 0, k, st, p, q, h => ⟨[], rfl, h, fun j hj => by omega⟩
  | f + 1, k, st, p, q, h => by
    rw [parseS] at h
    split at h
    · next hb =>
      obtain ⟨t, h1, h2, h3⟩ := parseS_T2 s f _ _ _ _ h
      refine ⟨true :: t, by simp [h1], h2, fun j hj => ?_⟩
      cases j with
      | zero => exact hb
      | succ j => have := h3 j (by omega); rw [show k + (j + 1) = k + 1 + j by omega, this]; simp
    · split at h
      · next hc =>
        obtain ⟨t, h1, h2, h3⟩ := parseS_T2 s f _ _ _ _ h
        refine ⟨false :: t, by simp [h1], by rw [parseT, if_pos hc.2]; exact h2, fun j hj => ?_⟩
        cases j with
        | zero => exact hc.1
        | succ j => have := h3 j (by omega); rw [show k + (j + 1) = k + 1 + j by omega, this]; simp
      · cases h
theorem parseS_of (s : ByteArray) : ∀ (t : List Bool) (k : Nat) (st p : List Int), (∀ j, j < t.length → byteN s (k + j) = bit8 (t.getD j false)) → parseS s t.length k st p = parseT t k st p
  | [], k, st, p, h => rfl
  | true :: r, k, st, p, h => by
    have h0 : byteN s k = 40 := h 0 (by simp)
    rw [List.length_cons, parseS, if_pos h0, parseT]
    exact parseS_of s r _ _ _ fun j hj => by have := h (j + 1) (by simp; omega); rw [show k + 1 + j = k + (j + 1) by omega, this]; simp
  | false :: r, k, st, p, h => by
    have h0 : byteN s k = 41 := h 0 (by simp)
    rw [List.length_cons, parseS, if_neg (by omega), parseT]
    by_cases hs : 0 < st.length
    · rw [if_pos ⟨h0, hs⟩, if_pos hs]
      exact parseS_of s r _ _ _ fun j hj => by have := h (j + 1) (by simp; omega); rw [show k + 1 + j = k + (j + 1) by omega, this]; simp
    · rw [if_neg (fun e => hs e.2), if_neg hs]
def bitsL (l : List Int) : List Bool := (List.range l.length).map fun (j : Nat) => decide ((j : Int) < l.getD j 0)
theorem bitsL_length (l : List Int) : (bitsL l).length = l.length := by simp [bitsL]
theorem bitsL_get (l : List Int) (j : Nat) (h : j < l.length) : (bitsL l).getD j false = decide ((j : Int) < l.getD j 0) := by simp [bitsL, List.getD, h]
def readCheck (l : List Int) : Bool := parseT (bitsL l) 0 [] (List.replicate l.length 0) == some l
theorem readCheck0 : (sysAll 0).all readCheck = true := by kernel_rfl
theorem readCheck1 : (sysAll 1).all readCheck = true := by kernel_rfl
theorem readCheck2 : (sysAll 2).all readCheck = true := by kernel_rfl
theorem readCheck3 : (sysAll 3).all readCheck = true := by kernel_rfl
theorem readCheck4 : (sysAll 4).all readCheck = true := by kernel_rfl
theorem readCheck5 : (sysAll 5).all readCheck = true := by kernel_rfl
theorem readCheck6 : (sysAll 6).all readCheck = true := by kernel_rfl
theorem bits_read {l : List Int} (h : goodB l = true) : parseT (bitsL l) 0 [] (List.replicate l.length 0) = some l := by
  have hc : readCheck l = true := good_all6 readCheck0 readCheck1 readCheck2 readCheck3 readCheck4 readCheck5 readCheck6 h
  exact eq_of_beq hc
def backCheck (n : Nat) : Bool := (allTexts n).all fun t => match parseT t 0 [] (List.replicate n 0) with
  | some q => bitsL q == t
  | none => true
theorem backCheck0 : backCheck 0 = true := by kernel_rfl
theorem backCheck1 : backCheck 1 = true := by kernel_rfl
theorem backCheck2 : backCheck 2 = true := by kernel_rfl
theorem backCheck3 : backCheck 3 = true := by kernel_rfl
theorem backCheck4 : backCheck 4 = true := by kernel_rfl
theorem backCheck5 : backCheck 5 = true := by kernel_rfl
theorem backCheck6 : backCheck 6 = true := by kernel_rfl
theorem backCheck7 : backCheck 7 = true := by kernel_rfl
theorem backCheck8 : backCheck 8 = true := by kernel_rfl
theorem backCheck9 : backCheck 9 = true := by kernel_rfl
theorem backCheck10 : backCheck 10 = true := by kernel_rfl
theorem backCheck11 : backCheck 11 = true := by kernel_rfl
theorem backCheck12 : backCheck 12 = true := by kernel_rfl
theorem backCheck_all (n : Nat) (hn : n ≤ 12) : backCheck n = true := by
  have : n = 0 ∨ n = 1 ∨ n = 2 ∨ n = 3 ∨ n = 4 ∨ n = 5 ∨ n = 6 ∨ n = 7 ∨ n = 8 ∨ n = 9 ∨ n = 10 ∨ n = 11 ∨ n = 12 := by omega
  rcases this with rfl | rfl | rfl | rfl | rfl | rfl | rfl | rfl | rfl | rfl | rfl | rfl | rfl
  · exact backCheck0
  · exact backCheck1
  · exact backCheck2
  · exact backCheck3
  · exact backCheck4
  · exact backCheck5
  · exact backCheck6
  · exact backCheck7
  · exact backCheck8
  · exact backCheck9
  · exact backCheck10
  · exact backCheck11
  · exact backCheck12
theorem bits_back {t : List Bool} {q : List Int} (ht : t.length ≤ 12) (h : parseT t 0 [] (List.replicate t.length 0) = some q) : bitsL q = t := by
  have hc := List.all_eq_true.1 (backCheck_all t.length ht) t (mem_allTexts t)
  rw [h] at hc
  exact eq_of_beq hc
theorem chB_nat (l : List Int) (j : Nat) : (chB l j).toNat = bit8 (decide ((j : Int) < l.getD j 0)) := by
  unfold chB bit8
  by_cases h : (j : Int) < l.getD j 0
  · rw [if_pos h, decide_eq_true h]; rfl
  · rw [if_neg h, decide_eq_false h]; rfl
theorem byteN_text (l : List Int) (n j : Nat) (h : j < n) : byteN (textT l n) j = (chB l j).toNat := by
  unfold byteN textT textU
  simp [List.getD, h]
theorem byte_ext {a b : ByteArray} (hs : a.size = b.size) (h : ∀ j, j < a.size → byteN a j = byteN b j) : a = b := by
  apply ByteArray.ext
  apply Array.ext'
  refine List.ext_getElem (by simpa using hs) fun j h1 h2 => ?_
  have h1' : j < a.size := by simpa using h1
  have := h j h1'
  unfold byteN at this
  simp only [List.getD, List.getElem?_eq_getElem h1, List.getElem?_eq_getElem h2, Option.getD_some] at this
  exact UInt8.toNat_inj.1 this
theorem text_read {l : List Int} (h : goodB l = true) : parsed (textT l l.length) = some l := by
  have h12 := good_len' h
  unfold parsed
  rw [textT_size, if_pos h12]
  have := parseS_of (textT l l.length) (bitsL l) 0 [] (List.replicate l.length 0) (fun j hj => by
    rw [bitsL_length] at hj
    rw [Nat.zero_add, byteN_text l _ j hj, chB_nat, bitsL_get l j hj])
  rw [bitsL_length] at this
  rw [this]
  exact bits_read h
theorem text_back {s : ByteArray} {q : List Int} (h : parsed s = some q) : textT q q.length = s := by
  have hl := parsed_len h
  unfold parsed at h
  rw [if_pos (by omega)] at h
  obtain ⟨t, h1, h2, h3⟩ := parseS_T2 s _ _ _ _ _ h
  have hb : bitsL q = t := bits_back (by omega) (by rw [h1]; exact h2)
  refine byte_ext (by rw [textT_size]; exact hl.1) fun j hj => ?_
  rw [textT_size] at hj
  rw [byteN_text q _ j hj, chB_nat, ← bitsL_get q j hj, hb, ← h3 j (by omega), Nat.zero_add]
theorem bytes_app (a b : ByteArray) : (a ++ b).data.toList = a.data.toList ++ b.data.toList := by simp
theorem bytes_cut (s : ByteArray) (a b : Nat) : (s.extract a b).data.toList = (s.data.toList.take b).drop a := by
  simp [ByteArray.data_extract, Array.toList_extract, List.extract_eq_take_drop, List.drop_take]
theorem bytes_eq {a b : ByteArray} (h : a.data.toList = b.data.toList) : a = b := ByteArray.ext (Array.ext' h)
theorem bytes_len (s : ByteArray) : s.data.toList.length = s.size := by simp
theorem text_len (l : List Int) (n : Nat) : (textT l n).data.toList.length = n := by rw [bytes_len, textT_size]
theorem pair_left (a b : ByteArray) : (a ++ ⟨#[124]⟩ ++ b).extract 0 a.size = a := by
  apply bytes_eq
  rw [bytes_cut, bytes_app, bytes_app, List.drop_zero, List.append_assoc, ← bytes_len a, List.take_left]
theorem pair_right (a b : ByteArray) : (a ++ ⟨#[124]⟩ ++ b).extract (a.size + 1) (a ++ ⟨#[124]⟩ ++ b).size = b := by
  apply bytes_eq
  rw [bytes_cut, ← bytes_len (a ++ ⟨#[124]⟩ ++ b), List.take_length, bytes_app]
  rw [show a.size + 1 = (a ++ (⟨#[124]⟩ : ByteArray)).data.toList.length by rw [bytes_app, List.length_append, bytes_len]; rfl, List.drop_left]
theorem pair_read {t b : List Int} (h : pairOk t b = true) : pmS (pairT t b) = some (t, b) := by
  obtain ⟨g1, g2, hl⟩ := pairOk_facts h
  have e1 := textT_size t t.length
  have b1 : ∀ k, k < t.length → byteN (pairT t b) k = byteN (textT t t.length) k := fun k hk => by
    unfold byteN pairT
    rw [bytes_app, bytes_app, List.append_assoc]
    simp only [List.getD]
    rw [List.getElem?_append_left (by rw [text_len]; exact hk)]
  have b2 : byteN (pairT t b) t.length = 124 := by
    unfold byteN pairT
    rw [bytes_app, bytes_app, List.append_assoc]
    simp only [List.getD]
    rw [List.getElem?_append_right (by rw [text_len]; omega), text_len, Nat.sub_self]
    rfl
  have hsz : (pairT t b).size = t.length + 1 + b.length := by
    unfold pairT; rw [ByteArray.size_append, ByteArray.size_append, textT_size, textT_size]; rfl
  have := pmS_some (s := pairT t b) (i := t.length) (by omega) b2 (fun k hk => by
    rw [b1 k hk, byteN_text t _ k hk, chB_nat]; unfold bit8; split <;> omega)
  rw [this]
  have p1 : (pairT t b).extract 0 t.length = textT t t.length := by
    have := pair_left (textT t t.length) (textT b b.length); rw [textT_size] at this; exact this
  have p2 : (pairT t b).extract (t.length + 1) (pairT t b).size = textT b b.length := by
    have := pair_right (textT t t.length) (textT b b.length); rw [textT_size] at this; exact this
  rw [p1, p2]
  unfold pmOf ok_ParseSystem res_ParseSystem
  rw [text_read g1, text_read g2]
  simp [h]
theorem pair_back {s : ByteArray} {t b : List Int} (h : pmS s = some (t, b)) : pairOk t b = true ∧ pairT t b = s := by
  rcases bar_cases s with h1 | ⟨i, h1, h2, h3⟩
  · rw [pmS_none h1] at h; cases h
  · rw [pmS_some h1 h2 h3] at h
    unfold pmOf at h
    split at h
    · next hc =>
      simp only [Bool.and_eq_true] at hc
      obtain ⟨⟨o1, o2⟩, o3⟩ := hc
      simp only [Option.some.injEq, Prod.mk.injEq] at h
      obtain ⟨rfl, rfl⟩ := h
      refine ⟨o3, ?_⟩
      unfold ok_ParseSystem at o1 o2
      obtain ⟨q1, k1⟩ := Option.isSome_iff_exists.1 o1
      obtain ⟨q2, k2⟩ := Option.isSome_iff_exists.1 o2
      unfold res_ParseSystem pairT
      rw [k1, k2]
      simp only [Option.getD_some]
      rw [text_back k1, text_back k2]
      apply bytes_eq
      rw [bytes_app, bytes_app, bytes_cut, bytes_cut, ← bytes_len s, List.take_length, List.drop_zero]
      have hi : i < s.data.toList.length := by rw [bytes_len]; exact h1
      have hb : s.data.toList[i] = 124 := by
        unfold byteN at h2
        simp only [List.getD, List.getElem?_eq_getElem hi, Option.getD_some] at h2
        exact UInt8.toNat_inj.1 h2
      have hd := List.drop_eq_getElem_cons hi
      rw [hb] at hd
      show s.data.toList.take i ++ [124] ++ s.data.toList.drop (i + 1) = s.data.toList
      rw [List.append_assoc, List.singleton_append, ← hd, List.take_append_drop]
    · cases h

end Go.Proofs.Ytbinpefogecgmaa
