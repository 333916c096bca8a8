/- A text that can be parsed gives a system. -/
import Derived.Test.YtpanajnlkacmdaaParse
import Derived.Test.YtpanajnlkacmdaaEnum
namespace Go.Proofs.Ytpanajnlkacmdaa
set_option linter.unusedSimpArgs false
set_option linter.unusedVariables false

/-- parseS over a list of bits: true where an arch begins -/
def parseT : List Bool → Nat → List Int → List Int → Option (List Int)
  | [], _, st, p => if st.length = 0 then some p else none
  | true :: r, k, st, p => parseT r (k + 1) (st ++ [(k : Int)]) p
  | false :: r, k, st, p => if 0 < st.length then parseT r (k + 1) (st.take (st.length - 1)) ((p.set (st.getD (st.length - 1) 0).toNat (k : Int)).set k (st.getD (st.length - 1) 0)) else none
theorem parseS_T (s : ByteArray) : ∀ (f k : Nat) (st p q : List Int), parseS s f k st p = some q → ∃ t : List Bool, t.length = f ∧ parseT t k st p = some q
  | 0, k, st, p, q, h => ⟨[], rfl, h⟩
  | f + 1, k, st, p, q, h => by
    rw [parseS] at h
    split at h
    · obtain ⟨t, h1, h2⟩ := parseS_T s f _ _ _ _ h
      exact ⟨true :: t, by simp [h1], h2⟩
    · split at h
      · next hc =>
        obtain ⟨t, h1, h2⟩ := parseS_T s f _ _ _ _ h
        exact ⟨false :: t, by simp [h1], by rw [parseT, if_pos hc.2]; exact h2⟩
      · cases h
def parseCheck (n : Nat) : Bool := (allTexts n).all fun t => match parseT t 0 [] (List.replicate n 0) with
  | some q => goodB q
  | none => true
theorem parseCheck0 : parseCheck 0 = true := by kernel_rfl
theorem parseCheck1 : parseCheck 1 = true := by kernel_rfl
theorem parseCheck2 : parseCheck 2 = true := by kernel_rfl
theorem parseCheck3 : parseCheck 3 = true := by kernel_rfl
theorem parseCheck4 : parseCheck 4 = true := by kernel_rfl
theorem parseCheck5 : parseCheck 5 = true := by kernel_rfl
theorem parseCheck6 : parseCheck 6 = true := by kernel_rfl
theorem parseCheck7 : parseCheck 7 = true := by kernel_rfl
theorem parseCheck8 : parseCheck 8 = true := by kernel_rfl
theorem parseCheck9 : parseCheck 9 = true := by kernel_rfl
theorem parseCheck10 : parseCheck 10 = true := by kernel_rfl
theorem parseCheck11 : parseCheck 11 = true := by kernel_rfl
theorem parseCheck12 : parseCheck 12 = true := by kernel_rfl
theorem parseCheck_all (n : Nat) (hn : n ≤ 12) : parseCheck n = true := by
  have : n = 0 ∨ n = 1 ∨ n = 2 ∨ n = 3 ∨ n = 4 ∨ n = 5 ∨ n = 6 ∨ n = 7 ∨ n = 8 ∨ n = 9 ∨ n = 10 ∨ n = 11 ∨ n = 12 := by omega
  rcases this with rfl | rfl | rfl | rfl | rfl | rfl | rfl | rfl | rfl | rfl | rfl | rfl | rfl
  · exact parseCheck0
  · exact parseCheck1
  · exact parseCheck2
  · exact parseCheck3
  · exact parseCheck4
  · exact parseCheck5
  · exact parseCheck6
  · exact parseCheck7
  · exact parseCheck8
  · exact parseCheck9
  · exact parseCheck10
  · exact parseCheck11
  · exact parseCheck12
theorem parsed_good {s : ByteArray} {q : List Int} (h : parsed s = some q) : goodB q = true := by
  unfold parsed at h
  split at h
  · next h12 =>
    obtain ⟨t, h1, h2⟩ := parseS_T s _ _ _ _ _ h
    have hm := mem_allTexts t
    rw [h1] at hm
    have hc := List.all_eq_true.1 (parseCheck_all s.size h12) t hm
    rw [h2] at hc
    exact hc
  · cases h
theorem parse_good {s : ByteArray} (h : ok_ParseSystem s = true) : goodB (res_ParseSystem s) = true ∧ (res_ParseSystem s).length = s.size := by
  unfold ok_ParseSystem at h
  obtain ⟨q, hq⟩ := Option.isSome_iff_exists.1 h
  have h1 := parsed_good hq
  have h2 := (parsed_len hq).1
  unfold res_ParseSystem
  rw [hq]
  exact ⟨h1, h2⟩

end Go.Proofs.Ytpanajnlkacmdaa
