/- The reference's Do, whole. -/
import Derived.Test.YtlndphpidkacgaaRk
namespace Go.Proofs.Ytlndphpidkacgaa
open Go.RowKit
set_option linter.unusedSimpArgs false
set_option linter.unusedVariables false

theorem dDo_any (c : ACall) (N D : Nat) (v : Value) (st : List AFile) (w : World) (hr : DRep w N D v st) (hi : Inv st) (ha : c.name.size ≤ maxLen) (hb : c.dst.size ≤ maxLen) (ht : c.text.size ≤ maxLen) :
    Calls Try.prog 21 #[.pointer (some ⟨D, 0, none⟩), .agg #[.int .i64 c.kind, .string c.name, .string c.dst, .string c.text]] w
      fun e w' => e = .returned (.agg #[.int .i64 (aDo st c).code, .string (aDo st c).text]) ∧ DTurned w N D v w' (aDo st c).st := by
  obtain ⟨k, a, b, t⟩ := c
  by_cases hc : checkI ⟨k, a, b, t⟩ ≠ 0
  · have e : aDo st ⟨k, a, b, t⟩ = ⟨checkI ⟨k, a, b, t⟩, ByteArray.empty, st⟩ := by rw [aDo, if_pos hc]
    rw [e]
    exact dDo_code k a b t N D v st w hr ha hb ht hc
  have hc0 : checkI ⟨k, a, b, t⟩ = 0 := by simpa using hc
  obtain ⟨z1, z2, z3, z4, z5⟩ := check_zero hc0
  dsimp only at z1 z2 z5 ha hb ht
  by_cases h1 : k = 1
  · subst h1
    have e : aDo st ⟨1, a, b, t⟩ = ⟨(aCreate st a).1, ByteArray.empty, (aCreate st a).2⟩ := by rw [aDo, if_neg hc, if_pos rfl]
    rw [e]
    by_cases hf : 0 ≤ fInt a st
    · have e2 : aCreate st a = (5, st) := by simp [aCreate, hf]
      rw [e2]
      exact dDo_there a b t N D v st w hr hi ha hb ht hc0 hf
    · by_cases h6 : 6 ≤ st.length
      · have e2 : aCreate st a = (7, st) := by simp [aCreate, hf, h6]
        rw [e2]
        exact dDo_full a b t N D v st w hr hi ha hb ht hc0 (by omega) h6
      · have e2 : aCreate st a = (0, st ++ [⟨a, ByteArray.empty⟩]) := by simp [aCreate, hf, h6]
        rw [e2]
        exact dDo_make a b t N D v st w hr hi ha hb ht hc0 (by omega) (by omega)
  by_cases h6 : k = 6
  · subst h6
    have e : aDo st ⟨6, a, b, t⟩ = ⟨0, joinNames st, st⟩ := by rw [aDo, if_neg hc, if_neg (by simp), if_pos rfl]
    rw [e]
    exact dDo_list a b t N D v st w hr hi ha hb ht hc0
  by_cases hf : fInt a st < 0
  · have e : aDo st ⟨k, a, b, t⟩ = ⟨6, ByteArray.empty, st⟩ := by rw [aDo, if_neg hc, if_neg h1, if_neg h6, if_pos hf]
    rw [e]
    exact dDo_none k a b t N D v st w hr hi ha hb ht hc0 h1 h6 hf
  have hf0 : 0 ≤ fInt a st := by omega
  by_cases h2 : k = 2
  · subst h2
    have e : aDo st ⟨2, a, b, t⟩ = ⟨0, ByteArray.empty, st.eraseIdx (fIdx a st)⟩ := by rw [aDo, if_neg hc, if_neg h1, if_neg h6, if_neg hf, if_pos rfl]
    rw [e]
    exact dDo_remove a b t N D v st w hr hi ha hb ht hc0 hf0
  by_cases h3 : k = 3
  · subst h3
    have e : aDo st ⟨3, a, b, t⟩ = ⟨(aRename st (fIdx a st) b).1, ByteArray.empty, (aRename st (fIdx a st) b).2⟩ := by rw [aDo, if_neg hc, if_neg h1, if_neg h6, if_neg hf, if_neg h2, if_pos rfl]
    rw [e]
    by_cases hg : 0 ≤ fInt b st
    · have e2 : aRename st (fIdx a st) b = (5, st) := by rw [aRename, if_pos hg]
      rw [e2]
      exact dDo_rename_there a b t N D v st w hr hi ha hb ht hc0 hf0 hg
    · have e2 : aRename st (fIdx a st) b = (0, st.set (fIdx a st) ⟨b, (fileAt st (fIdx a st)).text⟩) := by rw [aRename, if_neg hg]
      rw [e2]
      exact dDo_rename_new a b t N D v st w hr hi ha hb ht hc0 hf0 (by omega)
  by_cases h4 : k = 4
  · subst h4
    have e : aDo st ⟨4, a, b, t⟩ = ⟨(aPut st (fIdx a st) t).1, ByteArray.empty, (aPut st (fIdx a st) t).2⟩ := by rw [aDo, if_neg hc, if_neg h1, if_neg h6, if_neg hf, if_neg h2, if_neg h3, if_pos rfl]
    rw [e]
    have hts : t.size ≤ 1000 := by
      have := z5 rfl
      simp only [textB, withinB, Bool.and_eq_true, decide_eq_true_eq] at this
      omega
    by_cases hg : 16 < (fileAt st (fIdx a st)).text.size + t.size
    · have e2 : aPut st (fIdx a st) t = (7, st) := by rw [aPut, if_pos hg]
      rw [e2]
      exact dDo_put_full a b t N D v st w hr hi ha hb ht hc0 hf0 hts hg
    · have e2 : aPut st (fIdx a st) t = (0, st.set (fIdx a st) ⟨(fileAt st (fIdx a st)).name, (fileAt st (fIdx a st)).text ++ t⟩) := by rw [aPut, if_neg hg]
      rw [e2]
      exact dDo_put_some a b t N D v st w hr hi ha hb ht hc0 hf0 hts (by omega)
  have h5 : k = 5 := by omega
  subst h5
  have e : aDo st ⟨5, a, b, t⟩ = ⟨0, (fileAt st (fIdx a st)).text, st⟩ := by rw [aDo, if_neg hc, if_neg h1, if_neg h6, if_neg hf, if_neg h2, if_neg h3, if_neg h4]
  rw [e]
  exact dDo_read a b t N D v st w hr hi ha hb ht hc0 hf0

end Go.Proofs.Ytlndphpidkacgaa
