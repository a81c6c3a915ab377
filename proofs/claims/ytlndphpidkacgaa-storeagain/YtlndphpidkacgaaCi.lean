/- Records as bytes: there and back. -/
import Derived.Test.YtlndphpidkacgaaCh
namespace Go.Proofs.Ytlndphpidkacgaa
open Go.RowKit
set_option linter.unusedSimpArgs false
set_option linter.unusedVariables false

theorem bsize (t : ByteArray) : t.data.toList.length = t.size := by rw [Array.length_toList]; rfl
theorem bmk (t : ByteArray) : (⟨t.data.toList.toArray⟩ : ByteArray) = t := by cases t; simp

theorem takeT_tb : ∀ (ts : List ByteArray) (rest : List UInt8), (∀ t, t ∈ ts → t.size ≤ 255) → takeT ts.length (tb ts ++ rest) = some (ts, rest)
  | [], rest, _ => by simp [takeT, tb]
  | t :: ts, rest, h => by
    have ht := h t (by simp)
    have ih := takeT_tb ts rest (fun x hx => h x (by simp [hx]))
    have e : tb (t :: ts) ++ rest = UInt8.ofNat t.size :: (t.data.toList ++ (tb ts ++ rest)) := by simp [tb, ebytes]
    have hn : (UInt8.ofNat t.size).toNat = t.size := by simp; omega
    rw [e, List.length_cons, takeT_cons _ _ _ (by rw [hn, List.length_append, bsize]; omega), hn]
    have h1 : (t.data.toList ++ (tb ts ++ rest)).take t.size = t.data.toList := by rw [List.take_append_of_le_length (by rw [bsize]; omega), List.take_of_length_le (by rw [bsize]; omega)]
    have h2 : (t.data.toList ++ (tb ts ++ rest)).drop t.size = tb ts ++ rest := by rw [← bsize t, List.drop_left]
    rw [h1, h2, ih]
    simp

theorem takeT_inv : ∀ (k : Nat) (bs : List UInt8) (ts : List ByteArray) (r : List UInt8), takeT k bs = some (ts, r) → bs = tb ts ++ r ∧ ts.length = k
  | 0, bs, ts, r, h => by simp [takeT] at h; obtain ⟨rfl, rfl⟩ := h; simp [tb]
  | k + 1, [], ts, r, h => by simp [takeT] at h
  | k + 1, x :: xs, ts, r, h => by
    by_cases hx : x.toNat ≤ xs.length
    · rw [takeT_cons _ _ _ hx] at h
      cases h2 : takeT k (xs.drop x.toNat) with
      | none => rw [h2] at h; cases h
      | some p =>
        rw [h2] at h
        simp at h
        obtain ⟨rfl, rfl⟩ := h
        obtain ⟨e1, e2⟩ := takeT_inv k _ p.1 p.2 h2
        refine ⟨?_, by simp [e2]⟩
        have hs : (⟨(xs.take x.toNat).toArray⟩ : ByteArray).size = x.toNat := by show (xs.take x.toNat).toArray.size = _; simp; omega
        have : tb (⟨(xs.take x.toNat).toArray⟩ :: p.1) = x :: (xs.take x.toNat ++ tb p.1) := by
          simp only [tb, List.flatMap_cons, ebytes, hs]
          simp
        rw [this, List.cons_append, List.append_assoc, ← e1, List.take_append_drop]
    · rw [takeT_short _ _ _ hx] at h; cases h

theorem texts_small {r : ARec} (h : RecOk r) : (∀ t, t ∈ r.texts → t.size ≤ 255) ∧ (tb r.texts).length ≤ 250 := by
  have := h.name; have := h.dst; have := h.text
  constructor
  · intro t ht
    simp [ARec.texts] at ht
    rcases ht with rfl | rfl | rfl <;> omega
  · simp [ARec.texts, tb, ebytes_length]; omega

theorem encL_length (r : ARec) : (encL r).length = 5 + (tb r.texts).length := by simp [encL]; omega

theorem of_u8 {x : Int} (h0 : 0 ≤ x) (h1 : x ≤ 255) : (((UInt8.ofNat x.toNat).toNat : Nat) : Int) = x := ofInt_u8 h0 h1

theorem readR_enc {r : ARec} (h : RecOk r) : readR (encL r) = some r := by
  obtain ⟨hs, hl⟩ := texts_small h
  unfold readR
  rw [if_neg (by rw [encL_length]; omega)]
  have hd : (encL r).drop 5 = tb r.texts ++ [] := by simp [encL]
  have ht := takeT_tb r.texts [] hs
  have e3 : r.texts.length = 3 := rfl
  rw [e3] at ht
  rw [hd, ht]
  have a1 : at_ (encL r) 1 = r.client := of_u8 h.c0 (by have := h.c1; omega)
  have a2 : at_ (encL r) 2 = r.no := of_u8 (by have := h.n0; omega) (by have := h.n1; omega)
  have a3 : at_ (encL r) 3 = r.call.kind := of_u8 (by have := h.k0; omega) (by have := h.k1; omega)
  have a4 : at_ (encL r) 4 = r.code := of_u8 h.d0 (by have := h.d1; omega)
  have ha := h.ans
  show some _ = some _
  rw [a1, a2, a3, a4, ← ha]

theorem rec_of_ok {r : ARec} (h : recI r = 0) : RecOk r := rec_ok h

theorem decR_enc {r : ARec} (h : recI r = 0) (b : List UInt8) : decR (encL r ++ b) = ⟨r, ((encL r).length : Int), 0⟩ := by
  have ho := rec_ok h
  obtain ⟨hs, hl⟩ := texts_small ho
  have hn : (UInt8.ofNat (5 + (tb r.texts).length)).toNat = (encL r).length := by rw [encL_length]; simp; omega
  obtain ⟨ys, hys⟩ : ∃ ys, encL r = UInt8.ofNat (5 + (tb r.texts).length) :: ys := ⟨_, rfl⟩
  have hlen : (encL r).length = ys.length + 1 := by rw [hys]; rfl
  have htake : (UInt8.ofNat (5 + (tb r.texts).length) :: (ys ++ b)).take (encL r).length = encL r := by
    rw [← List.cons_append, ← hys, List.take_left]
  rw [hys, List.cons_append, decR, if_neg (by rw [hn, hlen, List.length_append]; omega), hn, htake, readR_enc ho]
  simp only [h]
  rw [← hys]
  simp

theorem readR_inv {l : List UInt8} {r : ARec} (h : readR l = some r) (h0 : ∀ x, l.head? = some x → x.toNat = l.length) : l = encL r := by
  unfold readR at h
  by_cases h5 : l.length < 5
  · rw [if_pos h5] at h; cases h
  rw [if_neg h5] at h
  match l, h0, h5, h with
  | [], _, h5, _ => simp at h5
  | [_], _, h5, _ => simp at h5
  | [_, _], _, h5, _ => simp at h5
  | [_, _, _], _, h5, _ => simp at h5
  | [_, _, _, _], _, h5, _ => simp at h5
  | x0 :: x1 :: x2 :: x3 :: x4 :: rest, h0, _, h =>
    have hx := h0 x0 rfl
    split at h
    · rename_i a b t h3
      have hr : takeT 3 rest = some ([a, b, t], []) := h3
      obtain ⟨e1, _⟩ := takeT_inv 3 rest _ _ hr
      rw [List.append_nil] at e1
      simp at h
      subst h
      have u : ∀ x : UInt8, UInt8.ofNat ((x.toNat : Int)).toNat = x := fun x => by simp
      have hl : x0 = UInt8.ofNat (5 + (tb [a, b, t]).length) := by
        rw [← e1, show 5 + rest.length = x0.toNat by rw [hx]; simp; omega]
        simp
      simp only [encL, ARec.texts, at_, List.getD_cons_succ, List.getD_cons_zero, u]
      rw [← hl, ← e1]
      rfl
    · cases h

theorem decR_inv {bs : List UInt8} (h : (decR bs).code = 0) : recI (decR bs).rcd = 0 ∧ (decR bs).n = ((encL (decR bs).rcd).length : Int) ∧ bs.take (encL (decR bs).rcd).length = encL (decR bs).rcd ∧ (encL (decR bs).rcd).length ≤ bs.length := by
  cases bs with
  | nil => simp [decR] at h
  | cons x xs =>
    by_cases h1 : xs.length + 1 < x.toNat
    · rw [decR, if_pos h1] at h; cases h
    cases hr : readR ((x :: xs).take x.toNat) with
    | none => rw [decR, if_neg h1, hr] at h; cases h
    | some r =>
      by_cases h2 : recI r = 0
      · have e : decR (x :: xs) = ⟨r, (x.toNat : Int), 0⟩ := by rw [decR, if_neg h1, hr]; simp [h2]
        have h5 := readR_long hr
        have hlt : ((x :: xs).take x.toNat).length = x.toNat := by rw [List.length_take, List.length_cons]; omega
        have hi := readR_inv hr (fun y hy => by
          rw [hlt]
          have : 0 < x.toNat := by omega
          rw [List.head?_take] at hy
          rw [if_neg (by omega)] at hy
          simp at hy
          rw [← hy])
        rw [e]
        simp only
        have hle : (encL r).length = x.toNat := by rw [← hi, hlt]
        exact ⟨h2, by rw [hle], by rw [hle]; exact hi, by rw [hle, List.length_cons]; omega⟩
      · rw [decR, if_neg h1, hr] at h
        simp [h2] at h

theorem decR_zero {bs : List UInt8} (h : (decR bs).code ≠ 0) : (decR bs).rcd = zeroRec ∧ (decR bs).n = 0 := by
  cases bs with
  | nil => exact ⟨rfl, rfl⟩
  | cons x xs =>
    by_cases h1 : xs.length + 1 < x.toNat
    · rw [decR, if_pos h1]; exact ⟨rfl, rfl⟩
    cases hr : readR ((x :: xs).take x.toNat) with
    | none => rw [decR, if_neg h1, hr]; exact ⟨rfl, rfl⟩
    | some r =>
      by_cases h2 : recI r = 0
      · rw [decR, if_neg h1, hr] at h; simp [h2] at h
      · rw [decR, if_neg h1, hr]; simp [h2]

theorem encL_inj {r q : ARec} (hr : recI r = 0) (hq : recI q = 0) (h : encL r = encL q) : r = q := by
  have h1 := decR_enc hr []
  have h2 := decR_enc hq []
  rw [h] at h1
  rw [h1] at h2
  exact (congrArg Dec.rcd h2)

end Go.Proofs.Ytlndphpidkacgaa
