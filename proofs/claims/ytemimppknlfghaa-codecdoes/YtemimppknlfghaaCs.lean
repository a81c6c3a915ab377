/- The reference's RecordOf: the same answer of bytes. -/
import Derived.Test.YtemimppknlfghaaCl
import Derived.Test.YtemimppknlfghaaCq
import Derived.BigRegion
import Derived.Deep.RegionHeld3
namespace Go.Proofs.Ytemimppknlfghaa
open Go.RowKit
set_option linter.unusedSimpArgs false
set_option linter.unusedVariables false

/-- So many texts were taken of cs, up to A. -/
structure TakeTo (cs : List UInt8) (q A : Nat) (ts : List ByteArray) : Prop where
  le5 : 5 ≤ A
  le : A ≤ cs.length
  len : ts.length = q
  q3 : q ≤ 3
  tk : takeT 3 (cs.drop 5) = (takeT (3 - q) (cs.drop A)).map (fun p => (ts ++ p.1, p.2))
theorem TakeTo.start (cs : List UInt8) (h : 5 ≤ cs.length) : TakeTo cs 0 5 [] := ⟨Nat.le_refl _, h, rfl, by omega, by simp⟩
theorem TakeTo.over {cs : List UInt8} {q A : Nat} {ts : List ByteArray} (h : TakeTo cs q A ts) (hq : q < 3) (hA : cs.length ≤ A) : takeT 3 (cs.drop 5) = none := by
  rw [h.tk, List.drop_of_length_le hA, show 3 - q = (2 - q) + 1 by omega, takeT]
  rfl
theorem drop_at {cs : List UInt8} {A : Nat} {y : UInt8} (hy : cs[A]? = some y) : cs.drop A = y :: cs.drop (A + 1) := by
  obtain ⟨h1, h2⟩ := List.getElem?_eq_some_iff.1 hy
  rw [List.drop_eq_getElem_cons h1, h2]
theorem TakeTo.short {cs : List UInt8} {q A : Nat} {ts : List ByteArray} (h : TakeTo cs q A ts) (hq : q < 3) {y : UInt8} (hy : cs[A]? = some y) (hA : cs.length < A + 1 + y.toNat) : takeT 3 (cs.drop 5) = none := by
  rw [h.tk, drop_at hy, show 3 - q = (2 - q) + 1 by omega, takeT_short _ _ _ (by rw [List.length_drop]; have := (List.getElem?_eq_some_iff.1 hy).1; omega)]
  rfl
theorem TakeTo.step {cs : List UInt8} {q A : Nat} {ts : List ByteArray} (h : TakeTo cs q A ts) (hq : q < 3) {y : UInt8} (hy : cs[A]? = some y) (hA : A + 1 + y.toNat ≤ cs.length) : TakeTo cs (q + 1) (A + 1 + y.toNat) (ts ++ [⟨((cs.drop (A + 1)).take y.toNat).toArray⟩]) := by
  have h5 := h.le5
  refine ⟨by omega, hA, by simp [h.len], by omega, ?_⟩
  rw [h.tk, drop_at hy, show 3 - q = (2 - q) + 1 by omega, takeT_cons _ _ _ (by rw [List.length_drop]; omega), List.drop_drop, show 3 - (q + 1) = 2 - q by omega]
  cases takeT (2 - q) (cs.drop (A + 1 + y.toNat)) with
  | none => rfl
  | some p => simp
theorem TakeTo.done {cs : List UInt8} {A : Nat} {ts : List ByteArray} (h : TakeTo cs 3 A ts) : takeT 3 (cs.drop 5) = some (ts, cs.drop A) := by
  rw [h.tk]; simp [takeT]
theorem readR_none {cs : List UInt8} (h : takeT 3 (cs.drop 5) = none) : readR cs = none := by
  unfold readR
  split
  · rfl
  · rw [h]
theorem TakeTo.rest {cs : List UInt8} {A : Nat} {ts : List ByteArray} (h : TakeTo cs 3 A ts) (hA : A ≠ cs.length) : readR cs = none := by
  unfold readR
  split
  · rfl
  · rw [h.done]
    have h1 := h.le
    have h2 : cs.drop A ≠ [] := fun e => by have := congrArg List.length e; rw [List.length_drop, List.length_nil] at this; omega
    split
    · rename_i heq
      simp at heq
      omega
    · rfl
theorem TakeTo.all {cs : List UInt8} {ts : List ByteArray} (h : TakeTo cs 3 cs.length ts) : ∃ a b t, ts = [a, b, t] ∧ readR cs = some ⟨at_ cs 1, at_ cs 2, ⟨at_ cs 3, a, b, t⟩, at_ cs 4, ⟨#[]⟩⟩ := by
  have h1 := h.done
  rw [List.drop_length] at h1
  match ts, h.len with
  | [a, b, t], _ =>
    refine ⟨a, b, t, rfl, ?_⟩
    unfold readR
    rw [if_neg (by have := h.le5; omega), h1]

set_option maxRecDepth 100000 in
set_option maxHeartbeats 4000000 in
theorem RecordOf_some (b off L cap : Nat) (x : UInt8) (xs : List UInt8) (w : World) (hc : ∀ (j : Nat) (y : UInt8), (x :: xs)[j]? = some y → w.cell? ⟨b, off + j, none⟩ = some (.int .u8 (y.toNat : Int))) (hbl : b < w.heap.size) (hL : xs.length + 1 = L) (hcap : L ≤ cap) (hm : L ≤ 1000000) :
    Calls Try.prog 37 #[.slice (some ⟨b, off, none⟩) L cap] w (DecRes w (decR (x :: xs))) := by
  obtain ⟨dr, hdr⟩ : ∃ d, d = decR (x :: xs) := ⟨_, rfl⟩
  rw [← hdr]
  obtain ⟨n, hn⟩ : ∃ n, x.toNat = n := ⟨_, rfl⟩
  have hn255 : n ≤ 255 := by have := x.toNat_lt; omega
  have c0 : w.cell? ⟨b, off, none⟩ = some (.int .u8 (n : Int)) := by rw [← hn]; exact hc 0 x rfl
  have hL0 : ((L : Int) == 0) = false := by simp; omega
  rw [decR, hn] at hdr
  by_cases h1 : L < n
  · rw [if_pos (by omega)] at hdr
    have HD := hide hdr
    have h1i : (L : Int) < (n : Int) := by omega
    clear hc hdr
    go_enter Try.func37, Try.ntmps37
    go_wp2
    refine bodyPost_ret (v := .tuple #[zeroRec.val, .int .i64 0, .int .i64 8]) (by simp [results, Try.results37, go_sem, zeroRec, ARec.val]) rfl ?_
    rw [HD.out]
    exact ⟨(Below.refl _ _).alloc (Nat.le_refl _) _, rfl⟩
  rw [if_neg (by omega)] at hdr
  have h1i : ¬ ((L : Int) < (n : Int)) := by omega
  obtain ⟨cs, hcs⟩ : ∃ cs, cs = (x :: xs).take n := ⟨_, rfl⟩
  rw [← hcs] at hdr
  have hcl : cs.length = n := by rw [hcs, List.length_take, List.length_cons]; omega
  by_cases h5 : n < 5
  · have : readR cs = none := by unfold readR; rw [if_pos (by omega)]
    rw [this] at hdr
    have HD := hide hdr
    have h5i : (n : Int) < 5 := by omega
    clear hc hdr this
    go_enter Try.func37, Try.ntmps37
    go_wp2
    refine bodyPost_ret (v := .tuple #[zeroRec.val, .int .i64 0, .int .i64 3]) (by simp [results, Try.results37, go_sem, zeroRec, ARec.val]) rfl ?_
    rw [HD.out]
    exact ⟨(Below.refl _ _).alloc (Nat.le_refl _) _, rfl⟩
  have h5i : ¬ ((n : Int) < 5) := by omega
  have hcc : ∀ (j : Nat) (y : UInt8), cs[j]? = some y → w.cell? ⟨b, off + j, none⟩ = some (.int .u8 (y.toNat : Int)) := fun j y hy => by
    rw [hcs, List.getElem?_take] at hy
    split at hy
    · exact hc j y hy
    · cases hy
  have HN3 : Hid (readR cs = none → dr = ⟨zeroRec, 0, 3⟩) := fun h => by rw [hdr, h]
  have HYS : Hid (∀ r, readR cs = some r → dr = if recI r ≠ 0 then ⟨zeroRec, 0, recI r⟩ else ⟨r, (n : Int), 0⟩) := fun r h => by rw [hdr, h]
  have HCC := hide hcc
  have HCL := hide hcl
  clear hc hdr hcs hcc hcl
  go_enter Try.func37, Try.ntmps37
  go_wp2
  obtain ⟨W0, hW0⟩ : ∃ W0, W0 = ((w.alloc (.cells #[.int .i64 0, .int .i64 0, .int .i64 0, .string ⟨#[]⟩, .string ⟨#[]⟩, .string ⟨#[]⟩, .int .i64 0, .string ⟨#[]⟩] 47)).alloc (.cells #[.string ⟨#[]⟩, .string ⟨#[]⟩, .string ⟨#[]⟩] 109)) := ⟨_, rfl⟩
  rw [← hW0]
  have HB0 : Hid (Below w.heap.size w W0) := by rw [hW0]; exact ((Below.refl w.heap.size w).alloc (Nat.le_refl _) _).alloc (by simp) _
  have HR0 : Hid (W0.heap[w.heap.size]? = some (.cells #[.int .i64 0, .int .i64 0, .int .i64 0, .string ⟨#[]⟩, .string ⟨#[]⟩, .string ⟨#[]⟩, .int .i64 0, .string ⟨#[]⟩] 47 (0, 0))) := by
    rw [hW0]
    exact (Below.heap_alloc _ _ _ (by simp)).trans (heap_alloc_new w _)
  have HT0 : Hid (W0.heap[w.heap.size + 1]? = some (.cells #[.string ⟨#[]⟩, .string ⟨#[]⟩, .string ⟨#[]⟩] 109 (0, 0))) := by
    rw [hW0]
    have h := heap_alloc_new (w.alloc (.cells #[.int .i64 0, .int .i64 0, .int .i64 0, .string ⟨#[]⟩, .string ⟨#[]⟩, .string ⟨#[]⟩, .int .i64 0, .string ⟨#[]⟩] 47)) (.cells #[.string ⟨#[]⟩, .string ⟨#[]⟩, .string ⟨#[]⟩] 109)
    rw [show (w.alloc (.cells #[.int .i64 0, .int .i64 0, .int .i64 0, .string ⟨#[]⟩, .string ⟨#[]⟩, .string ⟨#[]⟩, .int .i64 0, .string ⟨#[]⟩] 47)).heap.size = w.heap.size + 1 by simp] at h
    exact h
  clear hW0
  go_loopw [7, 8, 9] (fun vA vq _ wr => ∃ (q A : Nat) (ts : List ByteArray) (C : Array Value), q ≤ 3 ∧ A ≤ n ∧ 5 ≤ A ∧ vA = .int .i64 (A : Int) ∧ vq = .int .i64 (q : Int) ∧ Hid (TakeTo cs q A ts) ∧ Hid (C.toList = ts.map .string ++ List.replicate (3 - q) (.string ⟨#[]⟩)) ∧ Hid (wr.heap[w.heap.size]? = some (.cells #[.int .i64 0, .int .i64 0, .int .i64 0, .string ⟨#[]⟩, .string ⟨#[]⟩, .string ⟨#[]⟩, .int .i64 0, .string ⟨#[]⟩] 47 (0, 0))) ∧ Hid (wr.heap[w.heap.size + 1]? = some (.cells C 109 (0, 0))) ∧ Hid (Below w.heap.size w wr)) (fun _ vq _ _ => 3 - (intOf vq).toNat)
  case atStart => exact ⟨0, 5, [], #[.string ⟨#[]⟩, .string ⟨#[]⟩, .string ⟨#[]⟩], by omega, by omega, by omega, rfl, rfl, hide (TakeTo.start cs (by rw [unhide HCL]; omega)), rfl, unhide HR0, unhide HT0, unhide HB0⟩
  case round =>
    obtain ⟨q, A, ts, C, hq, hA, hA5, rfl, rfl, HTT, HC, HR, HT, HB⟩ := hrel
    by_cases hq3 : (q : Int) < 3
    · by_cases hAn : (A : Int) < (n : Int)
      · have hAi : ¬ ((n : Int) ≤ (A : Int)) := by omega
        obtain ⟨y, hy⟩ : ∃ y, cs[A]? = some y := ⟨_, List.getElem?_eq_getElem (by rw [unhide HCL]; omega)⟩
        obtain ⟨Y, hY⟩ : ∃ Y, y.toNat = Y := ⟨_, rfl⟩
        have hY255 : Y ≤ 255 := by have := y.toNat_lt; omega
        have hcy : wr.cell? ⟨b, off + A, none⟩ = some (.int .u8 (Y : Int)) := by rw [← hY]; exact ((unhide HB).cell (p := ⟨b, off + A, none⟩) hbl).trans ((unhide HCC) A y hy)
        have hAL : (A : Int) < (L : Int) := by omega
        have HSH := hide (fun (h : n < A + 1 + Y) => (unhide HTT).short (by omega) hy (by rw [unhide HCL, hY]; exact h))
        have HST := hide (fun (h : A + 1 + Y ≤ n) => (unhide HTT).step (by omega) hy (by rw [unhide HCL, hY]; exact h))
        obtain ⟨tx, htx⟩ : ∃ tx : ByteArray, tx = ⟨((cs.drop (A + 1)).take y.toNat).toArray⟩ := ⟨_, rfl⟩
        rw [← htx, hY] at HST
        have HCV : Hid (A + 1 + Y ≤ n → ∀ (ad : Addr) (c : Nat), (0 < Y → ad = ⟨b, off + (A + 1), none⟩) → (convert 48 9 (.slice (some ad) Y c)).run Try.prog wr = .ok (.string tx) wr) := fun h ad c had => by
          rw [htx, hY]
          refine conv_at wr ad _ c Y (by rw [List.length_take, List.length_drop, unhide HCL]; omega) (fun j z hz => ?_)
          rw [List.getElem?_take] at hz
          split at hz
          · rename_i hj
            rw [List.getElem?_drop] at hz
            rw [had (by omega), addr_add, show off + (A + 1) + j = off + (A + 1 + j) by omega]
            exact ((unhide HB).cell (p := ⟨b, off + (A + 1 + j), none⟩) hbl).trans ((unhide HCC) _ z hz)
          · cases hz
        clear hy htx hY
        by_cases hfit : (n : Int) < (A : Int) + 1 + (Y : Int)
        · have HNO := hide ((unhide HSH) (by omega))
          obtain ⟨⟨z0, z1, z2, z3⟩, ⟨z4, z5, z6, z7⟩, fz⟩ := eight (unhide HR)
          have hzz : w.heap.size < wr.heap.size := (Array.getElem?_eq_some_iff.1 (unhide HR)).1
          go_wp2
          have hb8 := set8_blk (unhide HR) (.int .i64 0) (.int .i64 0) (.int .i64 0) (.string ⟨#[]⟩) (.string ⟨#[]⟩) (.string ⟨#[]⟩) (.int .i64 0) (.string ⟨#[]⟩)
          have hk8 := set8_kept wr w.heap.size (.int .i64 0) (.int .i64 0) (.int .i64 0) (.string ⟨#[]⟩) (.string ⟨#[]⟩) (.string ⟨#[]⟩) (.int .i64 0) (.string ⟨#[]⟩)
          unfold set8 at hb8 hk8
          generalize hw8 : ((((((((wr.setCell ⟨w.heap.size, 0, none⟩ (.int .i64 0)).setCell ⟨w.heap.size, 1, none⟩ (.int .i64 0)).setCell ⟨w.heap.size, 2, none⟩ (.int .i64 0)).setCell ⟨w.heap.size, 3, none⟩ (.string ⟨#[]⟩)).setCell ⟨w.heap.size, 4, none⟩ (.string ⟨#[]⟩)).setCell ⟨w.heap.size, 5, none⟩ (.string ⟨#[]⟩)).setCell ⟨w.heap.size, 6, none⟩ (.int .i64 0)).setCell ⟨w.heap.size, 7, none⟩ (.string ⟨#[]⟩)) = w8 at hb8 hk8 ⊢
          obtain ⟨⟨q0, q1, q2, q3⟩, ⟨q4, q5, q6, q7⟩, _⟩ := eight hb8
          have bel : Below w.heap.size w w8 := (unhide HB).trans (hk8.below (by have := (unhide HB).size; omega) (by simp))
          refine bodyPost_ret (v := .tuple #[.agg #[.int .i64 0, .int .i64 0, .int .i64 0, .string ⟨#[]⟩, .string ⟨#[]⟩, .string ⟨#[]⟩, .int .i64 0, .string ⟨#[]⟩], .int .i64 0, .int .i64 3]) (by simp [results, Try.results37, go_sem, q0, q1, q2, q3, q4, q5, q6, q7]) rfl ?_
          rw [(unhide HN3) (readR_none (unhide HNO))]
          exact ⟨bel, rfl⟩

        · obtain ⟨o0, ho0⟩ : ∃ o, C[q]? = some o := by
            have h3 : C.toList.length = 3 := by rw [unhide HC, List.length_append, List.length_map, (unhide HTT).len, List.length_replicate]; omega
            exact ⟨_, Array.getElem?_eq_getElem (by rw [← Array.length_toList, h3]; omega)⟩
          have hto : wr.cell? ⟨w.heap.size + 1, q, none⟩ = some o0 := by rw [cell_of_row wr _ _ _ _ _ (unhide HT)]; exact ho0
          have hfo : wr.frozen? ⟨w.heap.size + 1, q, none⟩ = false := frozen_of_row wr _ q _ _ (unhide HT)
          have hzt : w.heap.size + 1 < wr.heap.size := (Array.getElem?_eq_some_iff.1 (unhide HT)).1
          have HT2 := hide (heap_setCell_same (unhide HT) (o := q) (.string tx))
          have hkk := kept_setCell [w.heap.size + 1] wr (w.heap.size + 1) q (.string tx) (by simp)
          have HR2 := hide ((hkk.block w.heap.size (by omega) (by simp)).trans (unhide HR))
          have HB2 := hide ((unhide HB).trans (hkk.below (by have := (unhide HB).size; omega) (by simp)))
          have HC2 : Hid ((C.setIfInBounds q (.string tx)).toList = (ts ++ [tx]).map .string ++ List.replicate (3 - (q + 1)) (.string ⟨#[]⟩)) := by
            show _ = _
            rw [Array.toList_setIfInBounds, unhide HC, show 3 - q = (3 - (q + 1)) + 1 by omega, List.replicate_succ, List.set_append_right (h := by rw [List.length_map, (unhide HTT).len]; omega), List.length_map, (unhide HTT).len, Nat.sub_self]
            simp
          have HTT2 := hide ((unhide HST) (by omega))
          clear hkk ho0
          by_cases hcc : cap = A + 1
          · subst hcc
            have hY0 : Y = 0 := by omega
            subst hY0
            have hcv := (unhide HCV) (by omega) ⟨b, off, none⟩ 0 (by omega)
            go_wp2
            go_roundw
            case rel => exact ⟨q + 1, A + 1 + 0, ts ++ [tx], _, by omega, by omega, by omega, by congr 1, by go_num, unhide HTT2, unhide HC2, unhide HR2, unhide HT2, unhide HB2⟩
            case measure => simp [intOf]; omega
          · have hcv := (unhide HCV) (by omega) ⟨b, off + (A + 1), none⟩ (cap - (A + 1)) (fun _ => rfl)
            have b1 : (A : Int) + 1 + (Y : Int) ≤ (cap : Int) := by omega
            have b2 : (A : Int) + 1 ≤ (A : Int) + 1 + (Y : Int) := by omega
            go_wp2
            go_roundw
            case rel => exact ⟨q + 1, A + 1 + Y, ts ++ [tx], _, by omega, by omega, by omega, by congr 1; omega, by go_num, unhide HTT2, unhide HC2, unhide HR2, unhide HT2, unhide HB2⟩
            case measure => simp [intOf]; omega
      · have hAi : (n : Int) ≤ (A : Int) := by omega
        have HNO := hide ((unhide HTT).over (by omega) (by rw [unhide HCL]; omega))
        obtain ⟨⟨z0, z1, z2, z3⟩, ⟨z4, z5, z6, z7⟩, fz⟩ := eight (unhide HR)
        have hzz : w.heap.size < wr.heap.size := (Array.getElem?_eq_some_iff.1 (unhide HR)).1
        go_wp2
        have hb8 := set8_blk (unhide HR) (.int .i64 0) (.int .i64 0) (.int .i64 0) (.string ⟨#[]⟩) (.string ⟨#[]⟩) (.string ⟨#[]⟩) (.int .i64 0) (.string ⟨#[]⟩)
        have hk8 := set8_kept wr w.heap.size (.int .i64 0) (.int .i64 0) (.int .i64 0) (.string ⟨#[]⟩) (.string ⟨#[]⟩) (.string ⟨#[]⟩) (.int .i64 0) (.string ⟨#[]⟩)
        unfold set8 at hb8 hk8
        generalize hw8 : ((((((((wr.setCell ⟨w.heap.size, 0, none⟩ (.int .i64 0)).setCell ⟨w.heap.size, 1, none⟩ (.int .i64 0)).setCell ⟨w.heap.size, 2, none⟩ (.int .i64 0)).setCell ⟨w.heap.size, 3, none⟩ (.string ⟨#[]⟩)).setCell ⟨w.heap.size, 4, none⟩ (.string ⟨#[]⟩)).setCell ⟨w.heap.size, 5, none⟩ (.string ⟨#[]⟩)).setCell ⟨w.heap.size, 6, none⟩ (.int .i64 0)).setCell ⟨w.heap.size, 7, none⟩ (.string ⟨#[]⟩)) = w8 at hb8 hk8 ⊢
        obtain ⟨⟨q0, q1, q2, q3⟩, ⟨q4, q5, q6, q7⟩, _⟩ := eight hb8
        have bel : Below w.heap.size w w8 := (unhide HB).trans (hk8.below (by have := (unhide HB).size; omega) (by simp))
        refine bodyPost_ret (v := .tuple #[.agg #[.int .i64 0, .int .i64 0, .int .i64 0, .string ⟨#[]⟩, .string ⟨#[]⟩, .string ⟨#[]⟩, .int .i64 0, .string ⟨#[]⟩], .int .i64 0, .int .i64 3]) (by simp [results, Try.results37, go_sem, q0, q1, q2, q3, q4, q5, q6, q7]) rfl ?_
        rw [(unhide HN3) (readR_none (unhide HNO))]
        exact ⟨bel, rfl⟩

    · obtain rfl : q = 3 := by omega
      by_cases hAn : A = n
      · have HTA := unhide HTT
        rw [hAn, ← unhide HCL] at HTA
        obtain ⟨ta, tb', tt, rfl, hread⟩ := HTA.all
        have hAi : ((A : Int) == (n : Int)) = true := by simp; omega
        have hC : C = #[.string ta, .string tb', .string tt] := by
          apply Array.ext'
          rw [unhide HC]
          rfl
        subst hC
        have c1 := ByAt.get (fun j y hy => ((unhide HB).cell (p := ⟨b, off + j, none⟩) hbl).trans ((unhide HCC) j y hy)) 1 (by rw [unhide HCL]; omega)
        have c2 := ByAt.get (fun j y hy => ((unhide HB).cell (p := ⟨b, off + j, none⟩) hbl).trans ((unhide HCC) j y hy)) 2 (by rw [unhide HCL]; omega)
        have c3 := ByAt.get (fun j y hy => ((unhide HB).cell (p := ⟨b, off + j, none⟩) hbl).trans ((unhide HCC) j y hy)) 3 (by rw [unhide HCL]; omega)
        have c4 := ByAt.get (fun j y hy => ((unhide HB).cell (p := ⟨b, off + j, none⟩) hbl).trans ((unhide HCC) j y hy)) 4 (by rw [unhide HCL]; omega)
        have g1 := at_range cs 1
        have g2 := at_range cs 2
        have g3 := at_range cs 3
        have g4 := at_range cs 4
        have HYS2 := hide ((unhide HYS) _ hread)
        have HSZ := hide (readR_sizes hread)
        clear hread HTA
        generalize at_ cs 1 = e1 at c1 g1 HYS2 HSZ
        generalize at_ cs 2 = e2 at c2 g2 HYS2 HSZ
        generalize at_ cs 3 = e3 at c3 g3 HYS2 HSZ
        generalize at_ cs 4 = e4 at c4 g4 HYS2 HSZ
        have t0 : wr.cell? ⟨w.heap.size + 1, 0, none⟩ = some (.string ta) := by rw [cell_of_row wr _ _ _ _ _ (unhide HT)]; rfl
        have t1 : wr.cell? ⟨w.heap.size + 1, 1, none⟩ = some (.string tb') := by rw [cell_of_row wr _ _ _ _ _ (unhide HT)]; rfl
        have t2 : wr.cell? ⟨w.heap.size + 1, 2, none⟩ = some (.string tt) := by rw [cell_of_row wr _ _ _ _ _ (unhide HT)]; rfl
        have i1 : (1 : Int) < (L : Int) := by omega
        have i2 : (2 : Int) < (L : Int) := by omega
        have i3 : (3 : Int) < (L : Int) := by omega
        have i4 : (4 : Int) < (L : Int) := by omega
        have hzt : w.heap.size + 1 < wr.heap.size := (Array.getElem?_eq_some_iff.1 (unhide HT)).1
        have hblr : b < wr.heap.size := by have := (unhide HB).size; omega
        obtain ⟨g1, g1'⟩ := g1
        obtain ⟨g2, g2'⟩ := g2
        obtain ⟨g3, g3'⟩ := g3
        obtain ⟨g4, g4'⟩ := g4
        go_wp2_with fail
        go_region_held3 (fun w' => w'.cell? ⟨b, off + 1, none⟩ = some (.int .u8 e1) ∧ w'.cell? ⟨b, off + 2, none⟩ = some (.int .u8 e2) ∧ w'.cell? ⟨b, off + 3, none⟩ = some (.int .u8 e3) ∧ w'.cell? ⟨b, off + 4, none⟩ = some (.int .u8 e4) ∧ w'.cell? ⟨w.heap.size + 1, 0, none⟩ = some (.string ta) ∧ w'.cell? ⟨w.heap.size + 1, 1, none⟩ = some (.string tb') ∧ w'.cell? ⟨w.heap.size + 1, 2, none⟩ = some (.string tt)) ((go_keep; done)) (fail)
        go_wp2_with fail
        have HFA := hide (fun W => RecordFault_any e1 e2 e3 ta tb' tt e4 ⟨#[]⟩ W (by have := (unhide HSZ).1; unfold maxLen; omega) (by have := (unhide HSZ).2.1; unfold maxLen; omega) (by have := (unhide HSZ).2.2.1; unfold maxLen; omega))
        generalize recI ⟨e1, e2, ⟨e3, ta, tb', tt⟩, e4, ⟨#[]⟩⟩ = code at HFA HYS2
        have HB1 := hide (((unhide HB).alloc (unhide HB).size (.cells #[.int .i64 e1, .int .i64 e2, .int .i64 e3, .string ta, .string tb', .string tt, .int .i64 e4, .string ⟨#[]⟩] 47)).drew)
        have HR1 : Hid ((wr.alloc (.cells #[.int .i64 e1, .int .i64 e2, .int .i64 e3, .string ta, .string tb', .string tt, .int .i64 e4, .string ⟨#[]⟩] 47)).drew.heap[w.heap.size]? = some (.cells #[.int .i64 0, .int .i64 0, .int .i64 0, .string ⟨#[]⟩, .string ⟨#[]⟩, .string ⟨#[]⟩, .int .i64 0, .string ⟨#[]⟩] 47 (0, 0))) := (Below.heap_alloc wr _ w.heap.size (by omega)).trans (unhide HR)
        have HQ1 : Hid ((wr.alloc (.cells #[.int .i64 e1, .int .i64 e2, .int .i64 e3, .string ta, .string tb', .string tt, .int .i64 e4, .string ⟨#[]⟩] 47)).drew.heap[wr.heap.size]? = some (.cells #[.int .i64 e1, .int .i64 e2, .int .i64 e3, .string ta, .string tb', .string tt, .int .i64 e4, .string ⟨#[]⟩] 47 (0, 0))) := heap_alloc_new wr _
        refine ((unhide HFA) _).mono ?_
        rintro e w2 ⟨rfl, b2⟩
        have HB2 := hide ((unhide HB1).trans (b2.mono (unhide HB1).size))
        have HR2 := hide ((b2.block w.heap.size (by show _ < (wr.alloc _).heap.size; simp; omega)).trans (unhide HR1))
        have HQ2 := hide ((b2.block wr.heap.size (by show _ < (wr.alloc _).heap.size; simp)).trans (unhide HQ1))
        have hzq : wr.heap.size < w2.heap.size := (Array.getElem?_eq_some_iff.1 (unhide HQ2)).1
        obtain ⟨⟨y0, y1, y2, y3⟩, ⟨y4, y5, y6, y7⟩, _⟩ := eight (unhide HQ2)
        clear b2 c1 c2 c3 c4 t0 t1 t2
        by_cases hcode : code = 0
        · subst hcode
          have HDD : Hid (dr = ⟨⟨e1, e2, ⟨e3, ta, tb', tt⟩, e4, ⟨#[]⟩⟩, (n : Int), 0⟩) := by rw [HYS2.out, if_neg (by simp)]; exact rfl
          obtain ⟨⟨z0, z1, z2, z3⟩, ⟨z4, z5, z6, z7⟩, fz⟩ := eight (unhide HR2)
          have hzz : w.heap.size < w2.heap.size := (Array.getElem?_eq_some_iff.1 (unhide HR2)).1
          go_wp2
          have hb8 := set8_blk (unhide HR2) (.int .i64 e1) (.int .i64 e2) (.int .i64 e3) (.string ta) (.string tb') (.string tt) (.int .i64 e4) (.string ⟨#[]⟩)
          have hk8 := set8_kept w2 w.heap.size (.int .i64 e1) (.int .i64 e2) (.int .i64 e3) (.string ta) (.string tb') (.string tt) (.int .i64 e4) (.string ⟨#[]⟩)
          unfold set8 at hb8 hk8
          generalize hw8 : ((((((((w2.setCell ⟨w.heap.size, 0, none⟩ (.int .i64 e1)).setCell ⟨w.heap.size, 1, none⟩ (.int .i64 e2)).setCell ⟨w.heap.size, 2, none⟩ (.int .i64 e3)).setCell ⟨w.heap.size, 3, none⟩ (.string ta)).setCell ⟨w.heap.size, 4, none⟩ (.string tb')).setCell ⟨w.heap.size, 5, none⟩ (.string tt)).setCell ⟨w.heap.size, 6, none⟩ (.int .i64 e4)).setCell ⟨w.heap.size, 7, none⟩ (.string ⟨#[]⟩)) = w8 at hb8 hk8 ⊢
          obtain ⟨⟨q0, q1, q2, q3⟩, ⟨q4, q5, q6, q7⟩, _⟩ := eight hb8
          have bel : Below w.heap.size w w8 := (unhide HB2).trans (hk8.below (by have := (unhide HB2).size; omega) (by simp))
          refine bodyPost_ret (v := .tuple #[.agg #[.int .i64 e1, .int .i64 e2, .int .i64 e3, .string ta, .string tb', .string tt, .int .i64 e4, .string ⟨#[]⟩], .int .i64 (n : Int), .int .i64 0]) (by simp [results, Try.results37, go_sem, q0, q1, q2, q3, q4, q5, q6, q7]) rfl ?_
          rw [HDD.out]
          exact ⟨bel, rfl⟩

        · have HDD : Hid (dr = ⟨zeroRec, 0, code⟩) := by rw [HYS2.out, if_pos hcode]; exact rfl
          obtain ⟨⟨z0, z1, z2, z3⟩, ⟨z4, z5, z6, z7⟩, fz⟩ := eight (unhide HR2)
          have hzz : w.heap.size < w2.heap.size := (Array.getElem?_eq_some_iff.1 (unhide HR2)).1
          go_wp2
          have hb8 := set8_blk (unhide HR2) (.int .i64 0) (.int .i64 0) (.int .i64 0) (.string ⟨#[]⟩) (.string ⟨#[]⟩) (.string ⟨#[]⟩) (.int .i64 0) (.string ⟨#[]⟩)
          have hk8 := set8_kept w2 w.heap.size (.int .i64 0) (.int .i64 0) (.int .i64 0) (.string ⟨#[]⟩) (.string ⟨#[]⟩) (.string ⟨#[]⟩) (.int .i64 0) (.string ⟨#[]⟩)
          unfold set8 at hb8 hk8
          generalize hw8 : ((((((((w2.setCell ⟨w.heap.size, 0, none⟩ (.int .i64 0)).setCell ⟨w.heap.size, 1, none⟩ (.int .i64 0)).setCell ⟨w.heap.size, 2, none⟩ (.int .i64 0)).setCell ⟨w.heap.size, 3, none⟩ (.string ⟨#[]⟩)).setCell ⟨w.heap.size, 4, none⟩ (.string ⟨#[]⟩)).setCell ⟨w.heap.size, 5, none⟩ (.string ⟨#[]⟩)).setCell ⟨w.heap.size, 6, none⟩ (.int .i64 0)).setCell ⟨w.heap.size, 7, none⟩ (.string ⟨#[]⟩)) = w8 at hb8 hk8 ⊢
          obtain ⟨⟨q0, q1, q2, q3⟩, ⟨q4, q5, q6, q7⟩, _⟩ := eight hb8
          have bel : Below w.heap.size w w8 := (unhide HB2).trans (hk8.below (by have := (unhide HB2).size; omega) (by simp))
          refine bodyPost_ret (v := .tuple #[.agg #[.int .i64 0, .int .i64 0, .int .i64 0, .string ⟨#[]⟩, .string ⟨#[]⟩, .string ⟨#[]⟩, .int .i64 0, .string ⟨#[]⟩], .int .i64 0, .int .i64 code]) (by simp [results, Try.results37, go_sem, q0, q1, q2, q3, q4, q5, q6, q7]) rfl ?_
          rw [HDD.out]
          exact ⟨bel, rfl⟩

      · have hAi : ((A : Int) == (n : Int)) = false := by simp; omega
        have HNO := hide ((unhide HTT).rest (by rw [unhide HCL]; exact hAn))
        obtain ⟨⟨z0, z1, z2, z3⟩, ⟨z4, z5, z6, z7⟩, fz⟩ := eight (unhide HR)
        have hzz : w.heap.size < wr.heap.size := (Array.getElem?_eq_some_iff.1 (unhide HR)).1
        go_wp2
        have hb8 := set8_blk (unhide HR) (.int .i64 0) (.int .i64 0) (.int .i64 0) (.string ⟨#[]⟩) (.string ⟨#[]⟩) (.string ⟨#[]⟩) (.int .i64 0) (.string ⟨#[]⟩)
        have hk8 := set8_kept wr w.heap.size (.int .i64 0) (.int .i64 0) (.int .i64 0) (.string ⟨#[]⟩) (.string ⟨#[]⟩) (.string ⟨#[]⟩) (.int .i64 0) (.string ⟨#[]⟩)
        unfold set8 at hb8 hk8
        generalize hw8 : ((((((((wr.setCell ⟨w.heap.size, 0, none⟩ (.int .i64 0)).setCell ⟨w.heap.size, 1, none⟩ (.int .i64 0)).setCell ⟨w.heap.size, 2, none⟩ (.int .i64 0)).setCell ⟨w.heap.size, 3, none⟩ (.string ⟨#[]⟩)).setCell ⟨w.heap.size, 4, none⟩ (.string ⟨#[]⟩)).setCell ⟨w.heap.size, 5, none⟩ (.string ⟨#[]⟩)).setCell ⟨w.heap.size, 6, none⟩ (.int .i64 0)).setCell ⟨w.heap.size, 7, none⟩ (.string ⟨#[]⟩)) = w8 at hb8 hk8 ⊢
        obtain ⟨⟨q0, q1, q2, q3⟩, ⟨q4, q5, q6, q7⟩, _⟩ := eight hb8
        have bel : Below w.heap.size w w8 := (unhide HB).trans (hk8.below (by have := (unhide HB).size; omega) (by simp))
        refine bodyPost_ret (v := .tuple #[.agg #[.int .i64 0, .int .i64 0, .int .i64 0, .string ⟨#[]⟩, .string ⟨#[]⟩, .string ⟨#[]⟩, .int .i64 0, .string ⟨#[]⟩], .int .i64 0, .int .i64 3]) (by simp [results, Try.results37, go_sem, q0, q1, q2, q3, q4, q5, q6, q7]) rfl ?_
        rw [(unhide HN3) (unhide HNO)]
        exact ⟨bel, rfl⟩

end Go.Proofs.Ytemimppknlfghaa
