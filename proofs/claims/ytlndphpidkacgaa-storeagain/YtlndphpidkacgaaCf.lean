/- Package codec: Decode. -/
import Derived.Test.YtlndphpidkacgaaCe
namespace Go.Proofs.Ytlndphpidkacgaa
open Go.RowKit
set_option linter.unusedSimpArgs false
set_option linter.unusedVariables false

def zeroRec : ARec := ⟨0, 0, ⟨0, ⟨#[]⟩, ⟨#[]⟩, ⟨#[]⟩⟩, 0, ⟨#[]⟩⟩

/-- What is answered of bytes: a record, how many bytes it has, a code. -/
structure Dec where
  rcd : ARec
  n : Int
  code : Int

/-- The record with which bytes begin. -/
def decR (bs : List UInt8) : Dec :=
  match bs with
  | [] => ⟨zeroRec, 0, 8⟩
  | x :: xs =>
    if xs.length + 1 < x.toNat then ⟨zeroRec, 0, 8⟩
    else match readR ((x :: xs).take x.toNat) with
      | none => ⟨zeroRec, 0, 3⟩
      | some r => if recI r ≠ 0 then ⟨zeroRec, 0, recI r⟩ else ⟨r, (x.toNat : Int), 0⟩

def ARec.val (r : ARec) : Value := .agg #[.int .i64 r.client, .int .i64 r.no, .int .i64 r.call.kind, .string r.call.name, .string r.call.dst, .string r.call.text, .int .i64 r.code, .string r.ans]

def DecRes (w : World) (d : Dec) (e : Ending) (w' : World) : Prop :=
  Below w.heap.size w w' ∧ e = .returned (.tuple #[d.rcd.val, .int .i64 d.n, .int .i64 d.code])

theorem takeT_sizes (k : Nat) (bs : List UInt8) (ts : List ByteArray) (r : List UInt8) (h : takeT k bs = some (ts, r)) : ∀ t, t ∈ ts → t.size ≤ 255 := by
  induction k generalizing bs ts r with
  | zero => simp [takeT] at h; obtain ⟨rfl, _⟩ := h; simp
  | succ k ih =>
    cases bs with
    | nil => simp [takeT] at h
    | cons x xs =>
      rw [takeT] at h
      split at h
      · cases h2 : takeT k (xs.drop x.toNat) with
        | none => rw [h2] at h; cases h
        | some p =>
          rw [h2] at h
          simp at h
          obtain ⟨rfl, _⟩ := h
          intro t ht
          rcases List.mem_cons.1 ht with rfl | ht
          · have := x.toNat_lt
            show (xs.take x.toNat).toArray.size ≤ 255
            simp
            omega
          · exact ih _ _ _ h2 t ht
      · cases h

theorem readR_sizes {bs : List UInt8} {r : ARec} (h : readR bs = some r) : r.call.name.size ≤ 255 ∧ r.call.dst.size ≤ 255 ∧ r.call.text.size ≤ 255 ∧ r.ans = ⟨#[]⟩ := by
  unfold readR at h
  split at h
  · cases h
  · split at h
    · rename_i a b t h3
      have hs := takeT_sizes _ _ _ _ h3
      simp at h
      subst h
      exact ⟨hs a (by simp), hs b (by simp), hs t (by simp), rfl⟩
    · cases h

set_option maxRecDepth 100000 in
set_option maxHeartbeats 4000000 in
theorem Decode_any (a0 : Option Addr) (L cap : Nat) (bs : List UInt8) (w : World) (hb : ByAt w a0 bs) (hL : bs.length = L) (hcap : L ≤ cap) (hm : L ≤ maxLen) :
    Calls Try.prog 36 #[.slice a0 L cap] w (DecRes w (decR bs)) := by
  unfold maxLen at hm
  cases bs with
  | nil =>
    obtain rfl : L = 0 := hL.symm
    go_enter Try.func36, Try.ntmps36
    go_wp2
    refine bodyPost_ret (v := .tuple #[zeroRec.val, .int .i64 0, .int .i64 8]) (by simp [results, Try.results36, go_sem, zeroRec, ARec.val]) rfl ?_
    exact ⟨(Below.refl _ _).alloc (Nat.le_refl _) _, rfl⟩
  | cons x xs =>
    obtain ⟨b, off, rfl, hc⟩ := hb (by simp)
    have c0 : w.cell? ⟨b, off, none⟩ = some (.int .u8 (x.toNat : Int)) := hc 0 x rfl
    have hbl : b < w.heap.size := World.block_lt_of_cell? w _ c0
    have hX2 : x.toNat ≤ 255 := by have := x.toNat_lt; omega
    obtain ⟨M, rfl⟩ : ∃ M, L = M + 1 := ⟨xs.length, hL.symm⟩
    have hM : xs.length = M := by simpa using hL
    obtain ⟨X, hX⟩ : ∃ X, x.toNat = X := ⟨_, rfl⟩
    obtain ⟨dr, hdr⟩ : ∃ d, d = decR (x :: xs) := ⟨_, rfl⟩
    rw [← hdr]
    have hM0 : ((M : Int) + 1 == 0) = false := by simp; omega
    rw [hX] at c0 hX2
    by_cases h1 : M + 1 < X
    · have hd8 : dr = ⟨zeroRec, 0, 8⟩ := by rw [hdr, decR, if_pos (by omega)]
      have HD := hide hd8
      have h1i : (M : Int) + 1 < (X : Int) := by omega
      clear hb hc hdr hd8
      go_enter Try.func36, Try.ntmps36
      go_wp2
      refine bodyPost_ret (v := .tuple #[zeroRec.val, .int .i64 0, .int .i64 8]) (by simp [results, Try.results36, go_sem, zeroRec, ARec.val]) rfl ?_
      rw [HD.out]
      exact ⟨(Below.refl _ _).alloc (Nat.le_refl _) _, rfl⟩
    · have h1i : ¬ ((M : Int) + 1 < (X : Int)) := by omega
      have hrd := fun (W : World) (hW : Below w.heap.size w W) => read_any (some ⟨b, off, none⟩) X cap ((x :: xs).take X) W (fun _ => ⟨b, off, rfl, fun j y hy => by
          have hy' : (x :: xs)[j]? = some y := by
            rw [List.getElem?_take] at hy
            split at hy
            · exact hy
            · cases hy
          have := hc j y hy'
          exact (hW.cell (p := ⟨b, off + j, none⟩) hbl).trans this⟩) (by rw [List.length_take, List.length_cons]; omega) (by omega) (by unfold maxLen; omega)
      have HD : Hid (dr = (match readR ((x :: xs).take X) with
        | none => ⟨zeroRec, 0, 3⟩
        | some r => if recI r ≠ 0 then ⟨zeroRec, 0, recI r⟩ else ⟨r, (X : Int), 0⟩)) := by
        rw [hdr, decR, if_neg (by omega), hX]; exact rfl
      have HRD := hide hrd
      clear hb hc hdr hrd
      go_enter Try.func36, Try.ntmps36
      go_wp2_with fail
      have HBW : Hid (Below w.heap.size w (w.alloc (.cells #[.int .i64 0, .int .i64 0, .int .i64 0, .string ⟨#[]⟩, .string ⟨#[]⟩, .string ⟨#[]⟩, .int .i64 0, .string ⟨#[]⟩] 47))) := (Below.refl _ _).alloc (Nat.le_refl _) _
      have HV : Hid ((w.alloc (.cells #[.int .i64 0, .int .i64 0, .int .i64 0, .string ⟨#[]⟩, .string ⟨#[]⟩, .string ⟨#[]⟩, .int .i64 0, .string ⟨#[]⟩] 47)).heap[w.heap.size]? = some (.cells #[.int .i64 0, .int .i64 0, .int .i64 0, .string ⟨#[]⟩, .string ⟨#[]⟩, .string ⟨#[]⟩, .int .i64 0, .string ⟨#[]⟩] 47 (0, 0))) := heap_alloc_new w _
      have hzW : (w.alloc (.cells #[.int .i64 0, .int .i64 0, .int .i64 0, .string ⟨#[]⟩, .string ⟨#[]⟩, .string ⟨#[]⟩, .int .i64 0, .string ⟨#[]⟩] 47)).heap.size = w.heap.size + 1 := by simp
      refine ((unhide HRD) _ (unhide HBW)).mono ?_
      rintro e w1 ⟨bel1, rc, rn, rk, ra, rb, rt, rdd, ru, ok, rfl, hres⟩
      generalize w.alloc (.cells #[.int .i64 0, .int .i64 0, .int .i64 0, .string ⟨#[]⟩, .string ⟨#[]⟩, .string ⟨#[]⟩, .int .i64 0, .string ⟨#[]⟩] 47) = W at bel1 HBW HV hzW
      have HV1 := hide ((bel1.block w.heap.size (by omega)).trans (unhide HV))
      have HB1 := hide ((unhide HBW).trans (bel1.mono (by omega)))
      have hz1 : w.heap.size < w1.heap.size := by have := bel1.size; omega
      obtain ⟨⟨z0, z1, z2, z3⟩, ⟨z4, z5, z6, z7⟩, fz⟩ := eight (unhide HV1)
      clear bel1 c0
      rcases hres with ⟨rfl, hN⟩ | ⟨rfl, hS⟩
      · have HDN : Hid (dr = ⟨zeroRec, 0, 3⟩) := by rw [HD.out, hN]; exact rfl
        clear hN
        go_wp2
        have hb8 := set8_blk (unhide HV1) (.int .i64 0) (.int .i64 0) (.int .i64 0) (.string ⟨#[]⟩) (.string ⟨#[]⟩) (.string ⟨#[]⟩) (.int .i64 0) (.string ⟨#[]⟩)
        have hk8 := set8_kept w1 w.heap.size (.int .i64 0) (.int .i64 0) (.int .i64 0) (.string ⟨#[]⟩) (.string ⟨#[]⟩) (.string ⟨#[]⟩) (.int .i64 0) (.string ⟨#[]⟩)
        unfold set8 at hb8 hk8
        replace hb8 := (Below.heap_alloc _ (.cells #[.int .i64 rc, .int .i64 rn, .int .i64 rk, .string ra, .string rb, .string rt, .int .i64 rdd, .string ru] 47) w.heap.size (Array.getElem?_eq_some_iff.1 hb8).1).trans hb8
        replace hk8 := hk8.trans (Kept.of_below (own := []) ((Below.refl _ _).alloc (Nat.le_refl _) (.cells #[.int .i64 rc, .int .i64 rn, .int .i64 rk, .string ra, .string rb, .string rt, .int .i64 rdd, .string ru] 47))) (by simp)
        generalize hw8 : (((((((((w1.setCell ⟨w.heap.size, 0, none⟩ (.int .i64 0)).setCell ⟨w.heap.size, 1, none⟩ (.int .i64 0)).setCell ⟨w.heap.size, 2, none⟩ (.int .i64 0)).setCell ⟨w.heap.size, 3, none⟩ (.string ⟨#[]⟩)).setCell ⟨w.heap.size, 4, none⟩ (.string ⟨#[]⟩)).setCell ⟨w.heap.size, 5, none⟩ (.string ⟨#[]⟩)).setCell ⟨w.heap.size, 6, none⟩ (.int .i64 0)).setCell ⟨w.heap.size, 7, none⟩ (.string ⟨#[]⟩)).alloc (.cells #[.int .i64 rc, .int .i64 rn, .int .i64 rk, .string ra, .string rb, .string rt, .int .i64 rdd, .string ru] 47)) = w8 at hb8 hk8 ⊢
        obtain ⟨⟨q0, q1, q2, q3⟩, ⟨q4, q5, q6, q7⟩, _⟩ := eight hb8
        have bel : Below w.heap.size w w8 := (unhide HB1).trans (hk8.below (by have := (unhide HB1).size; omega) (by simp))
        refine bodyPost_ret (v := .tuple #[.agg #[.int .i64 0, .int .i64 0, .int .i64 0, .string ⟨#[]⟩, .string ⟨#[]⟩, .string ⟨#[]⟩, .int .i64 0, .string ⟨#[]⟩], .int .i64 0, .int .i64 3]) (by simp [results, Try.results36, go_sem, q0, q1, q2, q3, q4, q5, q6, q7]) rfl ?_
        rw [HDN.out]
        exact ⟨bel, rfl⟩
      · obtain ⟨s1, s2, s3, hu⟩ := readR_sizes hS
        dsimp only at s1 s2 s3 hu
        have hck := fun W => cCheck_any rc rn rk ra rb rt rdd ru W (by unfold maxLen; omega) (by unfold maxLen; omega) (by unfold maxLen; omega)
        rw [hS] at HD
        have HD2 : Hid (dr = if recI ⟨rc, rn, ⟨rk, ra, rb, rt⟩, rdd, ru⟩ ≠ 0 then ⟨zeroRec, 0, recI ⟨rc, rn, ⟨rk, ra, rb, rt⟩, rdd, ru⟩⟩ else ⟨⟨rc, rn, ⟨rk, ra, rb, rt⟩, rdd, ru⟩, (X : Int), 0⟩) := unhide HD
        generalize recI ⟨rc, rn, ⟨rk, ra, rb, rt⟩, rdd, ru⟩ = code at HD2 hck
        have HCK := hide hck
        clear hS HD hck s1 s2 s3 hu
        go_wp2_with fail
        refine ((unhide HCK) _).mono ?_
        rintro e w2 ⟨rfl, bel2⟩
        have hz2 : w1.heap.size + 1 ≤ w2.heap.size := by have := bel2.size; simp at this; omega
        have HR2 := hide ((bel2.block w1.heap.size (by simp)).trans (heap_alloc_new w1 (.cells #[.int .i64 rc, .int .i64 rn, .int .i64 rk, .string ra, .string rb, .string rt, .int .i64 rdd, .string ru] 47)))
        have HV2 := hide ((bel2.block w.heap.size (by simp; omega)).trans ((Below.heap_alloc w1 _ w.heap.size hz1).trans (unhide HV1)))
        have HB2 := hide (((unhide HB1).alloc (by omega) (.cells #[.int .i64 rc, .int .i64 rn, .int .i64 rk, .string ra, .string rb, .string rt, .int .i64 rdd, .string ru] 47)).trans (bel2.mono (by simp; omega)))
        clear bel2 z0 z1 z2 z3 z4 z5 z6 z7 fz
        obtain ⟨⟨z0, z1, z2, z3⟩, ⟨z4, z5, z6, z7⟩, fz⟩ := eight (unhide HV2)
        obtain ⟨⟨y0, y1, y2, y3⟩, ⟨y4, y5, y6, y7⟩, _⟩ := eight (unhide HR2)
        by_cases hcode : code = 0
        · subst hcode
          have HDN : Hid (dr = ⟨⟨rc, rn, ⟨rk, ra, rb, rt⟩, rdd, ru⟩, (X : Int), 0⟩) := by rw [HD2.out, if_neg (by simp)]; exact rfl
          go_wp2
          have hb8 := set8_blk (unhide HV2) (.int .i64 rc) (.int .i64 rn) (.int .i64 rk) (.string ra) (.string rb) (.string rt) (.int .i64 rdd) (.string ru)
          have hk8 := set8_kept w2 w.heap.size (.int .i64 rc) (.int .i64 rn) (.int .i64 rk) (.string ra) (.string rb) (.string rt) (.int .i64 rdd) (.string ru)
          unfold set8 at hb8 hk8
          generalize hw8 : ((((((((w2.setCell ⟨w.heap.size, 0, none⟩ (.int .i64 rc)).setCell ⟨w.heap.size, 1, none⟩ (.int .i64 rn)).setCell ⟨w.heap.size, 2, none⟩ (.int .i64 rk)).setCell ⟨w.heap.size, 3, none⟩ (.string ra)).setCell ⟨w.heap.size, 4, none⟩ (.string rb)).setCell ⟨w.heap.size, 5, none⟩ (.string rt)).setCell ⟨w.heap.size, 6, none⟩ (.int .i64 rdd)).setCell ⟨w.heap.size, 7, none⟩ (.string ru)) = w8 at hb8 hk8 ⊢
          obtain ⟨⟨q0, q1, q2, q3⟩, ⟨q4, q5, q6, q7⟩, _⟩ := eight hb8
          have bel : Below w.heap.size w w8 := (unhide HB2).trans (hk8.below (by have := (unhide HB2).size; omega) (by simp))
          refine bodyPost_ret (v := .tuple #[.agg #[.int .i64 rc, .int .i64 rn, .int .i64 rk, .string ra, .string rb, .string rt, .int .i64 rdd, .string ru], .int .i64 (X : Int), .int .i64 0]) (by simp [results, Try.results36, go_sem, q0, q1, q2, q3, q4, q5, q6, q7]) rfl ?_
          rw [HDN.out]
          exact ⟨bel, rfl⟩
        · have HDN : Hid (dr = ⟨zeroRec, 0, code⟩) := by rw [HD2.out, if_pos hcode]; exact rfl
          go_wp2
          have hb8 := set8_blk (unhide HV2) (.int .i64 0) (.int .i64 0) (.int .i64 0) (.string ⟨#[]⟩) (.string ⟨#[]⟩) (.string ⟨#[]⟩) (.int .i64 0) (.string ⟨#[]⟩)
          have hk8 := set8_kept w2 w.heap.size (.int .i64 0) (.int .i64 0) (.int .i64 0) (.string ⟨#[]⟩) (.string ⟨#[]⟩) (.string ⟨#[]⟩) (.int .i64 0) (.string ⟨#[]⟩)
          unfold set8 at hb8 hk8
          generalize hw8 : ((((((((w2.setCell ⟨w.heap.size, 0, none⟩ (.int .i64 0)).setCell ⟨w.heap.size, 1, none⟩ (.int .i64 0)).setCell ⟨w.heap.size, 2, none⟩ (.int .i64 0)).setCell ⟨w.heap.size, 3, none⟩ (.string ⟨#[]⟩)).setCell ⟨w.heap.size, 4, none⟩ (.string ⟨#[]⟩)).setCell ⟨w.heap.size, 5, none⟩ (.string ⟨#[]⟩)).setCell ⟨w.heap.size, 6, none⟩ (.int .i64 0)).setCell ⟨w.heap.size, 7, none⟩ (.string ⟨#[]⟩)) = w8 at hb8 hk8 ⊢
          obtain ⟨⟨q0, q1, q2, q3⟩, ⟨q4, q5, q6, q7⟩, _⟩ := eight hb8
          have bel : Below w.heap.size w w8 := (unhide HB2).trans (hk8.below (by have := (unhide HB2).size; omega) (by simp))
          refine bodyPost_ret (v := .tuple #[.agg #[.int .i64 0, .int .i64 0, .int .i64 0, .string ⟨#[]⟩, .string ⟨#[]⟩, .string ⟨#[]⟩, .int .i64 0, .string ⟨#[]⟩], .int .i64 0, .int .i64 code]) (by simp [results, Try.results36, go_sem, q0, q1, q2, q3, q4, q5, q6, q7]) rfl ?_
          rw [HDN.out]
          exact ⟨bel, rfl⟩

end Go.Proofs.Ytlndphpidkacgaa
