/- Records in a row: SameRecords of the same ones; records one behind the other, cut somewhere. -/
import Derived.Test.YtlndphpidkacgaaCj
import Derived.BigQuiet
namespace Go.Proofs.Ytlndphpidkacgaa
open Go.RowKit
set_option linter.unusedSimpArgs false
set_option linter.unusedVariables false

/-- A record lies there. -/
structure RecAt (w : World) (b o : Nat) (r : ARec) : Prop where
  x0 : w.cell? ⟨b, o, none⟩ = some (.int .i64 r.client)
  x1 : w.cell? ⟨b, o + 1, none⟩ = some (.int .i64 r.no)
  x2 : w.cell? ⟨b, o + 2, none⟩ = some (.int .i64 r.call.kind)
  x3 : w.cell? ⟨b, o + 3, none⟩ = some (.string r.call.name)
  x4 : w.cell? ⟨b, o + 4, none⟩ = some (.string r.call.dst)
  x5 : w.cell? ⟨b, o + 5, none⟩ = some (.string r.call.text)
  x6 : w.cell? ⟨b, o + 6, none⟩ = some (.int .i64 r.code)
  x7 : w.cell? ⟨b, o + 7, none⟩ = some (.string r.ans)
theorem RecAt.lt {w : World} {b o : Nat} {r : ARec} (h : RecAt w b o r) : b < w.heap.size := World.block_lt_of_cell? w _ h.x0
theorem RecAt.same {w W : World} {b o : Nat} {r : ARec} (h : RecAt w b o r) (hb : W.heap[b]? = w.heap[b]?) : RecAt W b o r := by
  have hc : ∀ j, W.cell? ⟨b, j, none⟩ = w.cell? ⟨b, j, none⟩ := fun j => by simp only [World.cell?, hb]
  exact ⟨(hc _).trans h.x0, (hc _).trans h.x1, (hc _).trans h.x2, (hc _).trans h.x3, (hc _).trans h.x4, (hc _).trans h.x5, (hc _).trans h.x6, (hc _).trans h.x7⟩
theorem RecAt.below {w W : World} {m b o : Nat} {r : ARec} (h : RecAt w b o r) (hb : Below m w W) (hm : b < m) : RecAt W b o r := h.same (hb.block b hm)

/-- Records one behind the other lie there. -/
def RecsAt (w : World) (a : Option Addr) (n : Nat) (rs : List ARec) : Prop :=
  rs.length = n ∧ (0 < n → ∃ b off, a = some ⟨b, off, none⟩ ∧ ∀ (j : Nat) (r : ARec), rs[j]? = some r → RecAt w b (off + j * 8) r)
theorem RecsAt.same {w W : World} {a : Option Addr} {n : Nat} {rs : List ARec} (h : RecsAt w a n rs) (hs : ∀ A, a = some A → W.heap[A.block]? = w.heap[A.block]?) : RecsAt W a n rs := by
  refine ⟨h.1, fun h0 => ?_⟩
  obtain ⟨b, off, rfl, hc⟩ := h.2 h0
  exact ⟨b, off, rfl, fun j r hr => (hc j r hr).same (hs _ rfl)⟩
theorem RecsAt.below {w W : World} {a : Option Addr} {n : Nat} {rs : List ARec} (h : RecsAt w a n rs) (hb : Below w.heap.size w W) : RecsAt W a n rs := by
  refine ⟨h.1, fun h0 => ?_⟩
  obtain ⟨b, off, rfl, hc⟩ := h.2 h0
  exact ⟨b, off, rfl, fun j r hr => (hc j r hr).below hb (hc j r hr).lt⟩
theorem RecsAt.take {w : World} {a : Option Addr} {n : Nat} {rs : List ARec} (h : RecsAt w a n rs) (m : Nat) (hm : m ≤ n) : RecsAt w a m (rs.take m) := by
  refine ⟨by rw [List.length_take, h.1]; omega, fun h0 => ?_⟩
  obtain ⟨b, off, rfl, hc⟩ := h.2 (by omega)
  refine ⟨b, off, rfl, fun j r hr => hc j r ?_⟩
  rw [List.getElem?_take] at hr
  split at hr
  · exact hr
  · cases hr

theorem flat8 : ∀ (rs : List ARec) (j i : Nat) (r : ARec), rs[j]? = some r → i < 8 → (rs.flatMap rcells)[j * 8 + i]? = (rcells r)[i]?
  | [], j, i, r, h, _ => by simp at h
  | q :: rs, 0, i, r, h, hi => by
    simp at h
    subst h
    rw [List.flatMap_cons, Nat.zero_mul, Nat.zero_add, List.getElem?_append_left (by simp [rcells]; omega)]
  | q :: rs, j + 1, i, r, h, hi => by
    have h8 : (rcells q).length = 8 := rfl
    rw [List.flatMap_cons, List.getElem?_append_right (by rw [h8]; omega), h8, show (j + 1) * 8 + i - 8 = j * 8 + i by omega]
    exact flat8 rs j i r (by simpa using h) hi

theorem recs_row {w : World} {base : Nat} {a : Option Addr} {n c : Nat} {rs : List ARec} (h : w.ownsRow base 47 8 (.slice a n c) n (rs.flatMap rcells)) (hn : rs.length = n) : RecsAt w a n rs := by
  refine ⟨hn, fun h0 => ?_⟩
  obtain ⟨g, cap, e, _⟩ := World.ownsRow.form h h0
  cases e
  refine ⟨g, 0, rfl, fun j r hr => ?_⟩
  have hc : ∀ i, i < 8 → w.cell? ⟨g, j * 8 + i, none⟩ = (rcells r)[i]? := fun i hi => by
    have h1 := flat8 rs j i r hr hi
    obtain ⟨v, hv⟩ : ∃ v, (rcells r)[i]? = some v := ⟨_, List.getElem?_eq_getElem (by simp [rcells]; omega)⟩
    rw [hv] at h1 ⊢
    have := World.ownsRow.cells (v := .slice (some ⟨g, 0, none⟩) n c) h (g := g) rfl (j * 8 + i) v h1
    rw [addr_add, Nat.zero_add] at this
    exact this
  rw [Nat.zero_add]
  exact ⟨hc 0 (by omega), hc 1 (by omega), hc 2 (by omega), hc 3 (by omega), hc 4 (by omega), hc 5 (by omega), hc 6 (by omega), hc 7 (by omega)⟩

set_option maxRecDepth 100000 in
set_option maxHeartbeats 4000000 in
theorem SameRecords_eq (a b : Option Addr) (n ca cb : Nat) (rs : List ARec) (w : World) (ha : RecsAt w a n rs) (hb : RecsAt w b n rs) (hn : n ≤ 1000000) :
    Calls Try.prog 41 #[.slice a n ca, .slice b n cb] w fun e w' => e = .returned (.bool true) ∧ Below w.heap.size w w' := by
  have HA := hide ha
  have HB := hide hb
  clear ha hb
  go_enter Try.func41, Try.ntmps41
  go_wp2
  go_loopw [5] (fun i wr => ∃ k : Nat, k ≤ n ∧ i = .int .i64 k ∧ Hid (Below w.heap.size w wr)) (fun i _ => n - (intOf i).toNat)
  case atStart => exact ⟨0, Nat.zero_le _, rfl, Below.refl _ _⟩
  case round =>
    obtain ⟨k, hk, rfl, HW⟩ := hrel
    by_cases hlt : (k : Int) < (n : Int)
    · obtain ⟨r, hr⟩ : ∃ r, rs[k]? = some r := ⟨_, List.getElem?_eq_getElem (by rw [(unhide HA).1]; omega)⟩
      obtain ⟨b1, o1, rfl, hx⟩ := ((unhide HA).below (unhide HW)).2 (by omega)
      obtain ⟨b2, o2, rfl, hy⟩ := ((unhide HB).below (unhide HW)).2 (by omega)
      obtain ⟨x0, x1, x2, x3, x4, x5, x6, x7⟩ := hx k r hr
      obtain ⟨y0, y1, y2, y3, y4, y5, y6, y7⟩ := hy k r hr
      have e47 := fun W => neq47 r r W
      rw [recB_self] at e47
      clear hx hy hr
      obtain ⟨rc, rn, ⟨rk, ra, rb, rt⟩, rd, ru⟩ := r
      dsimp only [ARec.val, Bool.not_true] at *
      go_wp2_with fail
      go_quiet (fail)
      go_wp2
      go_roundw
      case rel => exact ⟨k + 1, by omega, by go_num, ⟨(unhide HW).os, (unhide HW).tape, (unhide HW).output, (unhide HW).size, (unhide HW).block⟩⟩
      case measure => simp [intOf]; omega
    · go_wp2
      go_ret
      exact ⟨rfl, unhide HW⟩

/-- Where the first m records end. -/
def endAt (rs : List ARec) (m : Nat) : Nat := ((rs.take m).flatMap encL).length

theorem decR_cut {r : ARec} (h : recI r = 0) (k : Nat) (hk : k < (encL r).length) : (decR ((encL r).take k)).code ≠ 0 := by
  have ho := rec_ok h
  obtain ⟨hs, hl⟩ := texts_small ho
  have hn : (UInt8.ofNat (5 + (tb r.texts).length)).toNat = (encL r).length := by rw [encL_length]; simp; omega
  obtain ⟨ys, hys⟩ : ∃ ys, encL r = UInt8.ofNat (5 + (tb r.texts).length) :: ys := ⟨_, rfl⟩
  rw [hys] at hn hk ⊢
  cases k with
  | zero => simp [decR]
  | succ k =>
    rw [List.take_succ_cons, decR, if_pos (by rw [hn, List.length_take]; simp at hk; simp; omega)]
    simp

theorem allR_cut : ∀ (rs : List ARec) (k m : Nat), (∀ r, r ∈ rs → recI r = 0) → m ≤ rs.length → endAt rs m ≤ k → (m < rs.length → k < endAt rs (m + 1)) → allR ((rs.flatMap encL).take k) = (rs.take m, endAt rs m)
  | [], k, m, _, hm, _, _ => by
    obtain rfl : m = 0 := by simpa using hm
    simp [endAt, allR_nil]
  | r :: rs, k, 0, hr, _, _, h2 => by
    have h3 := h2 (by simp)
    have h4 : endAt (r :: rs) 1 = (encL r).length := by simp [endAt]
    rw [h4] at h3
    have := decR_cut (hr r (by simp)) k h3
    rw [List.flatMap_cons, List.take_append_of_le_length (by omega), allR_stop this]
    simp [endAt]
  | r :: rs, k, m + 1, hr, hm, h1, h2 => by
    have e1 : endAt (r :: rs) (m + 1) = (encL r).length + endAt rs m := by simp [endAt]
    have e2 : endAt (r :: rs) (m + 1 + 1) = (encL r).length + endAt rs (m + 1) := by simp [endAt]
    rw [e1] at h1
    rw [e2] at h2
    have ih := allR_cut rs (k - (encL r).length) m (fun q hq => hr q (by simp [hq])) (by simpa using hm) (by omega) (fun h => by have := h2 (by simpa using h); omega)
    have hd := decR_enc (hr r (by simp)) ((rs.flatMap encL).take (k - (encL r).length))
    have e3 : ((r :: rs).flatMap encL).take k = encL r ++ (rs.flatMap encL).take (k - (encL r).length) := by
      rw [List.flatMap_cons, List.take_append, List.take_of_length_le (l := encL r) (by omega)]
    rw [e3, allR_step (by rw [hd]), hd]
    simp only [Int.toNat_natCast, List.drop_left]
    rw [ih, e1]
    simp

theorem encL_le {r : ARec} (h : recI r = 0) : 5 ≤ (encL r).length ∧ (encL r).length ≤ 255 := by
  have := (texts_small (rec_ok h)).2
  rw [encL_length]
  omega
theorem flat_le : ∀ (rs : List ARec), (∀ r, r ∈ rs → recI r = 0) → (rs.flatMap encL).length ≤ rs.length * 255
  | [], _ => by simp
  | r :: rs, h => by
    have h1 := (encL_le (h r (by simp))).2
    have h2 := flat_le rs (fun q hq => h q (by simp [hq]))
    rw [List.flatMap_cons, List.length_append, List.length_cons]
    omega

end Go.Proofs.Ytlndphpidkacgaa
