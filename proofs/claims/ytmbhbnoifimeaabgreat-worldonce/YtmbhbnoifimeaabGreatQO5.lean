/- Texts joined, what is needed of them: Vb Kb Kc Kd Ke Kf Ki Kj Vd Ve Vg Vf. -/
import Derived.Test.YtmbhbnoifimeaabGreatQO4
namespace Go.Proofs.YtmbhbnoifimeaabGreat
open Go.RowKit
set_option linter.unusedSimpArgs false
set_option linter.unusedVariables false

theorem take_cons (p : APkt) (ms : List APkt) : aTakeM (p :: ms) 0 = p ∧ aTakeL (p :: ms) 0 = ms := by
  have h : rnd 0 (p :: ms).length = 0 := rnd0 (by simp)
  unfold aTakeM aTakeL
  rw [h]
  simp
theorem pop_nil {A : AW} (h : A.ms = []) : A.pop = A := by unfold AW.pop; rw [if_pos (by rw [h]; rfl)]
theorem pop_cons {A : AW} {p : APkt} {ms : List APkt} (h : A.ms = p :: ms) : A.pop = (⟨A.log, A.cl, ms⟩ : AW).come p := by
  unfold AW.pop AW.took
  rw [if_neg (by rw [h]; simp), h, (take_cons p ms).1, (take_cons p ms).2]
theorem wght_cons (p : APkt) (ms : List APkt) : wght (p :: ms) = (if p.reply = true then 1 else 2) + wght ms := by simp [wght]
theorem wght_snoc (p : APkt) (ms : List APkt) : wght (ms ++ [p]) = wght ms + (if p.reply = true then 1 else 2) := by simp [wght]
theorem wght_send (p : APkt) (ms : List APkt) (h : p.reply = true) : wght (aSend ms p) ≤ wght ms + 1 := by
  unfold aSend
  split
  · rw [wght_snoc, if_pos h]; omega
  · omega
theorem come_wght (A : AW) (p : APkt) : wght (A.come p).ms + 1 ≤ wght A.ms + (if p.reply = true then 1 else 2) := by
  unfold AW.come
  split
  · unfold AW.hear; split <;> exact Nat.le_refl _
  · unfold AW.serve
    dsimp only
    split
    · have := wght_send (p.back (aCall A.log p.client p.no p.call).code (aCall A.log p.client p.no p.call).text) A.ms rfl
      omega
    · omega
theorem pop_wght {A : AW} (h : A.ms.length ≠ 0) : wght A.pop.ms < wght A.ms := by
  cases hm : A.ms with
  | nil => rw [hm] at h; exact absurd rfl h
  | cons p ms =>
    rw [pop_cons hm, wght_cons]
    have := come_wght ⟨A.log, A.cl, ms⟩ p
    dsimp only at this
    omega
theorem pops_nil {A : AW} (h : A.ms = []) (k : Nat) : AW.pops k A = A := by
  induction k with
  | zero => rfl
  | succ k ih => show AW.pops k A.pop = A; rw [pop_nil h]; exact ih
theorem pops_add (j k : Nat) (A : AW) : AW.pops (j + k) A = AW.pops k (AW.pops j A) := by
  induction j generalizing A with
  | zero => rw [Nat.zero_add]; rfl
  | succ j ih => rw [Nat.succ_add]; exact ih A.pop
theorem pops_succ (k : Nat) (A : AW) : AW.pops (k + 1) A = (AW.pops k A).pop := pops_add k 1 A
theorem pops_empty (k : Nat) (A : AW) (h : wght A.ms ≤ k) : (AW.pops k A).ms = [] := by
  induction k generalizing A with
  | zero =>
    show A.ms = []
    cases hm : A.ms with
    | nil => rfl
    | cons p ms => rw [hm, wght_cons] at h; split at h <;> omega
  | succ k ih =>
    by_cases h0 : A.ms.length = 0
    · have e : A.ms = [] := List.length_eq_zero_iff.1 h0
      rw [pops_nil e]; exact e
    · have := pop_wght h0
      exact ih A.pop (by omega)
theorem drain_empty (A : AW) : A.drain.ms = [] := pops_empty _ _ (Nat.le_refl _)
theorem drain_of {A : AW} {j : Nat} (h : (AW.pops j A).ms = []) : AW.pops j A = A.drain := by
  have h1 : AW.pops (j + wght A.ms) A = AW.pops j A := by rw [pops_add, pops_nil h]
  have h2 : AW.pops (wght A.ms + j) A = A.drain := by rw [pops_add]; exact pops_nil (drain_empty A) j
  rw [Nat.add_comm] at h1
  rw [← h1, h2]
/-- Sending changes only the packets. -/
theorem send_two (A : AW) (n : Int) : (A.send n).2.cl = A.cl ∧ (A.send n).2.log = A.log ∧ (∀ p, p ∈ A.ms → p ∈ (A.send n).2.ms) ∧ (A.send n).2.ms.length ≤ A.ms.length + 1 := by
  unfold AW.send
  split
  · exact ⟨rfl, rfl, fun p h => h, by dsimp only; omega⟩
  split
  · exact ⟨rfl, rfl, fun p h => h, by dsimp only; omega⟩
  split
  · rename_i h
    refine ⟨rfl, rfl, fun p hp => ?_, ?_⟩
    · unfold aSend; rw [if_pos h]; exact List.mem_append_left _ hp
    · dsimp only; unfold aSend; rw [if_pos h]; simp
  · exact ⟨rfl, rfl, fun p h => h, by dsimp only; omega⟩
/-- A call that may change something, is open, and is not in the log yet. -/
def pendC (l : Int) (c : ACli) : Nat := if c.op = true ∧ changesB c.call.kind = true ∧ l < c.no then 1 else 0
def pend (A : AW) (n : Nat) : Nat := pendC (lastR A.log n).no (A.cl n)
/-- The log has room for all that are open. -/
def Room (A : AW) : Prop := (logB A.log).length + 28 * (pend A 0 + pend A 1 + pend A 2) ≤ 2000
/-- The server answers what a client waits for. -/
theorem answers {A : AW} (h : WInv A) (hR : Room A) {n : Nat} (hn : n < 3) (hop : (A.cl n).op = true) : (aCall A.log n (A.cl n).no (A.cl n).call).err = 0 := by
  have hro := (h.cok n hn).room hop
  have hchk := h.chk n hn (A.cl n).call (by unfold ACli.calls; rw [if_pos hop]; simp)
  unfold aCall
  rw [if_neg (by unfold ACli.no; omega), if_neg (by simp [hchk])]
  split
  · rfl
  rename_i h3
  have hch : changesB (A.cl n).call.kind = true := by simpa using h3
  split
  · rename_i h4
    have e1 : pend A n = 1 := by unfold pend pendC; rw [if_pos ⟨hop, hch, h4⟩]
    have hlen := enc_new (client := (n : Int)) (no := (A.cl n).no) (by unfold ACli.no; omega) hchk hch 0 ⟨#[]⟩
    have hs : 1 ≤ pend A 0 + pend A 1 + pend A 2 := by
      match n, hn with
      | 0, _ => omega
      | 1, _ => omega
      | 2, _ => omega
    unfold Room at hR
    rw [if_neg (by omega)]
  · rename_i h4
    rcases lastR_or A.log n with ⟨h5, _⟩ | ⟨h5, h6⟩
    · rw [h5] at h4
      have : (zeroRec).no = 0 := rfl
      unfold ACli.no at h4
      omega
    · have k := h.lg _ h5
      have hi := k.is
      rw [h6, Int.toNat_natCast] at hi
      have hlen := (List.getElem?_eq_some_iff.1 hi).1
      rw [calls_len, if_pos hop] at hlen
      have hno : (A.cl n).no = (lastR A.log n).no := by unfold ACli.no at h4 ⊢; have := k.no; omega
      have e : ((lastR A.log n).no - 1).toNat = (A.cl n).done.length := by unfold ACli.no at hno; omega
      rw [e, calls_open hop] at hi
      rw [if_pos ⟨hno, by rw [Option.some.inj hi]; exact callB_self _⟩]
/-- Two records of one client and number are one. -/
theorem rise_one {L : List ARec} (h : Rise L) {i j : Nat} {r q : ARec} (hr : L[i]? = some r) (hq : L[j]? = some q) (hc : r.client = q.client) (hn : r.no = q.no) : i = j := by
  rcases Nat.lt_trichotomy i j with h1 | h1 | h1
  · have := h i j r q h1 hr hq hc; omega
  · exact h1
  · have := h j i q r h1 hq hr hc.symm; omega
theorem rise_eq {L : List ARec} (h : Rise L) {r q : ARec} (hr : r ∈ L) (hq : q ∈ L) (hc : r.client = q.client) (hn : r.no = q.no) : r = q := by
  obtain ⟨i, hi⟩ := List.mem_iff_getElem?.1 hr
  obtain ⟨j, hj⟩ := List.mem_iff_getElem?.1 hq
  have e := rise_one h hi hj hc hn
  subst e
  rw [hi] at hj
  exact Option.some.inj hj
/-- A record of the log that has an answered call's number is that call's. -/
theorem once_eq {A : AW} (h : WInv A) {n : Nat} (hn : n < 3) {d r : ARec} (hd : d ∈ (A.cl n).done) (hr : r ∈ A.log) (hc : r.client = (n : Int)) (hno : r.no = d.no) : r = d ∧ changesB d.call.kind = true := by
  obtain ⟨k, hk⟩ := List.mem_iff_getElem?.1 hd
  obtain ⟨k1, k2⟩ := (h.cok n hn).num k d hk
  have l := h.lg r hr
  have hi := l.is
  rw [hc, Int.toNat_natCast, hno, k2] at hi
  have e : ((k : Int) + 1 - 1).toNat = k := by omega
  rw [e, calls_done hk] at hi
  have hch : changesB d.call.kind = true := by rw [Option.some.inj hi]; exact l.ch
  refine ⟨rise_eq h.up hr (h.dn n hn d hd hch) ?_ hno, hch⟩
  rw [hc, k1, h.me n hn]
def hitB (c no : Int) (r : ARec) : Bool := decide (r.client = c) && decide (r.no = no)
def cnt (L : List ARec) (c no : Int) : Nat := (L.filter (hitB c no)).length
theorem cnt_snoc (L : List ARec) (r : ARec) (c no : Int) : cnt (L ++ [r]) c no = cnt L c no + (if hitB c no r = true then 1 else 0) := by
  unfold cnt
  rw [List.filter_append, List.length_append]
  cases hb : hitB c no r <;> simp [List.filter_cons, hb]
theorem cnt_zero {L : List ARec} {c no : Int} (h : ∀ r, r ∈ L → ¬ (r.client = c ∧ r.no = no)) : cnt L c no = 0 := by
  unfold cnt
  rw [List.length_eq_zero_iff, List.filter_eq_nil_iff]
  intro r hr hh
  unfold hitB at hh
  simp at hh
  exact h r hr hh
theorem cnt_one {L : List ARec} (h : Rise L) {r : ARec} (hr : r ∈ L) : cnt L r.client r.no = 1 := by
  induction L using snoc_ind with
  | h0 => simp at hr
  | h1 K q ih =>
    have hK : Rise K := fun i j a b hij ha hb hc => h i j a b hij (by rw [List.getElem?_append_left (List.getElem?_eq_some_iff.1 ha).1]; exact ha) (by rw [List.getElem?_append_left (List.getElem?_eq_some_iff.1 hb).1]; exact hb) hc
    rw [cnt_snoc]
    by_cases hq : hitB r.client r.no q = true
    · rw [if_pos hq]
      unfold hitB at hq
      simp at hq
      rw [cnt_zero]
      intro a ha hh
      obtain ⟨i, hi⟩ := List.mem_iff_getElem?.1 ha
      have hil := (List.getElem?_eq_some_iff.1 hi).1
      have := rise_one h (i := i) (j := K.length) (r := a) (q := q) (by rw [List.getElem?_append_left hil]; exact hi) (by simp) (by rw [hh.1, hq.1]) (by rw [hh.2, hq.2])
      omega
    · rw [if_neg hq]
      rcases List.mem_append.1 hr with h1 | h1
      · rw [ih hK h1]
      · simp at h1
        subst h1
        exact absurd (by simp [hitB]) hq
theorem once_cnt {A : AW} (h : WInv A) {n : Nat} (hn : n < 3) {d : ARec} (hd : d ∈ (A.cl n).done) : cnt A.log n d.no = if changesB d.call.kind = true then 1 else 0 := by
  by_cases hc : changesB d.call.kind = true
  · rw [if_pos hc]
    obtain ⟨k, hk⟩ := List.mem_iff_getElem?.1 hd
    obtain ⟨k1, k2⟩ := (h.cok n hn).num k d hk
    have := cnt_one h.up (h.dn n hn d hd hc)
    rw [k1, h.me n hn] at this
    exact this
  · rw [if_neg hc]
    exact cnt_zero fun r hr hh => hc (once_eq h hn hd hr hh.1 hh.2).2

end Go.Proofs.YtmbhbnoifimeaabGreat

namespace Go.Proofs.YtmbhbnoifimeaabGreat
open Go.RowKit
set_option linter.unusedSimpArgs false
set_option linter.unusedVariables false

theorem New_some (me : Int) (w : World) (h : ¬ (me < 0 ∨ 3 ≤ me)) : Calls Tryz.prog 37 #[.int .i64 me] w fun e w' => e = .returned (.pointer (some ⟨w.heap.size, 0, none⟩)) ∧ w' = w.alloc (.cells #[.int .i64 me, .slice none 0 0, .int .i64 0, .string ⟨#[]⟩, .string ⟨#[]⟩, .string ⟨#[]⟩, .bool false] 85) := by
  have h0 : ¬ me < 0 := by omega
  have h3 : ¬ (3 : Int) ≤ me := by omega
  clear h
  go_enter Tryz.func37, Tryz.ntmps37
  go_wp2
  go_ret
  exact ⟨rfl, rfl⟩
theorem seven {w : World} {b : Nat} {x0 x1 x2 x3 x4 x5 x6 : Value} {e : TypeId} (h : w.heap[b]? = some (.cells #[x0, x1, x2, x3, x4, x5, x6] e (0, 0))) :
    (w.cell? ⟨b, 0, none⟩ = some x0 ∧ w.cell? ⟨b, 1, none⟩ = some x1 ∧ w.cell? ⟨b, 2, none⟩ = some x2 ∧ w.cell? ⟨b, 3, none⟩ = some x3) ∧ (w.cell? ⟨b, 4, none⟩ = some x4 ∧ w.cell? ⟨b, 5, none⟩ = some x5 ∧ w.cell? ⟨b, 6, none⟩ = some x6) ∧ ∀ j, w.frozen? ⟨b, j, none⟩ = false := by
  refine ⟨⟨?_, ?_, ?_, ?_⟩, ⟨?_, ?_, ?_⟩, fun j => frozen_of_row w b j _ _ h⟩ <;> rw [cell_of_row w b _ _ _ _ h] <;> rfl
theorem eightK {w : World} {b : Nat} {x0 x1 x2 x3 x4 x5 x6 x7 : Value} {e : TypeId} (h : w.heap[b]? = some (.cells #[x0, x1, x2, x3, x4, x5, x6, x7] e (0, 0))) :
    (w.cell? ⟨b, 0, none⟩ = some x0 ∧ w.cell? ⟨b, 1, none⟩ = some x1 ∧ w.cell? ⟨b, 2, none⟩ = some x2 ∧ w.cell? ⟨b, 3, none⟩ = some x3) ∧ (w.cell? ⟨b, 4, none⟩ = some x4 ∧ w.cell? ⟨b, 5, none⟩ = some x5 ∧ w.cell? ⟨b, 6, none⟩ = some x6 ∧ w.cell? ⟨b, 7, none⟩ = some x7) ∧ ∀ j, w.frozen? ⟨b, j, none⟩ = false := by
  refine ⟨⟨?_, ?_, ?_, ?_⟩, ⟨?_, ?_, ?_, ?_⟩, fun j => frozen_of_row w b j _ _ h⟩ <;> rw [cell_of_row w b _ _ _ _ h] <;> rfl
theorem fourK {w : World} {b : Nat} {x0 x1 x2 x3 : Value} {e : TypeId} (h : w.heap[b]? = some (.cells #[x0, x1, x2, x3] e (0, 0))) :
    w.cell? ⟨b, 0, none⟩ = some x0 ∧ w.cell? ⟨b, 1, none⟩ = some x1 ∧ w.cell? ⟨b, 2, none⟩ = some x2 ∧ w.cell? ⟨b, 3, none⟩ = some x3 ∧ ∀ j, w.frozen? ⟨b, j, none⟩ = false := by
  refine ⟨?_, ?_, ?_, ?_, fun j => frozen_of_row w b j _ _ h⟩ <;> rw [cell_of_row w b _ _ _ _ h] <;> rfl
theorem twoK {w : World} {b : Nat} {x0 x1 : Value} {e : TypeId} (h : w.heap[b]? = some (.cells #[x0, x1] e (0, 0))) :
    w.cell? ⟨b, 0, none⟩ = some x0 ∧ w.cell? ⟨b, 1, none⟩ = some x1 ∧ ∀ j, w.frozen? ⟨b, j, none⟩ = false := by
  refine ⟨?_, ?_, fun j => frozen_of_row w b j _ _ h⟩ <;> rw [cell_of_row w b _ _ _ _ h] <;> rfl

theorem number_any {N : Nat} {w : World} {X : Nat} {v : Value} {c : ACli} (h : KRep N w X v c) : Calls Tryz.prog 94 #[.pointer (some ⟨X, 0, none⟩)] w fun e w' => e = .returned (.int .i64 c.no) ∧ w' = w := by
  obtain ⟨a, cap, rfl⟩ := h.o.form
  obtain ⟨⟨x0, x1, x2, x3⟩, ⟨x4, x5, x6⟩, xf⟩ := seven h.o.blk
  have hf := h.ok.few
  obtain ⟨n, hn⟩ : ∃ n, c.done.length = n := ⟨_, rfl⟩
  have hno : c.no = (n : Int) + 1 := by unfold ACli.no; rw [hn]
  have hw : wrap64 ((n : Int) + 1) = (n : Int) + 1 := by unfold wrap64; omega
  rw [hno]
  rw [hn] at x1
  clear h x0 x2 x3 x4 x5 x6
  go_enter Tryz.func94, Tryz.ntmps94
  go_wp2
  go_ret
  exact ⟨rfl, rfl⟩
end Go.Proofs.YtmbhbnoifimeaabGreat

namespace Go.Proofs.YtmbhbnoifimeaabGreat
open Go.RowKit
set_option linter.unusedSimpArgs false
set_option linter.unusedVariables false

theorem info59s : (Tryz.prog.info? 59).map (·.size) = some 2 := by kernel_rfl
theorem info32s : (Tryz.prog.info? 32).map (·.size) = some 4 := by kernel_rfl

set_option maxRecDepth 100000 in
set_option maxHeartbeats 4000000 in
theorem cloneAnswer_any (d : Int) (u : ByteArray) (w : World) (hu : u.size ≤ 281474976710656) : Calls Tryz.prog 39 #[.agg #[.int .i64 d, .string u]] w fun e w' => e = .returned (.agg #[.int .i64 d, .string u]) ∧ Below w.heap.size w w' := by
  obtain ⟨V, hV⟩ : ∃ V, V = (w.alloc (.cells #[.int .i64 d, .string u] 59)).alloc (.cells #[.int .i64 0, .string ⟨#[]⟩] 59) := ⟨_, rfl⟩
  have hB0 : Below w.heap.size w V := by rw [hV]; exact ((Below.refl _ _).alloc (Nat.le_refl _) _).alloc (by simp) _
  have hX0 : V.heap[w.heap.size]? = some (.cells #[.int .i64 d, .string u] 59 (0, 0)) := by rw [hV, Below.heap_alloc _ _ _ (by simp)]; exact heap_alloc_new _ _
  have hY0 : V.heap[w.heap.size + 1]? = some (.cells #[.int .i64 0, .string ⟨#[]⟩] 59 (0, 0)) := by rw [hV]; have := heap_alloc_new (w.alloc (.cells #[.int .i64 d, .string u] 59)) (.cells #[.int .i64 0, .string ⟨#[]⟩] 59); simpa using this
  have HC1 := hide (fun W => SClone_any u W hu)
  obtain ⟨x0, x1, xf⟩ := twoK hX0
  have HV := hide hV
  have HB0 := hide hB0
  have HX0 := hide hX0
  have HY0 := hide hY0
  clear hB0 hX0 hY0 hV
  go_enter Tryz.func39, Tryz.ntmps39
  go_wp2_with fail
  rw [← unhide HV]
  refine ((unhide HC1) _).mono ?_
  rintro e w1 ⟨rfl, b1⟩
  clear x0 x1 xf
  have hX1 := (b1.block _ (Array.getElem?_eq_some_iff.1 (unhide HX0)).1).trans (unhide HX0)
  have hY1 := (b1.block _ (Array.getElem?_eq_some_iff.1 (unhide HY0)).1).trans (unhide HY0)
  have hS1 := set_same (j := 1) (x := .string u) hX1 rfl
  have hT1 : (w1.setCell ⟨w.heap.size, 1, none⟩ (.string u)).heap[w.heap.size + 1]? = _ := (Below.heap_setCell w1 _ _ _ (by simp)).trans hY1
  have hbx := below_set (j := 1) (x := .string u) ((unhide HB0).trans (b1.mono (unhide HB0).size)) (Nat.le_refl w.heap.size)
  obtain ⟨V1, hV1⟩ : ∃ V, V = w1.setCell ⟨w.heap.size, 1, none⟩ (.string u) := ⟨_, rfl⟩
  rw [← hV1] at hS1 hT1 hbx
  obtain ⟨V5, hV5⟩ : ∃ V, V = V1.setRow (w.heap.size + 1) #[.int .i64 d, .string u] := ⟨_, rfl⟩
  have hZ : V5.heap[w.heap.size + 1]? = some (.cells #[.int .i64 d, .string u] 59 (0, 0)) := by rw [hV5]; exact setRow_heap V1 (w.heap.size + 1) _ _ 59 (0, 0) hT1
  have hB5 : Below w.heap.size w V5 := by
    have h := hbx
    rw [hV5]
    exact ⟨h.os, h.tape, h.output, by simp [World.setRow]; exact h.size, fun k hk => (setRow_other V1 (w.heap.size + 1) k _ (by omega)).trans (h.block k hk)⟩
  obtain ⟨z0, z1, _⟩ := twoK hZ
  obtain ⟨x0, x1, xf⟩ := twoK hX1
  have HB5 := hide hB5
  rw [hV1] at hV5
  have hYn := (Below.heap_setCell w1 ⟨w.heap.size, 1, none⟩ (.string u) (w.heap.size + 1) (by simp)).trans hY1
  clear hB5 hZ hX1 hY1 hS1 hT1 hbx hV1 b1
  go_wp2_with (refine wpList_store_row rfl 59 _ _ rfl (w.heap.size + 1) #[.int .i64 d, .string u] rfl rfl 59 _ hYn info59s rfl (by simp [Value.oneCell']) ?_)
  rw [← hV5]
  refine bodyPost_ret (v := .agg #[.int .i64 d, .string u]) (by simp [results, Tryz.results39, go_sem, z0, z1]) rfl ⟨rfl, unhide HB5⟩

theorem keep_set {W : World} {b i j : Nat} {u v : Value} (hi : W.cell? ⟨b, i, none⟩ = some u) (hj : W.cell? ⟨b, j, none⟩ = some v) : (W.setCell ⟨b, i, none⟩ u).cell? ⟨b, j, none⟩ = some v := by
  by_cases h : i = j
  · subst h
    rw [hi] at hj
    rw [World.cell?_setCell_same _ _ _ hi]
    exact hj
  · rw [World.cell?_setCell_other _ _ _ _ (by simp [h])]
    exact hj
theorem keep3 {W : World} {b i1 i2 i3 : Nat} {u1 u2 u3 : Value} (h : W.cell? ⟨b, i1, none⟩ = some u1 ∧ W.cell? ⟨b, i2, none⟩ = some u2 ∧ W.cell? ⟨b, i3, none⟩ = some u3) {i : Nat} {u : Value} (hi : W.cell? ⟨b, i, none⟩ = some u) :
    (W.setCell ⟨b, i, none⟩ u).cell? ⟨b, i1, none⟩ = some u1 ∧ (W.setCell ⟨b, i, none⟩ u).cell? ⟨b, i2, none⟩ = some u2 ∧ (W.setCell ⟨b, i, none⟩ u).cell? ⟨b, i3, none⟩ = some u3 := ⟨keep_set hi h.1, keep_set hi h.2.1, keep_set hi h.2.2⟩

set_option maxRecDepth 100000 in
set_option maxHeartbeats 4000000 in
theorem cloneCall_any (x : ACall) (w : World) (hx : SmallC x) : Calls Tryz.prog 38 #[.agg #[.int .i64 x.kind, .string x.name, .string x.dst, .string x.text]] w fun e w' => e = .returned (.agg #[.int .i64 x.kind, .string x.name, .string x.dst, .string x.text]) ∧ Below w.heap.size w w' := by
  obtain ⟨h1, h2, h3⟩ := hx
  obtain ⟨k, a, b, t⟩ := x
  dsimp only at *
  obtain ⟨V, hV⟩ : ∃ V, V = (w.alloc (.cells #[.int .i64 k, .string a, .string b, .string t] 32)).alloc (.cells #[.int .i64 0, .string ⟨#[]⟩, .string ⟨#[]⟩, .string ⟨#[]⟩] 32) := ⟨_, rfl⟩
  have hB0 : Below w.heap.size w V := by rw [hV]; exact ((Below.refl _ _).alloc (Nat.le_refl _) _).alloc (by simp) _
  have hX0 : V.heap[w.heap.size]? = some (.cells #[.int .i64 k, .string a, .string b, .string t] 32 (0, 0)) := by rw [hV, Below.heap_alloc _ _ _ (by simp)]; exact heap_alloc_new _ _
  have hY0 : V.heap[w.heap.size + 1]? = some (.cells #[.int .i64 0, .string ⟨#[]⟩, .string ⟨#[]⟩, .string ⟨#[]⟩] 32 (0, 0)) := by rw [hV]; have := heap_alloc_new (w.alloc (.cells #[.int .i64 k, .string a, .string b, .string t] 32)) (.cells #[.int .i64 0, .string ⟨#[]⟩, .string ⟨#[]⟩, .string ⟨#[]⟩] 32); simpa using this
  have hzV : w.heap.size + 1 < V.heap.size := (Array.getElem?_eq_some_iff.1 hY0).1
  have HC1 := hide (fun W => SClone_any a W h1)
  have HC2 := hide (fun W => SClone_any b W h2)
  have HC3 := hide (fun W => SClone_any t W h3)
  obtain ⟨x0, x1, x2, x3, xf⟩ := fourK hX0
  have HV := hide hV
  have HB0 := hide hB0
  have HX0 := hide hX0
  have HY0 := hide hY0
  clear hB0 hX0 hY0 hV h1 h2 h3
  go_enter Tryz.func38, Tryz.ntmps38
  go_wp2_with fail
  rw [← unhide HV]
  have HF : Hid (∀ W, Below V.heap.size V W → W.cell? ⟨w.heap.size, 1, none⟩ = some (.string a) ∧ W.cell? ⟨w.heap.size, 2, none⟩ = some (.string b) ∧ W.cell? ⟨w.heap.size, 3, none⟩ = some (.string t) ∧ W.frozen? ⟨w.heap.size, 1, none⟩ = false ∧ W.frozen? ⟨w.heap.size, 2, none⟩ = false ∧ W.frozen? ⟨w.heap.size, 3, none⟩ = false) := fun W hW => by
    obtain ⟨_, y1, y2, y3, yf⟩ := fourK ((hW.block _ (by omega)).trans (unhide HX0))
    exact ⟨y1, y2, y3, yf _, yf _, yf _⟩
  have xf1 := xf 1
  have xf2 := xf 2
  have xf3 := xf 3
  clear xf
  go_region_held3 (fun W => W.cell? ⟨w.heap.size, 1, none⟩ = some (.string a) ∧ W.cell? ⟨w.heap.size, 2, none⟩ = some (.string b) ∧ W.cell? ⟨w.heap.size, 3, none⟩ = some (.string t)) (first | (go_keep; done) | (exact keep3 (by assumption) (And.left (by assumption))) | (exact keep3 (by assumption) (And.left (And.right (by assumption)))) | (exact keep3 (by assumption) (And.right (And.right (by assumption))))) (first
    | (go_at_call 43; refine ((unhide HC1) _).mono ?_; rintro e w1 ⟨rfl, b1⟩; have bV1 := (below_drew V).trans b1; obtain ⟨p1, p2, p3, p4, p5, p6⟩ := (unhide HF) w1 bV1)
    | (go_at_call 43; refine ((unhide HC2) _).mono ?_; rintro e w2 ⟨rfl, b2⟩; have bV2 := bV1.trans (b2.mono bV1.size); obtain ⟨q1, q2, q3, q4, q5, q6⟩ := (unhide HF) w2 bV2)
    | (go_at_call 43; refine ((unhide HC3) _).mono ?_; rintro e w3 ⟨rfl, b3⟩; have bV3 := bV2.trans (b3.mono bV2.size); obtain ⟨r1, r2, r3, r4, r5, r6⟩ := (unhide HF) w3 bV3))
  all_goals
    have hX3 := (bV3.block _ (by omega)).trans (unhide HX0)
    have hY3 := (bV3.block _ hzV).trans (unhide HY0)
    have hX4 := set_same (j := 3) (x := .string t) (set_same (j := 2) (x := .string b) (set_same (j := 1) (x := .string a) hX3 rfl) rfl) rfl
    obtain ⟨W4, hW4⟩ : ∃ W, W = ((w3.setCell ⟨w.heap.size, 1, none⟩ (.string a)).setCell ⟨w.heap.size, 2, none⟩ (.string b)).setCell ⟨w.heap.size, 3, none⟩ (.string t) := ⟨_, rfl⟩
    have hY4 : W4.heap[w.heap.size + 1]? = some (.cells #[.int .i64 0, .string ⟨#[]⟩, .string ⟨#[]⟩, .string ⟨#[]⟩] 32 (0, 0)) := by
      rw [hW4, Below.heap_setCell _ _ _ _ (by simp), Below.heap_setCell _ _ _ _ (by simp), Below.heap_setCell _ _ _ _ (by simp)]
      exact hY3
    have hB4 : Below w.heap.size w W4 := by
      rw [hW4]
      exact below_set (below_set (below_set ((unhide HB0).trans (bV3.mono (unhide HB0).size)) (Nat.le_refl _)) (Nat.le_refl _)) (Nat.le_refl _)
    rw [← hW4] at hX4
    obtain ⟨m0, m1, m2, m3, mf⟩ := fourK hX4
    obtain ⟨V5, hV5⟩ : ∃ V, V = W4.setRow (w.heap.size + 1) #[.int .i64 k, .string a, .string b, .string t] := ⟨_, rfl⟩
    have hZ : V5.heap[w.heap.size + 1]? = some (.cells #[.int .i64 k, .string a, .string b, .string t] 32 (0, 0)) := by rw [hV5]; exact setRow_heap W4 (w.heap.size + 1) _ _ 32 (0, 0) hY4
    have hB5 : Below w.heap.size w V5 := by
      rw [hV5]
      exact ⟨hB4.os, hB4.tape, hB4.output, by simp [World.setRow]; exact hB4.size, fun k hk => (setRow_other W4 (w.heap.size + 1) k _ (by omega)).trans (hB4.block k hk)⟩
    obtain ⟨z0, z1, z2, z3, _⟩ := fourK hZ
    have HB5 := hide hB5
    rw [← hW4]
    clear hB5 hZ hX3 hY3 hX4 hB4 hW4 p1 p2 p3 p4 p5 p6 q1 q2 q3 q4 q5 q6 r1 r2 r3 r4 r5 r6 b1 b2 b3 bV1 bV2 bV3 x0 x1 x2 x3 xf1 xf2 xf3 mf
    go_wp2_with (refine wpList_store_row rfl 32 _ _ rfl (w.heap.size + 1) #[.int .i64 k, .string a, .string b, .string t] rfl rfl 32 _ hY4 info32s rfl (by simp [Value.oneCell']) ?_)
    rw [← hV5]
    refine bodyPost_ret (v := .agg #[.int .i64 k, .string a, .string b, .string t]) (by simp [results, Tryz.results38, go_sem, z0, z1, z2, z3]) rfl ⟨rfl, unhide HB5⟩

end Go.Proofs.YtmbhbnoifimeaabGreat

namespace Go.Proofs.YtmbhbnoifimeaabGreat
open Go.RowKit
set_option linter.unusedSimpArgs false
set_option linter.unusedVariables false

theorem KRep.below {N : Nat} {w w' : World} {X : Nat} {v : Value} {c : ACli} (h : KRep N w X v c) (hb : Below w.heap.size w w') : KRep N w' X v c := ⟨h.o.below hb, h.ok⟩

set_option maxRecDepth 100000 in
set_option maxHeartbeats 4000000 in
theorem awaits_any {N : Nat} {w : World} {X : Nat} {v : Value} {c : ACli} (h : KRep N w X v c) (p : APkt) : Calls Tryz.prog 126 #[.pointer (some ⟨X, 0, none⟩), p.val] w fun e w' => e = .returned (.bool (c.hears p)) ∧ Below w.heap.size w w' := by
  obtain ⟨V, hV⟩ : ∃ V, V = w.alloc (.cells (pArr p) 92) := ⟨_, rfl⟩
  have hBV : Below w.heap.size w V := by rw [hV]; exact (Below.refl _ _).alloc (Nat.le_refl _) _
  have hXV : V.heap[w.heap.size]? = some (.cells (pArr p) 92 (0, 0)) := by rw [hV]; exact heap_alloc_new _ _
  have hrV := h.below hBV
  have HNO : Hid (∀ n, Calls Tryz.prog 94 #[.pointer (some ⟨X, 0, none⟩)] (V.drewN n) fun e w' => e = .returned (.int .i64 c.no) ∧ w' = V.drewN n) := fun n => number_any (hrV.below (w' := V.drewN n) ⟨rfl, rfl, rfl, Nat.le_refl _, fun _ _ => rfl⟩)
  have hres : c.hears p = (c.op && p.reply && p.client == c.me && p.no == c.no && callB p.call c.call) := rfl
  have hE := fun W => eql32 p.call c.call W
  obtain ⟨⟨k0, k1, k2, k3⟩, ⟨k4, k5, k6⟩, kf⟩ := seven hrV.o.blk
  rw [hres]
  generalize c.no = cno at HNO ⊢
  generalize callB p.call c.call = cb at hE ⊢
  obtain ⟨me, done, ⟨ck, ca, cb', ct⟩, op⟩ := c
  obtain ⟨y, pc, pn, ⟨pk, s1, s2, s3⟩, d, u⟩ := p
  dsimp only [APkt.val, pArr, callCells] at *
  obtain ⟨⟨x0, x1, x2, x3⟩, ⟨x4, x5, x6, x7, x8⟩, xf⟩ := nine hXV
  have HV := hide hV
  have HB := hide hBV
  have HBD : Hid (∀ n, Below w.heap.size w (V.drewN n)) := fun n => hBV.trans ⟨rfl, rfl, rfl, Nat.le_refl _, fun _ _ => rfl⟩
  clear h hBV hXV hrV hV hres xf kf k1
  cases op
  · go_enter Tryz.func126, Tryz.ntmps126
    go_wp2_with fail
    rw [← unhide HV]
    go_quiet (first | (go_at_call 94; exact Calls.quiet_of_same ((unhide HNO) _)))
    go_wp2
    go_ret
    exact ⟨rfl, (unhide HBD) _⟩
  cases y
  · go_enter Tryz.func126, Tryz.ntmps126
    go_wp2_with fail
    rw [← unhide HV]
    go_quiet (first | (go_at_call 94; exact Calls.quiet_of_same ((unhide HNO) _)))
    go_wp2
    go_ret
    exact ⟨rfl, (unhide HBD) _⟩
  cases hc : (pc == me)
  · go_enter Tryz.func126, Tryz.ntmps126
    go_wp2_with fail
    rw [← unhide HV]
    go_quiet (first | (go_at_call 94; exact Calls.quiet_of_same ((unhide HNO) _)))
    go_wp2
    go_ret
    exact ⟨rfl, (unhide HBD) _⟩
  cases hn : (pn == cno)
  · go_enter Tryz.func126, Tryz.ntmps126
    go_wp2_with fail
    rw [← unhide HV]
    go_quiet (first | (go_at_call 94; exact Calls.quiet_of_same ((unhide HNO) _)))
    go_wp2
    go_ret
    exact ⟨rfl, (unhide HBD) _⟩
  · go_enter Tryz.func126, Tryz.ntmps126
    go_wp2_with fail
    rw [← unhide HV]
    go_quiet (first | (go_at_call 94; exact Calls.quiet_of_same ((unhide HNO) _)))
    go_wp2
    go_ret
    exact ⟨rfl, (unhide HBD) _⟩

end Go.Proofs.YtmbhbnoifimeaabGreat

namespace Go.Proofs.YtmbhbnoifimeaabGreat
open Go.RowKit
set_option linter.unusedSimpArgs false
set_option linter.unusedVariables false

theorem set5 {w : World} {X : Nat} {t : TypeId} {y0 y1 y2 y3 y4 y5 y6 a2 a3 a4 a5 a6 : Value} (h : w.heap[X]? = some (.cells #[y0, y1, y2, y3, y4, y5, y6] t (0, 0))) :
    (((((w.setCell ⟨X, 2, none⟩ a2).setCell ⟨X, 3, none⟩ a3).setCell ⟨X, 4, none⟩ a4).setCell ⟨X, 5, none⟩ a5).setCell ⟨X, 6, none⟩ a6).heap[X]? = some (.cells #[y0, y1, a2, a3, a4, a5, a6] t (0, 0)) ∧
    Kept [X] w (((((w.setCell ⟨X, 2, none⟩ a2).setCell ⟨X, 3, none⟩ a3).setCell ⟨X, 4, none⟩ a4).setCell ⟨X, 5, none⟩ a5).setCell ⟨X, 6, none⟩ a6) := by
  refine ⟨?_, ?_⟩
  · have h1 := heap_setCell_same (o := 6) (heap_setCell_same (o := 5) (heap_setCell_same (o := 4) (heap_setCell_same (o := 3) (heap_setCell_same (o := 2) h a2) a3) a4) a5) a6
    exact h1
  · have k : ∀ (W : World) (o : Nat) (u : Value), Kept [X] W (W.setCell ⟨X, o, none⟩ u) := fun W o u => kept_setCell [X] W X o u (by simp)
    exact ((((k _ _ _).trans (k _ _ _) (fun x hx => .inl hx)).trans (k _ _ _) (fun x hx => .inl hx)).trans (k _ _ _) (fun x hx => .inl hx)).trans (k _ _ _) (fun x hx => .inl hx)
theorem small_max {n : Nat} (h : n ≤ 281474976710656) : n ≤ maxLen := by unfold maxLen; omega

set_option maxRecDepth 100000 in
set_option maxHeartbeats 4000000 in
theorem Call_any {N : Nat} {w : World} {X : Nat} {v : Value} {c : ACli} (h : KRep N w X v c) (x : ACall) (hx : SmallC x) :
    Calls Tryz.prog 67 #[.pointer (some ⟨X, 0, none⟩), .agg #[.int .i64 x.kind, .string x.name, .string x.dst, .string x.text]] w fun e w' => e = .returned (.int .i64 (c.ask x)) ∧ KTurn N w X v w' (c.asked x) := by
  obtain ⟨V, hV⟩ : ∃ V, V = w.alloc (.cells #[.int .i64 x.kind, .string x.name, .string x.dst, .string x.text] 32) := ⟨_, rfl⟩
  have hBV : Below w.heap.size w V := by rw [hV]; exact (Below.refl _ _).alloc (Nat.le_refl _) _
  have hXV : V.heap[w.heap.size]? = some (.cells #[.int .i64 x.kind, .string x.name, .string x.dst, .string x.text] 32 (0, 0)) := by rw [hV]; exact heap_alloc_new _ _
  have hrV := h.below hBV
  have HCK := hide (Check_any x.kind x.name x.dst x.text V (small_max hx.1) (small_max hx.2.1) (small_max hx.2.2))
  have HCL := hide (fun W => cloneCall_any x W hx)
  have hce : checkI ⟨x.kind, x.name, x.dst, x.text⟩ = checkI x := rfl
  rw [hce] at HCK
  have hlV : w.heap.size < V.heap.size := (Array.getElem?_eq_some_iff.1 hXV).1
  have hXn : w.heap.size ≠ X := by have := h.o.lt; omega
  have HRV := hide hrV
  have HXV := hide hXV
  have HBV := hide hBV
  have HV := hide hV
  by_cases hck : checkI x = 0
  · cases hop : c.op
    · by_cases hfull : 200 ≤ c.done.length
      · have e1 : c.ask x = 7 := by unfold ACli.ask; rw [if_neg (by simp [hck]), if_neg (by simp [hop]), if_pos hfull]
        have e2 : c.asked x = c := by unfold ACli.asked; rw [e1, if_neg (by omega)]
        rw [e1, e2]
        rw [hck] at HCK
        have HT : Hid (∀ w', Below V.heap.size V w' → KTurn N w X v w' c) := fun w' hb => OTurn.of_below h.o (hBV.trans (hb.mono hBV.size))
        obtain ⟨x0, x1, x2, x3, xf⟩ := fourK hXV
        have HK : Hid (∀ w', Below V.heap.size V w' → ∃ a cap, w'.cell? ⟨X, 6, none⟩ = some (.bool false) ∧ w'.cell? ⟨X, 1, none⟩ = some (.slice a c.done.length cap)) := fun w' hb => by
          obtain ⟨a, cap, hv⟩ := h.o.form
          obtain ⟨⟨k0, k1, k2, k3⟩, ⟨k4, k5, k6⟩, kf⟩ := seven ((hrV.below hb).o.blk)
          exact ⟨a, cap, by rw [← hop]; exact k6, by rw [← hv]; exact k1⟩
        have hfi : (200 : Int) ≤ (c.done.length : Int) := by omega
        generalize c.done.length = n at HK hfi
        clear h hBV hXV hrV hV hck hop hfull e1 e2 hce
        go_enter Tryz.func67, Tryz.ntmps67
        go_wp2_with fail
        rw [← unhide HV]
        refine (unhide HCK).mono ?_
        rintro e w1 ⟨rfl, b1⟩
        obtain ⟨a, cap, k6, k1⟩ := (unhide HK) w1 b1
        go_wp2
        go_ret
        exact ⟨rfl, (unhide HT) _ b1⟩
      · have e1 : c.ask x = 0 := by unfold ACli.ask; rw [if_neg (by simp [hck]), if_neg (by simp [hop]), if_neg hfull]
        have e2 : c.asked x = ⟨c.me, c.done, x, true⟩ := by unfold ACli.asked; rw [e1, if_pos rfl]
        rw [e1, e2]
        rw [hck] at HCK
        have HK : Hid (∀ w', Below V.heap.size V w' → ∃ a cap, w'.heap[X]? = some (.cells #[.int .i64 c.me, .slice a c.done.length cap, .int .i64 c.call.kind, .string c.call.name, .string c.call.dst, .string c.call.text, .bool false] 85 (0, 0)) ∧ v = .slice a c.done.length cap) := fun w' hb => by
          obtain ⟨a, cap, hv⟩ := h.o.form
          have := (hrV.below hb).o.blk
          unfold kcells at this
          rw [hop, hv] at this
          exact ⟨a, cap, this, hv⟩
        have HXK : Hid (∀ w', Below V.heap.size V w' → w'.heap[w.heap.size]? = some (.cells #[.int .i64 x.kind, .string x.name, .string x.dst, .string x.text] 32 (0, 0))) := fun w' hb => (hb.block _ hlV).trans hXV
        obtain ⟨x0, x1, x2, x3, xf⟩ := fourK hXV
        have hXl : X < V.heap.size := hrV.o.lt
        have hfi : ¬ (200 : Int) ≤ (c.done.length : Int) := by omega
        clear hBV hXV hrV hV hck hop hfull e1 e2 hce
        have HH := hide h
        clear h
        obtain ⟨me, done, ⟨ck, ca, cb, ct⟩, op⟩ := c
        obtain ⟨xk, xa, xb, xt⟩ := x
        dsimp only at *
        obtain ⟨n, hn⟩ : ∃ n, done.length = n := ⟨_, rfl⟩
        rw [hn] at HK hfi
        go_enter Tryz.func67, Tryz.ntmps67
        go_wp2_with fail
        rw [← unhide HV]
        refine (unhide HCK).mono ?_
        rintro e w1 ⟨rfl, b1⟩
        clear x0 x1 x2 x3 xf
        have HX1 := hide ((unhide HXK) w1 b1)
        obtain ⟨a, cap, hk1, hv⟩ := (unhide HK) w1 b1
        subst hv
        obtain ⟨⟨k0, k1, k2, k3⟩, ⟨k4, k5, k6⟩, kf⟩ := seven hk1
        obtain ⟨x0, x1, x2, x3, xf⟩ := fourK (unhide HX1)
        go_wp2_with fail
        refine ((unhide HCL) _).mono ?_
        rintro e w2 ⟨rfl, b2⟩
        have b2' := b1.trans (b2.mono b1.size)
        clear k0 k1 k2 k3 k4 k5 k6 kf x0 x1 x2 x3 xf
        obtain ⟨a', cap', hk2, hv'⟩ := (unhide HK) w2 b2'
        cases hv'
        obtain ⟨⟨k0, k1, k2, k3⟩, ⟨k4, k5, k6⟩, kf⟩ := seven hk2
        obtain ⟨hs1, hs2⟩ := set5 (a2 := .int .i64 xk) (a3 := .string xa) (a4 := .string xb) (a5 := .string xt) (a6 := .bool true) hk2
        have hT : KTurn N w X (.slice a n cap) _ ⟨me, done, ⟨xk, xa, xb, xt⟩, true⟩ := ((((unhide HH).below ((unhide HBV).trans (b2'.mono (unhide HBV).size))).o).reblk hs1 hs2).before ((unhide HBV).trans (b2'.mono (unhide HBV).size))
        have HT := hide hT
        clear hs1 hs2 hT
        go_wp2
        go_ret
        exact ⟨rfl, unhide HT⟩
    · have e1 : c.ask x = 11 := by unfold ACli.ask; rw [if_neg (by simp [hck]), if_pos hop]
      have e2 : c.asked x = c := by unfold ACli.asked; rw [e1, if_neg (by omega)]
      rw [e1, e2]
      rw [hck] at HCK
      have HT : Hid (∀ w', Below V.heap.size V w' → KTurn N w X v w' c) := fun w' hb => OTurn.of_below h.o (hBV.trans (hb.mono hBV.size))
      obtain ⟨x0, x1, x2, x3, xf⟩ := fourK hXV
      have HK : Hid (∀ w', Below V.heap.size V w' → w'.cell? ⟨X, 6, none⟩ = some (.bool true)) := fun w' hb => by
        obtain ⟨⟨k0, k1, k2, k3⟩, ⟨k4, k5, k6⟩, kf⟩ := seven ((hrV.below hb).o.blk)
        rw [← hop]; exact k6
      clear h hBV hXV hrV hV hck hop e1 e2 hce
      go_enter Tryz.func67, Tryz.ntmps67
      go_wp2_with fail
      rw [← unhide HV]
      refine (unhide HCK).mono ?_
      rintro e w1 ⟨rfl, b1⟩
      have k6 := (unhide HK) w1 b1
      go_wp2
      go_ret
      exact ⟨rfl, (unhide HT) _ b1⟩
  · have e1 : c.ask x = checkI x := by unfold ACli.ask; rw [if_pos hck]
    have e2 : c.asked x = c := by unfold ACli.asked; rw [e1, if_neg hck]
    rw [e1, e2]
    have HT : Hid (∀ w', Below V.heap.size V w' → KTurn N w X v w' c) := fun w' hb => OTurn.of_below h.o (hBV.trans (hb.mono hBV.size))
    obtain ⟨x0, x1, x2, x3, xf⟩ := fourK hXV
    generalize checkI x = ci at *
    have hcb : (ci != 0) = true := by simpa using hck
    clear h hBV hXV hrV hV hce hck e1 e2
    go_enter Tryz.func67, Tryz.ntmps67
    go_wp2_with fail
    rw [← unhide HV]
    refine (unhide HCK).mono ?_
    rintro e w1 ⟨rfl, b1⟩
    go_wp2
    go_ret
    exact ⟨rfl, (unhide HT) _ b1⟩

end Go.Proofs.YtmbhbnoifimeaabGreat

namespace Go.Proofs.YtmbhbnoifimeaabGreat
open Go.RowKit
set_option linter.unusedSimpArgs false
set_option linter.unusedVariables false

def zeroP : Array Value := #[.bool false, .int .i64 0, .int .i64 0, .int .i64 0, .string ⟨#[]⟩, .string ⟨#[]⟩, .string ⟨#[]⟩, .int .i64 0, .string ⟨#[]⟩]

theorem set9 {w : World} {X : Nat} {t : TypeId} {y0 y1 y2 y3 y4 y5 y6 y7 y8 a0 a1 a2 a3 a4 a5 a6 a7 a8 : Value} (h : w.heap[X]? = some (.cells #[y0, y1, y2, y3, y4, y5, y6, y7, y8] t (0, 0))) :
    (((((((((w.setCell ⟨X, 0, none⟩ a0).setCell ⟨X, 1, none⟩ a1).setCell ⟨X, 2, none⟩ a2).setCell ⟨X, 3, none⟩ a3).setCell ⟨X, 4, none⟩ a4).setCell ⟨X, 5, none⟩ a5).setCell ⟨X, 6, none⟩ a6).setCell ⟨X, 7, none⟩ a7).setCell ⟨X, 8, none⟩ a8).heap[X]? = some (.cells #[a0, a1, a2, a3, a4, a5, a6, a7, a8] t (0, 0)) ∧
    Kept [X] w (((((((((w.setCell ⟨X, 0, none⟩ a0).setCell ⟨X, 1, none⟩ a1).setCell ⟨X, 2, none⟩ a2).setCell ⟨X, 3, none⟩ a3).setCell ⟨X, 4, none⟩ a4).setCell ⟨X, 5, none⟩ a5).setCell ⟨X, 6, none⟩ a6).setCell ⟨X, 7, none⟩ a7).setCell ⟨X, 8, none⟩ a8) := by
  have k : ∀ (W : World) (o : Nat) (u : Value), Kept [X] W (W.setCell ⟨X, o, none⟩ u) := fun W o u => kept_setCell [X] W X o u (by simp)
  have k0 := Kept.refl [X] w
  have h1 : (w.setCell ⟨X, 0, none⟩ a0).heap[X]? = some (.cells #[a0, y1, y2, y3, y4, y5, y6, y7, y8] t (0, 0)) := heap_setCell_same h a0
  have k1 := k0.trans (k w 0 a0) (fun x hx => .inl hx)
  generalize w.setCell ⟨X, 0, none⟩ a0 = w1 at *
  have h2 : (w1.setCell ⟨X, 1, none⟩ a1).heap[X]? = some (.cells #[a0, a1, y2, y3, y4, y5, y6, y7, y8] t (0, 0)) := heap_setCell_same h1 a1
  have k2 := k1.trans (k w1 1 a1) (fun x hx => .inl hx)
  generalize w1.setCell ⟨X, 1, none⟩ a1 = w2 at *
  have h3 : (w2.setCell ⟨X, 2, none⟩ a2).heap[X]? = some (.cells #[a0, a1, a2, y3, y4, y5, y6, y7, y8] t (0, 0)) := heap_setCell_same h2 a2
  have k3 := k2.trans (k w2 2 a2) (fun x hx => .inl hx)
  generalize w2.setCell ⟨X, 2, none⟩ a2 = w3 at *
  have h4 : (w3.setCell ⟨X, 3, none⟩ a3).heap[X]? = some (.cells #[a0, a1, a2, a3, y4, y5, y6, y7, y8] t (0, 0)) := heap_setCell_same h3 a3
  have k4 := k3.trans (k w3 3 a3) (fun x hx => .inl hx)
  generalize w3.setCell ⟨X, 3, none⟩ a3 = w4 at *
  have h5 : (w4.setCell ⟨X, 4, none⟩ a4).heap[X]? = some (.cells #[a0, a1, a2, a3, a4, y5, y6, y7, y8] t (0, 0)) := heap_setCell_same h4 a4
  have k5 := k4.trans (k w4 4 a4) (fun x hx => .inl hx)
  generalize w4.setCell ⟨X, 4, none⟩ a4 = w5 at *
  have h6 : (w5.setCell ⟨X, 5, none⟩ a5).heap[X]? = some (.cells #[a0, a1, a2, a3, a4, a5, y6, y7, y8] t (0, 0)) := heap_setCell_same h5 a5
  have k6 := k5.trans (k w5 5 a5) (fun x hx => .inl hx)
  generalize w5.setCell ⟨X, 5, none⟩ a5 = w6 at *
  have h7 : (w6.setCell ⟨X, 6, none⟩ a6).heap[X]? = some (.cells #[a0, a1, a2, a3, a4, a5, a6, y7, y8] t (0, 0)) := heap_setCell_same h6 a6
  have k7 := k6.trans (k w6 6 a6) (fun x hx => .inl hx)
  generalize w6.setCell ⟨X, 6, none⟩ a6 = w7 at *
  have h8 : (w7.setCell ⟨X, 7, none⟩ a7).heap[X]? = some (.cells #[a0, a1, a2, a3, a4, a5, a6, a7, y8] t (0, 0)) := heap_setCell_same h7 a7
  have k8 := k7.trans (k w7 7 a7) (fun x hx => .inl hx)
  generalize w7.setCell ⟨X, 7, none⟩ a7 = w8 at *
  have h9 : (w8.setCell ⟨X, 8, none⟩ a8).heap[X]? = some (.cells #[a0, a1, a2, a3, a4, a5, a6, a7, a8] t (0, 0)) := heap_setCell_same h8 a8
  have k9 := k8.trans (k w8 8 a8) (fun x hx => .inl hx)
  generalize w8.setCell ⟨X, 8, none⟩ a8 = w9 at *
  exact ⟨h9, k9⟩

set_option maxRecDepth 100000 in
set_option maxHeartbeats 4000000 in
theorem Send_none {N : Nat} {w : World} {X : Nat} {v : Value} {c : ACli} (h : KRep N w X v c) (hop : c.op = false) :
    Calls Tryz.prog 68 #[.pointer (some ⟨X, 0, none⟩)] w fun e w' => e = .returned (.tuple #[zeroPkt.val, .bool false]) ∧ Below w.heap.size w w' := by
  obtain ⟨V, hV⟩ : ∃ V, V = w.alloc (.cells zeroP 92) := ⟨_, rfl⟩
  have hBV : Below w.heap.size w V := by rw [hV]; exact (Below.refl _ _).alloc (Nat.le_refl _) _
  have hYV : V.heap[w.heap.size]? = some (.cells zeroP 92 (0, 0)) := by rw [hV]; exact heap_alloc_new _ _
  obtain ⟨⟨k0, k1, k2, k3⟩, ⟨k4, k5, k6⟩, kf⟩ := seven h.o.blk
  have hXl := h.o.lt
  rw [hop] at k6
  obtain ⟨V5, hV5⟩ : ∃ W, W = V.setRow w.heap.size zeroP := ⟨_, rfl⟩
  have hZ : V5.heap[w.heap.size]? = some (.cells zeroP 92 (0, 0)) := by rw [hV5]; exact setRow_heap V w.heap.size _ _ 92 (0, 0) hYV
  have HB5 : Hid (Below w.heap.size w V5) := by
    rw [hV5]
    exact ⟨hBV.os, hBV.tape, hBV.output, by simp [World.setRow]; exact hBV.size, fun k hk => (setRow_other V w.heap.size k _ (by omega)).trans (hBV.block k hk)⟩
  rw [hV] at hV5 hYV
  dsimp only [zeroP, zeroPkt, APkt.val] at *
  obtain ⟨⟨z0, z1, z2, z3⟩, ⟨z4, z5, z6, z7, z8⟩, _⟩ := nine hZ
  clear h hop hBV hZ hV k0 k1 k2 k3 k4 k5 kf
  go_enter Tryz.func68, Tryz.ntmps68
  go_wp2_with (refine wpList_store_row rfl 92 _ _ rfl w.heap.size #[.bool false, .int .i64 0, .int .i64 0, .int .i64 0, .string ⟨#[]⟩, .string ⟨#[]⟩, .string ⟨#[]⟩, .int .i64 0, .string ⟨#[]⟩] rfl rfl 92 _ hYV infoP rfl (by simp [Value.oneCell']) ?_)
  rw [← hV5]
  refine bodyPost_ret (v := .tuple #[.agg #[.bool false, .int .i64 0, .int .i64 0, .int .i64 0, .string ⟨#[]⟩, .string ⟨#[]⟩, .string ⟨#[]⟩, .int .i64 0, .string ⟨#[]⟩], .bool false]) (by simp [results, Tryz.results68, go_sem, z0, z1, z2, z3, z4, z5, z6, z7, z8]) rfl ⟨rfl, unhide HB5⟩

set_option maxRecDepth 100000 in
set_option maxHeartbeats 4000000 in
theorem Send_some {N : Nat} {w : World} {X : Nat} {v : Value} {c : ACli} (h : KRep N w X v c) (hop : c.op = true) :
    Calls Tryz.prog 68 #[.pointer (some ⟨X, 0, none⟩)] w fun e w' => e = .returned (.tuple #[(⟨false, c.me, c.no, c.call, 0, ⟨#[]⟩⟩ : APkt).val, .bool true]) ∧ Below w.heap.size w w' := by
  obtain ⟨V, hV⟩ : ∃ V, V = w.alloc (.cells zeroP 92) := ⟨_, rfl⟩
  have hBV : Below w.heap.size w V := by rw [hV]; exact (Below.refl _ _).alloc (Nat.le_refl _) _
  have hYV : V.heap[w.heap.size]? = some (.cells zeroP 92 (0, 0)) := by rw [hV]; exact heap_alloc_new _ _
  have hrV := h.below hBV
  have HNO := hide (number_any (hrV.below (below_drew V)))
  have HCL := hide (fun W => cloneCall_any c.call W h.ok.smallc)
  obtain ⟨⟨k0, k1, k2, k3⟩, ⟨k4, k5, k6⟩, kf⟩ := seven h.o.blk
  obtain ⟨⟨j0, j1, j2, j3⟩, ⟨j4, j5, j6⟩, jf⟩ := seven hrV.o.blk
  have hXl := h.o.lt
  have hXV : X < V.heap.size := hrV.o.lt
  have hzV : V.heap.size = w.heap.size + 1 := by rw [hV]; simp
  rw [hop] at k6
  have HYV := hide hYV
  have HBV := hide hBV
  have HV := hide hV
  have hXne : w.heap.size ≠ X := by omega
  have HF : Hid (∀ W, Below V.heap.size V W → W.cell? ⟨X, 0, none⟩ = some (.int .i64 c.me) ∧ W.cell? ⟨X, 2, none⟩ = some (.int .i64 c.call.kind) ∧ W.cell? ⟨X, 3, none⟩ = some (.string c.call.name) ∧ W.cell? ⟨X, 4, none⟩ = some (.string c.call.dst) ∧ W.cell? ⟨X, 5, none⟩ = some (.string c.call.text)) := fun W hW => by
    obtain ⟨⟨y0, y1, y2, y3⟩, ⟨y4, y5, y6⟩, yf⟩ := seven (hrV.below hW).o.blk
    exact ⟨y0, y2, y3, y4, y5⟩
  have HYF : Hid (∀ W, Below V.heap.size V W → W.heap[w.heap.size]? = some (.cells zeroP 92 (0, 0))) := fun W hW => (hW.block _ (by omega)).trans hYV
  generalize c.no = cno at HNO ⊢
  obtain ⟨me, done, ⟨ck, ca, cb, ct⟩, op⟩ := c
  dsimp only [zeroP, zeroPkt, APkt.val] at *
  clear h hBV hYV hrV hV hop k0 k1 k2 k3 k4 k5 kf j1 j6
  go_enter Tryz.func68, Tryz.ntmps68
  go_wp2_with fail
  rw [← unhide HV]
  clear k6
  go_region_held3 (fun W => W.cell? ⟨X, 0, none⟩ = some (.int .i64 me) ∧ W.cell? ⟨X, 2, none⟩ = some (.int .i64 ck) ∧ W.cell? ⟨X, 3, none⟩ = some (.string ca) ∧ W.cell? ⟨X, 4, none⟩ = some (.string cb) ∧ W.cell? ⟨X, 5, none⟩ = some (.string ct)) (first | (go_keep; done) | (simp [World.cell?_setCell_far, hXne, q0, q2, q3, q4, q5]; done)) (first
    | (go_at_call 94; refine (unhide HNO).mono ?_; rintro e w1 ⟨rfl, hw1⟩; obtain rfl := hw1.symm; clear hw1)
    | (go_at_call 38; refine ((unhide HCL) _).mono ?_; rintro e w2 ⟨rfl, b2⟩; have bV2 := (below_drew V).trans b2; obtain ⟨q0, q2, q3, q4, q5⟩ := (unhide HF) w2 bV2; have hY2 := (unhide HYF) w2 bV2; obtain ⟨⟨r0, r1, r2, r3⟩, ⟨r4, r5, r6, r7, r8⟩, rf⟩ := nine hY2))
  all_goals
    obtain ⟨hs1, hs2⟩ := set9 (a0 := .bool false) (a1 := .int .i64 me) (a2 := .int .i64 cno) (a3 := .int .i64 ck) (a4 := .string ca) (a5 := .string cb) (a6 := .string ct) (a7 := .int .i64 0) (a8 := .string ⟨#[]⟩) hY2
    have hB5 := ((unhide HBV).trans (bV2.mono (unhide HBV).size)).trans (hs2.below (by have := bV2.size; omega) (by simp))
    have HB5 := hide hB5
    obtain ⟨⟨z0, z1, z2, z3⟩, ⟨z4, z5, z6, z7, z8⟩, _⟩ := nine hs1
    clear hs1 hs2 hB5 hY2 r0 r1 r2 r3 r4 r5 r6 r7 r8 rf q0 q2 q3 q4 q5 j0 j2 j3 j4 j5 jf b2 bV2
    go_wp2
    refine bodyPost_ret (v := .tuple #[.agg #[.bool false, .int .i64 me, .int .i64 cno, .int .i64 ck, .string ca, .string cb, .string ct, .int .i64 0, .string ⟨#[]⟩], .bool true]) (by simp [results, Tryz.results68, go_sem, z0, z1, z2, z3, z4, z5, z6, z7, z8]) rfl ⟨rfl, unhide HB5⟩

theorem Send_any {N : Nat} {w : World} {X : Nat} {v : Value} {c : ACli} (h : KRep N w X v c) :
    Calls Tryz.prog 68 #[.pointer (some ⟨X, 0, none⟩)] w fun e w' => e = .returned (.tuple #[c.pkt.val, .bool c.op]) ∧ Below w.heap.size w w' := by
  unfold ACli.pkt
  cases hop : c.op
  · exact Send_none h hop
  · exact Send_some h hop

end Go.Proofs.YtmbhbnoifimeaabGreat

namespace Go.Proofs.YtmbhbnoifimeaabGreat
open Go.RowKit
set_option linter.unusedSimpArgs false
set_option linter.unusedVariables false

theorem set8K {w : World} {X : Nat} {t : TypeId} {y0 y1 y2 y3 y4 y5 y6 y7 a0 a1 a2 a3 a4 a5 a6 a7 : Value} (h : w.heap[X]? = some (.cells #[y0, y1, y2, y3, y4, y5, y6, y7] t (0, 0))) :
    ((((((((w.setCell ⟨X, 0, none⟩ a0).setCell ⟨X, 1, none⟩ a1).setCell ⟨X, 2, none⟩ a2).setCell ⟨X, 3, none⟩ a3).setCell ⟨X, 4, none⟩ a4).setCell ⟨X, 5, none⟩ a5).setCell ⟨X, 6, none⟩ a6).setCell ⟨X, 7, none⟩ a7).heap[X]? = some (.cells #[a0, a1, a2, a3, a4, a5, a6, a7] t (0, 0)) ∧
    Kept [X] w ((((((((w.setCell ⟨X, 0, none⟩ a0).setCell ⟨X, 1, none⟩ a1).setCell ⟨X, 2, none⟩ a2).setCell ⟨X, 3, none⟩ a3).setCell ⟨X, 4, none⟩ a4).setCell ⟨X, 5, none⟩ a5).setCell ⟨X, 6, none⟩ a6).setCell ⟨X, 7, none⟩ a7) := by
  have k : ∀ (W : World) (o : Nat) (u : Value), Kept [X] W (W.setCell ⟨X, o, none⟩ u) := fun W o u => kept_setCell [X] W X o u (by simp)
  have k0 := Kept.refl [X] w
  have h1 : (w.setCell ⟨X, 0, none⟩ a0).heap[X]? = some (.cells #[a0, y1, y2, y3, y4, y5, y6, y7] t (0, 0)) := heap_setCell_same h a0
  have k1 := k0.trans (k w 0 a0) (fun x hx => .inl hx)
  generalize w.setCell ⟨X, 0, none⟩ a0 = w1 at *
  have h2 : (w1.setCell ⟨X, 1, none⟩ a1).heap[X]? = some (.cells #[a0, a1, y2, y3, y4, y5, y6, y7] t (0, 0)) := heap_setCell_same h1 a1
  have k2 := k1.trans (k w1 1 a1) (fun x hx => .inl hx)
  generalize w1.setCell ⟨X, 1, none⟩ a1 = w2 at *
  have h3 : (w2.setCell ⟨X, 2, none⟩ a2).heap[X]? = some (.cells #[a0, a1, a2, y3, y4, y5, y6, y7] t (0, 0)) := heap_setCell_same h2 a2
  have k3 := k2.trans (k w2 2 a2) (fun x hx => .inl hx)
  generalize w2.setCell ⟨X, 2, none⟩ a2 = w3 at *
  have h4 : (w3.setCell ⟨X, 3, none⟩ a3).heap[X]? = some (.cells #[a0, a1, a2, a3, y4, y5, y6, y7] t (0, 0)) := heap_setCell_same h3 a3
  have k4 := k3.trans (k w3 3 a3) (fun x hx => .inl hx)
  generalize w3.setCell ⟨X, 3, none⟩ a3 = w4 at *
  have h5 : (w4.setCell ⟨X, 4, none⟩ a4).heap[X]? = some (.cells #[a0, a1, a2, a3, a4, y5, y6, y7] t (0, 0)) := heap_setCell_same h4 a4
  have k5 := k4.trans (k w4 4 a4) (fun x hx => .inl hx)
  generalize w4.setCell ⟨X, 4, none⟩ a4 = w5 at *
  have h6 : (w5.setCell ⟨X, 5, none⟩ a5).heap[X]? = some (.cells #[a0, a1, a2, a3, a4, a5, y6, y7] t (0, 0)) := heap_setCell_same h5 a5
  have k6 := k5.trans (k w5 5 a5) (fun x hx => .inl hx)
  generalize w5.setCell ⟨X, 5, none⟩ a5 = w6 at *
  have h7 : (w6.setCell ⟨X, 6, none⟩ a6).heap[X]? = some (.cells #[a0, a1, a2, a3, a4, a5, a6, y7] t (0, 0)) := heap_setCell_same h6 a6
  have k7 := k6.trans (k w6 6 a6) (fun x hx => .inl hx)
  generalize w6.setCell ⟨X, 6, none⟩ a6 = w7 at *
  have h8 : (w7.setCell ⟨X, 7, none⟩ a7).heap[X]? = some (.cells #[a0, a1, a2, a3, a4, a5, a6, a7] t (0, 0)) := heap_setCell_same h7 a7
  have k8 := k7.trans (k w7 7 a7) (fun x hx => .inl hx)
  generalize w7.setCell ⟨X, 7, none⟩ a7 = w8 at *
  exact ⟨h8, k8⟩

set_option maxRecDepth 100000 in
set_option maxHeartbeats 4000000 in
theorem Hear_none {N : Nat} {w : World} {X : Nat} {v : Value} {c : ACli} (h : KRep N w X v c) (p : APkt) (hp : c.hears p = false) :
    Calls Tryz.prog 113 #[.pointer (some ⟨X, 0, none⟩), p.val] w fun e w' => e = .returned (.bool false) ∧ KTurn N w X v w' c := by
  obtain ⟨V, hV⟩ : ∃ V, V = w.alloc (.cells (pArr p) 92) := ⟨_, rfl⟩
  have hBV : Below w.heap.size w V := by rw [hV]; exact (Below.refl _ _).alloc (Nat.le_refl _) _
  have HAW := hide (awaits_any (h.below hBV) p)
  rw [hp] at HAW
  have HT : Hid (∀ w', Below V.heap.size V w' → KTurn N w X v w' c) := fun w' hb => OTurn.of_below h.o (hBV.trans (hb.mono hBV.size))
  have HV := hide hV
  obtain ⟨y, pc, pn, ⟨pk, s1, s2, s3⟩, d, u⟩ := p
  dsimp only [APkt.val, pArr] at *
  clear h hBV hV hp
  go_enter Tryz.func113, Tryz.ntmps113
  go_wp2_with fail
  rw [← unhide HV]
  refine (unhide HAW).mono ?_
  rintro e w1 ⟨rfl, b1⟩
  go_wp2
  go_ret
  exact ⟨rfl, (unhide HT) _ b1⟩

set_option maxRecDepth 100000 in
set_option maxHeartbeats 4000000 in
theorem Hear_some {N : Nat} {w : World} {X : Nat} {v : Value} {c : ACli} (h : KRep N w X v c) (p : APkt) (hsm : SmallP p) (hp : c.hears p = true) :
    Calls Tryz.prog 113 #[.pointer (some ⟨X, 0, none⟩), p.val] w fun e w' => e = .returned (.bool true) ∧ KTurn N w X v w' (c.heard p) := by
  have e2 : c.heard p = ⟨c.me, c.done ++ [c.rcd p], zeroCall, false⟩ := by unfold ACli.heard; rw [if_pos hp]
  rw [e2]
  clear e2
  obtain ⟨V, hV⟩ : ∃ V, V = w.alloc (.cells (pArr p) 92) := ⟨_, rfl⟩
  have hBV : Below w.heap.size w V := by rw [hV]; exact (Below.refl _ _).alloc (Nat.le_refl _) _
  have hPV : V.heap[w.heap.size]? = some (.cells (pArr p) 92 (0, 0)) := by rw [hV]; exact heap_alloc_new _ _
  have hrV := h.below hBV
  have hXV : X < V.heap.size := hrV.o.lt
  have hzV : V.heap.size = w.heap.size + 1 := by rw [hV]; simp
  have HAW := hide (awaits_any hrV p)
  rw [hp] at HAW
  have HNO : Hid (∀ W, Below V.heap.size V W → Calls Tryz.prog 94 #[.pointer (some ⟨X, 0, none⟩)] W fun e w' => e = .returned (.int .i64 c.no) ∧ w' = W) := fun W hW => number_any (hrV.below hW)
  have HCA := hide (fun W => cloneAnswer_any p.code p.ans W hsm.2.2.2)
  have HF : Hid (∀ W, Below V.heap.size V W → W.cell? ⟨X, 0, none⟩ = some (.int .i64 c.me) ∧ W.cell? ⟨X, 2, none⟩ = some (.int .i64 c.call.kind) ∧ W.cell? ⟨X, 3, none⟩ = some (.string c.call.name) ∧ W.cell? ⟨X, 4, none⟩ = some (.string c.call.dst) ∧ W.cell? ⟨X, 5, none⟩ = some (.string c.call.text) ∧ W.cell? ⟨w.heap.size, 7, none⟩ = some (.int .i64 p.code) ∧ W.cell? ⟨w.heap.size, 8, none⟩ = some (.string p.ans)) := fun W hW => by
    obtain ⟨⟨y0, y1, y2, y3⟩, ⟨y4, y5, y6⟩, yf⟩ := seven (hrV.below hW).o.blk
    obtain ⟨⟨z0, z1, z2, z3⟩, ⟨z4, z5, z6, z7, z8⟩, _⟩ := nine ((hW.block _ (by omega)).trans hPV)
    exact ⟨y0, y2, y3, y4, y5, z7, z8⟩
  have HH := hide h
  have HOP : Hid (c.op = true) := by
    unfold ACli.hears at hp
    simp only [Bool.and_eq_true] at hp
    exact hp.1.1.1.1
  obtain ⟨i0, hi0, hz0, hz1', hz2⟩ := info_parts info61
  have HBV := hide hBV
  have HV := hide hV
  have hXl := h.o.lt
  unfold ACli.rcd
  generalize c.no = cno at HNO ⊢
  obtain ⟨me, done, ⟨ck, ca, cb, ct⟩, op⟩ := c
  obtain ⟨y, pc, pn, ⟨pk, s1, s2, s3⟩, d, u⟩ := p
  dsimp only [APkt.val, pArr] at *
  clear h hBV hV hp hrV hPV hsm
  go_enter Tryz.func113, Tryz.ntmps113
  go_wp2_with fail
  rw [← unhide HV]
  refine (unhide HAW).mono ?_
  rintro e w1 ⟨rfl, b1⟩
  go_wp2_with fail
  obtain ⟨x0, x2, x3, x4, x5, x7, x8⟩ := (unhide HF) w1 b1
  have hz1 := b1.size
  have hX1 : X < w1.heap.size := by omega
  have hP1 : w.heap.size < w1.heap.size := by omega
  have hne1 : w1.heap.size ≠ X := by omega
  have hne2 : w1.heap.size ≠ w.heap.size := by omega
  go_region_held3 (fun W => W.cell? ⟨X, 0, none⟩ = some (.int .i64 me) ∧ W.cell? ⟨X, 2, none⟩ = some (.int .i64 ck) ∧ W.cell? ⟨X, 3, none⟩ = some (.string ca) ∧ W.cell? ⟨X, 4, none⟩ = some (.string cb) ∧ W.cell? ⟨X, 5, none⟩ = some (.string ct) ∧ W.cell? ⟨w.heap.size, 7, none⟩ = some (.int .i64 d) ∧ W.cell? ⟨w.heap.size, 8, none⟩ = some (.string u)) (first | (go_keep; done) | (refine ⟨?_, ?_, ?_, ?_, ?_, ?_, ?_⟩ <;> (rw [al_old _ _ _ _ (by assumption)]; assumption)) | (simp [World.cell?_setCell_far, hne1, hne2, q0, q2, q3, q4, q5, q7, q8]; done)) (first
    | (go_at_call 94; refine ((unhide HNO) _ (by first | exact b1.trans ((below_drew w1).mono hz1) | exact b1.trans ((below_drew_alloc w1 _).mono hz1) | exact b1.trans ((below_alloc_drew w1 _).mono hz1))).mono ?_; rintro e w2 ⟨rfl, hw2⟩; obtain rfl := hw2.symm; clear hw2)
    | (go_at_call 39; refine ((unhide HCA) _).mono ?_; rintro e w3 ⟨rfl, b3⟩; have bV3 : Below V.heap.size V w3 := (by first | exact b1.trans (((below_drew w1).trans b3).mono hz1) | exact b1.trans (((below_drew_alloc w1 _).trans (b3.mono (by simp))).mono hz1) | exact b1.trans (((below_alloc_drew w1 _).trans (b3.mono (by simp))).mono hz1)); obtain ⟨q0, q2, q3, q4, q5, q7, q8⟩ := (unhide HF) w3 bV3; try (have hR3 : w3.heap[w1.heap.size]? = some (.cells #[.int .i64 0, .int .i64 0, .int .i64 0, .string ⟨#[]⟩, .string ⟨#[]⟩, .string ⟨#[]⟩, .int .i64 0, .string ⟨#[]⟩] 61 (0, 0)) := (b3.block w1.heap.size (by simp)).trans (heap_alloc_new w1 _); obtain ⟨⟨m0, m1, m2, m3⟩, ⟨m4, m5, m6, m7⟩, mf⟩ := eightK hR3)))
  all_goals have hz3 := bV3.size
  all_goals first
    | (obtain ⟨W, hW⟩ : ∃ W, W = w3.alloc (.cells #[.int .i64 me, .int .i64 cno, .int .i64 ck, .string ca, .string cb, .string ct, .int .i64 d, .string u] 61) := ⟨_, rfl⟩
       obtain ⟨Bk, hBk⟩ : ∃ B, B = w3.heap.size := ⟨_, rfl⟩
       have hWB : W.heap[Bk]? = some (.cells #[.int .i64 me, .int .i64 cno, .int .i64 ck, .string ca, .string cb, .string ct, .int .i64 d, .string u] 61 (0, 0)) := by rw [hW, hBk]; exact heap_alloc_new _ _
       have hBW : Below V.heap.size V W := by rw [hW]; exact bV3.alloc bV3.size _
       have hBkV : V.heap.size ≤ Bk := by omega
       rw [← hW, ← hBk]
       clear hW hBk)
    | (obtain ⟨hs1, hs2⟩ := set8K (a0 := .int .i64 me) (a1 := .int .i64 cno) (a2 := .int .i64 ck) (a3 := .string ca) (a4 := .string cb) (a5 := .string ct) (a6 := .int .i64 d) (a7 := .string u) hR3
       obtain ⟨W, hW⟩ : ∃ W, W = ((((((((w3.setCell ⟨w1.heap.size, 0, none⟩ (.int .i64 me)).setCell ⟨w1.heap.size, 1, none⟩ (.int .i64 cno)).setCell ⟨w1.heap.size, 2, none⟩ (.int .i64 ck)).setCell ⟨w1.heap.size, 3, none⟩ (.string ca)).setCell ⟨w1.heap.size, 4, none⟩ (.string cb)).setCell ⟨w1.heap.size, 5, none⟩ (.string ct)).setCell ⟨w1.heap.size, 6, none⟩ (.int .i64 d)).setCell ⟨w1.heap.size, 7, none⟩ (.string u)) := ⟨_, rfl⟩
       obtain ⟨Bk, hBk⟩ : ∃ B, B = w1.heap.size := ⟨_, rfl⟩
       rw [← hW] at hs1 hs2
       have hWB : W.heap[Bk]? = some (.cells #[.int .i64 me, .int .i64 cno, .int .i64 ck, .string ca, .string cb, .string ct, .int .i64 d, .string u] 61 (0, 0)) := by rw [hBk]; exact hs1
       have hBW : Below V.heap.size V W := bV3.trans (hs2.below (by omega) (by simp; omega))
       have hBkV : V.heap.size ≤ Bk := by omega
       rw [← hW, ← hBk]
       clear hW hBk hs1 hs2)
  all_goals
    have hbwW : Below w.heap.size w W := (unhide HBV).trans (hBW.mono (unhide HBV).size)
    have hrW := (unhide HH).below hbwW
    obtain ⟨a, cap, hv⟩ := hrW.o.form
    subst hv
    obtain ⟨k, hk⟩ : ∃ k, done.length = k := ⟨_, rfl⟩
    rw [hk] at hrW
    have nB := hrW.o.nd
    have HRW := hide hrW
    have HbwW := hide hbwW
    have hk200 : k < 200 := by rw [← hk]; exact hrW.ok.room (unhide HOP)
    have HOR : Hid (∀ wx, Below W.heap.size W wx → wx.ownsRow N 61 8 (.slice a k cap) k (done.flatMap rcells)) := fun wx hb => by have := ((unhide HRW).below (w' := wx) hb).o.row; rw [hk] at this; exact this
    have HFX : Hid (∀ wx, Below W.heap.size W wx → Can wx X 1 (.slice a k cap)) := fun wx hb => by
      obtain ⟨⟨y0, y1, y2, y3⟩, ⟨y4, y5, y6⟩, yf⟩ := seven ((unhide HRW).below (w' := wx) hb).o.blk
      exact ⟨y1, yf 1⟩
    have hBWl : Bk < W.heap.size := (Array.getElem?_eq_some_iff.1 hWB).1
    have hXW : X < W.heap.size := hrW.o.lt
    have HNN : Hid (N ≤ W.heap.size) := hrW.o.size
    obtain ⟨⟨m0, m1, m2, m3⟩, ⟨m4, m5, m6, m7⟩, mf⟩ := eightK hWB
    have hc1 := ((unhide HFX) W (Below.refl _ _)).1
    have hf1 := ((unhide HFX) W (Below.refl _ _)).2
    have HK := hide hk
    clear hrW hbwW hk x0 x2 x3 x4 x5 x7 x8 q0 q2 q3 q4 q5 q7 q8 b1 hne1 hne2 hX1 hP1 hz1
    go_wp2_with fail
    go_region_law (first
      | (refine step_append_lies _ (by rfl) _ _ _ (by rfl) N 61 i0 _ 8 96 Tryz.underlying33 hi0 hz0 hz1' hz2 rfl (by omega) (.slice a k cap) k (done.flatMap rcells) (by rfl) (HOR.out _ (below_alloc_drew W _))
          ⟨W.heap.size, 0, none⟩ 1 1 [.int .i64 me, .int .i64 cno, .int .i64 ck, .string ca, .string cb, .string ct, .int .i64 d, .string u] (by rfl) (by rfl) (World.news_of_block (cs := #[.int .i64 me, .int .i64 cno, .int .i64 ck, .string ca, .string cb, .string ct, .int .i64 d, .string u]) (t := 61) (fr := (0, 0)) (alloc_drew_new W _)) (by simp [Value.oneCell'])
          (by omega) (by unfold maxLen; omega) (by omega) (by have h4 := unhide HNN; simp; omega) (W.heap.size + 1) (by simp) ?_; intro g cap' w5 hown2 hgrow hat hlt; have hc2 := (HFX.out _ (below_alloc_drew W _)).grown hgrow nB; have hc3 := hc2.1; have hf3 := hc2.2))
    all_goals
      have hbA : Below W.heap.size W (W.alloc (.cells #[.int .i64 me, .int .i64 cno, .int .i64 ck, .string ca, .string cb, .string ct, .int .i64 d, .string u] 61)).drew := below_alloc_drew W _
      have hrA := (unhide HRW).below hbA
      have hXA : w5.heap[X]? = some (.cells #[.int .i64 me, .slice a k cap, .int .i64 ck, .string ca, .string cb, .string ct, .bool op] 85 (0, 0)) := by
        rw [hgrow.block X hrA.o.lt (fun e => nB e.symm)]
        have := hrA.o.blk
        unfold kcells at this
        exact this
      have hX6 : (w5.setCell ⟨X, 1, none⟩ (.slice (some ⟨g, 0, none⟩) (k + 1) cap')).heap[X]? = some (.cells #[.int .i64 me, .slice (some ⟨g, 0, none⟩) (k + 1) cap', .int .i64 ck, .string ca, .string cb, .string ct, .bool op] 85 (0, 0)) := heap_setCell_same hXA _
      have hk6 := kept_setCell [X] w5 X 1 (.slice (some ⟨g, 0, none⟩) (k + 1) cap') (by simp)
      obtain ⟨W6, hW6⟩ : ∃ W6, W6 = w5.setCell ⟨X, 1, none⟩ (.slice (some ⟨g, 0, none⟩) (k + 1) cap') := ⟨_, rfl⟩
      rw [← hW6] at hX6 hk6
      obtain ⟨hs1, hs2⟩ := set5 (a2 := .int .i64 0) (a3 := .string ⟨#[]⟩) (a4 := .string ⟨#[]⟩) (a5 := .string ⟨#[]⟩) (a6 := .bool false) hX6
      have hT : KTurn N _ X (.slice a k cap) _ ⟨me, done ++ [⟨me, cno, ⟨ck, ca, cb, ct⟩, d, u⟩], zeroCall, false⟩ := hrA.o.push (f' := kcells ⟨me, done ++ [⟨me, cno, ⟨ck, ca, cb, ct⟩, d, u⟩], zeroCall, false⟩) (n := k + 1) (r := ⟨me, cno, ⟨ck, ca, cb, ct⟩, d, u⟩) hgrow (by rw [unhide HK]) hown2 (by simpa using hat) (hk6.trans hs2 (fun x hx => .inl hx)) hs1
      have hT2 := OTurn.before ((unhide HbwW).trans (hbA.mono (unhide HbwW).size)) hT
      have HT := hide hT2
      obtain ⟨⟨y0, y1, y2, y3⟩, ⟨y4, y5, y6⟩, yf⟩ := seven hX6
      rw [← hW6]
      clear hT hT2 hs1 hs2 hX6 hk6 hW6 hXA hrA hbA hown2 hgrow hat hlt hc2 hc3 hf3 hc1 hf1 m0 m1 m2 m3 m4 m5 m6 m7 mf
      go_wp2
      go_ret
      exact ⟨rfl, by rw [unhide HK]; exact unhide HT⟩

theorem Hear_any {N : Nat} {w : World} {X : Nat} {v : Value} {c : ACli} (h : KRep N w X v c) (p : APkt) (hsm : SmallP p) :
    Calls Tryz.prog 113 #[.pointer (some ⟨X, 0, none⟩), p.val] w fun e w' => e = .returned (.bool (c.hears p)) ∧ KTurn N w X v w' (c.heard p) := by
  cases hp : c.hears p
  · have e : c.heard p = c := by unfold ACli.heard; rw [hp]; rfl
    rw [e]
    exact Hear_none h p hp
  · exact Hear_some h p hsm hp

end Go.Proofs.YtmbhbnoifimeaabGreat

namespace Go.Proofs.YtmbhbnoifimeaabGreat
open Go.RowKit
set_option linter.unusedSimpArgs false
set_option linter.unusedVariables false

theorem six_set {W : World} {b i : Nat} {u2 u3 u4 u5 u6 u7 u : Value} (h : W.cell? ⟨b, 2, none⟩ = some u2 ∧ W.cell? ⟨b, 3, none⟩ = some u3 ∧ W.cell? ⟨b, 4, none⟩ = some u4 ∧ W.cell? ⟨b, 5, none⟩ = some u5 ∧ W.cell? ⟨b, 6, none⟩ = some u6 ∧ W.cell? ⟨b, 7, none⟩ = some u7) (hi : W.cell? ⟨b, i, none⟩ = some u) : (W.setCell ⟨b, i, none⟩ u).cell? ⟨b, 2, none⟩ = some u2 ∧ (W.setCell ⟨b, i, none⟩ u).cell? ⟨b, 3, none⟩ = some u3 ∧ (W.setCell ⟨b, i, none⟩ u).cell? ⟨b, 4, none⟩ = some u4 ∧ (W.setCell ⟨b, i, none⟩ u).cell? ⟨b, 5, none⟩ = some u5 ∧ (W.setCell ⟨b, i, none⟩ u).cell? ⟨b, 6, none⟩ = some u6 ∧ (W.setCell ⟨b, i, none⟩ u).cell? ⟨b, 7, none⟩ = some u7 :=
  ⟨keep_set hi h.1, keep_set hi h.2.1, keep_set hi h.2.2.1, keep_set hi h.2.2.2.1, keep_set hi h.2.2.2.2.1, keep_set hi h.2.2.2.2.2⟩
theorem six_set2 {W : World} {b : Nat} {u2 u3 u4 u5 u6 u7 : Value} (h : W.cell? ⟨b, 2, none⟩ = some u2 ∧ W.cell? ⟨b, 3, none⟩ = some u3 ∧ W.cell? ⟨b, 4, none⟩ = some u4 ∧ W.cell? ⟨b, 5, none⟩ = some u5 ∧ W.cell? ⟨b, 6, none⟩ = some u6 ∧ W.cell? ⟨b, 7, none⟩ = some u7) : (W.setCell ⟨b, 2, none⟩ u2).cell? ⟨b, 2, none⟩ = some u2 ∧ (W.setCell ⟨b, 2, none⟩ u2).cell? ⟨b, 3, none⟩ = some u3 ∧ (W.setCell ⟨b, 2, none⟩ u2).cell? ⟨b, 4, none⟩ = some u4 ∧ (W.setCell ⟨b, 2, none⟩ u2).cell? ⟨b, 5, none⟩ = some u5 ∧ (W.setCell ⟨b, 2, none⟩ u2).cell? ⟨b, 6, none⟩ = some u6 ∧ (W.setCell ⟨b, 2, none⟩ u2).cell? ⟨b, 7, none⟩ = some u7 := six_set h h.1
theorem six_set3 {W : World} {b : Nat} {u2 u3 u4 u5 u6 u7 : Value} (h : W.cell? ⟨b, 2, none⟩ = some u2 ∧ W.cell? ⟨b, 3, none⟩ = some u3 ∧ W.cell? ⟨b, 4, none⟩ = some u4 ∧ W.cell? ⟨b, 5, none⟩ = some u5 ∧ W.cell? ⟨b, 6, none⟩ = some u6 ∧ W.cell? ⟨b, 7, none⟩ = some u7) : (W.setCell ⟨b, 3, none⟩ u3).cell? ⟨b, 2, none⟩ = some u2 ∧ (W.setCell ⟨b, 3, none⟩ u3).cell? ⟨b, 3, none⟩ = some u3 ∧ (W.setCell ⟨b, 3, none⟩ u3).cell? ⟨b, 4, none⟩ = some u4 ∧ (W.setCell ⟨b, 3, none⟩ u3).cell? ⟨b, 5, none⟩ = some u5 ∧ (W.setCell ⟨b, 3, none⟩ u3).cell? ⟨b, 6, none⟩ = some u6 ∧ (W.setCell ⟨b, 3, none⟩ u3).cell? ⟨b, 7, none⟩ = some u7 := six_set h h.2.1
theorem six_set4 {W : World} {b : Nat} {u2 u3 u4 u5 u6 u7 : Value} (h : W.cell? ⟨b, 2, none⟩ = some u2 ∧ W.cell? ⟨b, 3, none⟩ = some u3 ∧ W.cell? ⟨b, 4, none⟩ = some u4 ∧ W.cell? ⟨b, 5, none⟩ = some u5 ∧ W.cell? ⟨b, 6, none⟩ = some u6 ∧ W.cell? ⟨b, 7, none⟩ = some u7) : (W.setCell ⟨b, 4, none⟩ u4).cell? ⟨b, 2, none⟩ = some u2 ∧ (W.setCell ⟨b, 4, none⟩ u4).cell? ⟨b, 3, none⟩ = some u3 ∧ (W.setCell ⟨b, 4, none⟩ u4).cell? ⟨b, 4, none⟩ = some u4 ∧ (W.setCell ⟨b, 4, none⟩ u4).cell? ⟨b, 5, none⟩ = some u5 ∧ (W.setCell ⟨b, 4, none⟩ u4).cell? ⟨b, 6, none⟩ = some u6 ∧ (W.setCell ⟨b, 4, none⟩ u4).cell? ⟨b, 7, none⟩ = some u7 := six_set h h.2.2.1
theorem six_set5 {W : World} {b : Nat} {u2 u3 u4 u5 u6 u7 : Value} (h : W.cell? ⟨b, 2, none⟩ = some u2 ∧ W.cell? ⟨b, 3, none⟩ = some u3 ∧ W.cell? ⟨b, 4, none⟩ = some u4 ∧ W.cell? ⟨b, 5, none⟩ = some u5 ∧ W.cell? ⟨b, 6, none⟩ = some u6 ∧ W.cell? ⟨b, 7, none⟩ = some u7) : (W.setCell ⟨b, 5, none⟩ u5).cell? ⟨b, 2, none⟩ = some u2 ∧ (W.setCell ⟨b, 5, none⟩ u5).cell? ⟨b, 3, none⟩ = some u3 ∧ (W.setCell ⟨b, 5, none⟩ u5).cell? ⟨b, 4, none⟩ = some u4 ∧ (W.setCell ⟨b, 5, none⟩ u5).cell? ⟨b, 5, none⟩ = some u5 ∧ (W.setCell ⟨b, 5, none⟩ u5).cell? ⟨b, 6, none⟩ = some u6 ∧ (W.setCell ⟨b, 5, none⟩ u5).cell? ⟨b, 7, none⟩ = some u7 := six_set h h.2.2.2.1
theorem six_set6 {W : World} {b : Nat} {u2 u3 u4 u5 u6 u7 : Value} (h : W.cell? ⟨b, 2, none⟩ = some u2 ∧ W.cell? ⟨b, 3, none⟩ = some u3 ∧ W.cell? ⟨b, 4, none⟩ = some u4 ∧ W.cell? ⟨b, 5, none⟩ = some u5 ∧ W.cell? ⟨b, 6, none⟩ = some u6 ∧ W.cell? ⟨b, 7, none⟩ = some u7) : (W.setCell ⟨b, 6, none⟩ u6).cell? ⟨b, 2, none⟩ = some u2 ∧ (W.setCell ⟨b, 6, none⟩ u6).cell? ⟨b, 3, none⟩ = some u3 ∧ (W.setCell ⟨b, 6, none⟩ u6).cell? ⟨b, 4, none⟩ = some u4 ∧ (W.setCell ⟨b, 6, none⟩ u6).cell? ⟨b, 5, none⟩ = some u5 ∧ (W.setCell ⟨b, 6, none⟩ u6).cell? ⟨b, 6, none⟩ = some u6 ∧ (W.setCell ⟨b, 6, none⟩ u6).cell? ⟨b, 7, none⟩ = some u7 := six_set h h.2.2.2.2.1
theorem six_set7 {W : World} {b : Nat} {u2 u3 u4 u5 u6 u7 : Value} (h : W.cell? ⟨b, 2, none⟩ = some u2 ∧ W.cell? ⟨b, 3, none⟩ = some u3 ∧ W.cell? ⟨b, 4, none⟩ = some u4 ∧ W.cell? ⟨b, 5, none⟩ = some u5 ∧ W.cell? ⟨b, 6, none⟩ = some u6 ∧ W.cell? ⟨b, 7, none⟩ = some u7) : (W.setCell ⟨b, 7, none⟩ u7).cell? ⟨b, 2, none⟩ = some u2 ∧ (W.setCell ⟨b, 7, none⟩ u7).cell? ⟨b, 3, none⟩ = some u3 ∧ (W.setCell ⟨b, 7, none⟩ u7).cell? ⟨b, 4, none⟩ = some u4 ∧ (W.setCell ⟨b, 7, none⟩ u7).cell? ⟨b, 5, none⟩ = some u5 ∧ (W.setCell ⟨b, 7, none⟩ u7).cell? ⟨b, 6, none⟩ = some u6 ∧ (W.setCell ⟨b, 7, none⟩ u7).cell? ⟨b, 7, none⟩ = some u7 := six_set h h.2.2.2.2.2

theorem rtake_snoc (rs : List ARec) (k : Nat) (r : ARec) (h : rs[k]? = some r) : (rs.take (k + 1)).flatMap rcells = (rs.take k).flatMap rcells ++ rcells r := by
  rw [List.take_add_one, h]
  simp

set_option maxRecDepth 100000 in
set_option maxHeartbeats 4000000 in
theorem Done_any {N : Nat} {w : World} {X : Nat} {v : Value} {c : ACli} (h : KRep N w X v c) {n : Nat} (hn : c.done.length = n) :
    Calls Tryz.prog 17 #[.pointer (some ⟨X, 0, none⟩)] w fun e w' => ∃ g cap, e = .returned (.slice (some ⟨g, 0, none⟩) n cap) ∧ w'.ownsRow w.heap.size 61 8 (.slice (some ⟨g, 0, none⟩) n cap) n (c.done.flatMap rcells) ∧ Below w.heap.size w w' := by
  obtain ⟨i0, hi0, hz0, hz1, hz2⟩ := info_parts info61
  have hlen : n ≤ 200 := by rw [← hn]; exact h.ok.few
  have hB : X < w.heap.size := h.o.lt
  obtain ⟨⟨y0, hc, y2, y3⟩, ⟨y4, y5, y6⟩, yf⟩ := seven h.o.blk
  obtain ⟨a, cap, rfl⟩ := h.o.form
  rw [hn] at hc
  have HP := hide (recs_row h.o.row rfl)
  rw [hn] at HP
  have HSM := hide h.ok.small
  have HN := hide hn
  obtain ⟨me, done, cl, op⟩ := c
  dsimp only at *
  clear h hn y0 y2 y3 y4 y5 y6 yf
  go_enter Tryz.func17, Tryz.ntmps17
  go_wp2_with (refine wpList_make_own _ rfl _ _ 33 rfl w.heap.size 61 i0 _ 8 Tryz.underlying33 hi0 hz0 hz1 .i64 .i64 (n : Int) n rfl rfl rfl (by rw [hz2]; omega) (by unfold maxLen; omega) (Nat.le_refl _) ?_)
  intro w0 hown0 hgr0
  have b0 : Below w.heap.size w w0 := (Below.refl _ _).grown hgr0 (Nat.le_refl _) (by simp)
  have hc0 := (b0.cell (p := ⟨X, 1, none⟩) hB).trans hc
  have HO0 := hide hown0
  have HB0 := hide b0
  clear hc hown0 b0 hgr0
  go_wp2
  go_loopw [3, 5, 17] (fun nv _ i wr => ∃ k : Nat, k ≤ n ∧ i = .int .i64 k ∧ Hid (Below w.heap.size w wr) ∧ Hid (∃ g c, nv = .slice (some ⟨g, 0, none⟩) k c) ∧ Hid (wr.ownsRow w.heap.size 61 8 nv k ((done.take k).flatMap rcells))) (fun _ _ i _ => n - (intOf i).toNat)
  case atStart => exact ⟨0, Nat.zero_le _, rfl, unhide HB0, ⟨_, _, rfl⟩, (by simpa using unhide HO0 : w0.ownsRow w.heap.size 61 8 (Value.slice (some ⟨w.heap.size, 0, none⟩) 0 n) 0 ((done.take 0).flatMap rcells))⟩
  case round =>
    obtain ⟨k, hk, rfl, HB, ⟨g1, c1, rfl⟩, HO⟩ := hrel
    by_cases hlt : (k : Int) < (n : Int)
    · obtain ⟨x, hx⟩ : ∃ x, done[k]? = some x := ⟨_, List.getElem?_eq_getElem (by rw [unhide HN]; omega)⟩
      obtain ⟨g, off, rfl, hcx⟩ := ((unhide HP).below (unhide HB)).2 (by omega)
      obtain ⟨x0, x1, x2, x3, x4, x5, x6, x7⟩ := hcx k x hx
      have hgz : g < wr.heap.size := (hcx k x hx).lt
      have HX := hide hx
      have hwz := (unhide HB).size
      have hsm := (unhide HSM) x (List.mem_of_getElem? hx)
      have HCC := hide (fun W => cloneCall_any x.call W hsm.1)
      have HCA := hide (fun W => cloneAnswer_any x.code x.ans W hsm.2)
      obtain ⟨xc, xn, ⟨ck, ca, cb, ct⟩, d, u⟩ := x
      dsimp only at *
      obtain ⟨V, hV⟩ : ∃ V, V = wr.alloc (.cells #[.int .i64 xc, .int .i64 xn, .int .i64 ck, .string ca, .string cb, .string ct, .int .i64 d, .string u] 61) := ⟨_, rfl⟩
      have hBV : Below wr.heap.size wr V := by rw [hV]; exact (Below.refl _ _).alloc (Nat.le_refl _) _
      have hRV : V.heap[wr.heap.size]? = some (.cells #[.int .i64 xc, .int .i64 xn, .int .i64 ck, .string ca, .string cb, .string ct, .int .i64 d, .string u] 61 (0, 0)) := by rw [hV]; exact heap_alloc_new _ _
      have hzV : V.heap.size = wr.heap.size + 1 := by rw [hV]; simp
      have HOW := hide ((unhide HO).alloc (.cells #[.int .i64 xc, .int .i64 xn, .int .i64 ck, .string ca, .string cb, .string ct, .int .i64 d, .string u] 61))
      rw [← hV] at HOW
      have HF : Hid (∀ W, Below V.heap.size V W → W.heap[wr.heap.size]? = some (.cells #[.int .i64 xc, .int .i64 xn, .int .i64 ck, .string ca, .string cb, .string ct, .int .i64 d, .string u] 61 (0, 0))) := fun W hW => (hW.block _ (by omega)).trans hRV
      have HBV : Hid (Below w.heap.size w V) := (unhide HB).trans (hBV.mono hwz)
      have HV := hide hV
      clear hx hcx hsm hBV hRV hV
      go_wp2_with fail
      rw [← unhide HV]
      clear x0 x1 x2 x3 x4 x5 x6 x7
      obtain ⟨⟨z0, z1, z2, z3⟩, ⟨z4, z5, z6, z7⟩, zf⟩ := eightK ((unhide HF) V (Below.refl _ _))
      go_region_held3 (fun W => W.cell? ⟨wr.heap.size, 2, none⟩ = some (.int .i64 ck) ∧ W.cell? ⟨wr.heap.size, 3, none⟩ = some (.string ca) ∧ W.cell? ⟨wr.heap.size, 4, none⟩ = some (.string cb) ∧ W.cell? ⟨wr.heap.size, 5, none⟩ = some (.string ct) ∧ W.cell? ⟨wr.heap.size, 6, none⟩ = some (.int .i64 d) ∧ W.cell? ⟨wr.heap.size, 7, none⟩ = some (.string u)) (first | (with_reducible exact six_set7 (six_set6 (by assumption))) | (with_reducible exact six_set5 (six_set4 (six_set3 (six_set2 (by assumption))))) | (go_keep; done)) (first
        | (go_at_call 38; refine ((unhide HCC) _).mono ?_; rintro e w2 ⟨rfl, b2⟩; have bV2 := (below_drew V).trans b2; obtain ⟨⟨p0, p1, p2, p3⟩, ⟨p4, p5, p6, p7⟩, pf⟩ := eightK ((unhide HF) w2 bV2))
        | (go_at_call 39; refine ((unhide HCA) _).mono ?_; rintro e w3 ⟨rfl, b3⟩; have bV3 := bV2.trans (b3.mono bV2.size); obtain ⟨⟨q0, q1, q2, q3⟩, ⟨q4, q5, q6, q7⟩, qf⟩ := eightK ((unhide HF) w3 bV3)))
      all_goals
        have hR3 := (unhide HF) w3 bV3
        have hz3 := bV3.size
        have hR4 := (set_same (j := 7) (x := .string u) (set_same (j := 6) (x := .int .i64 d) (set_same (j := 5) (x := .string ct) (set_same (j := 4) (x := .string cb) (set_same (j := 3) (x := .string ca) (set_same (j := 2) (x := .int .i64 ck) hR3 rfl) rfl) rfl) rfl) rfl) rfl)
        have hB4 : Below w.heap.size w ((((((w3.setCell ⟨wr.heap.size, 2, none⟩ (.int .i64 ck)).setCell ⟨wr.heap.size, 3, none⟩ (.string ca)).setCell ⟨wr.heap.size, 4, none⟩ (.string cb)).setCell ⟨wr.heap.size, 5, none⟩ (.string ct)).setCell ⟨wr.heap.size, 6, none⟩ (.int .i64 d)).setCell ⟨wr.heap.size, 7, none⟩ (.string u)) := (below_set (below_set (below_set (below_set (below_set (below_set ((unhide HBV).trans (bV3.mono (unhide HBV).size)) (by omega)) (by omega)) (by omega)) (by omega)) (by omega)) (by omega))
        have hO4 : ((((((w3.setCell ⟨wr.heap.size, 2, none⟩ (.int .i64 ck)).setCell ⟨wr.heap.size, 3, none⟩ (.string ca)).setCell ⟨wr.heap.size, 4, none⟩ (.string cb)).setCell ⟨wr.heap.size, 5, none⟩ (.string ct)).setCell ⟨wr.heap.size, 6, none⟩ (.int .i64 d)).setCell ⟨wr.heap.size, 7, none⟩ (.string u)).ownsRow w.heap.size 61 8 (.slice (some ⟨g1, 0, none⟩) k c1) k ((done.take k).flatMap rcells) := by
          have hgne : g1 ≠ wr.heap.size := by have := ((unhide HO).lt g1 rfl).2; omega
          have hgl := ((unhide HOW).lt g1 rfl).2
          refine ownsRow_same (unhide HOW) (fun j hj => ?_)
          have : j = g1 := by simpa [Value.ownBlock] using hj.symm
          subst this
          rw [Below.heap_setCell _ _ _ _ (by simp; omega), Below.heap_setCell _ _ _ _ (by simp; omega), Below.heap_setCell _ _ _ _ (by simp; omega), Below.heap_setCell _ _ _ _ (by simp; omega), Below.heap_setCell _ _ _ _ (by simp; omega), Below.heap_setCell _ _ _ _ (by simp; omega)]
          exact bV3.block j hgl
        obtain ⟨W4, hW4⟩ : ∃ W4, W4 = ((((((w3.setCell ⟨wr.heap.size, 2, none⟩ (.int .i64 ck)).setCell ⟨wr.heap.size, 3, none⟩ (.string ca)).setCell ⟨wr.heap.size, 4, none⟩ (.string cb)).setCell ⟨wr.heap.size, 5, none⟩ (.string ct)).setCell ⟨wr.heap.size, 6, none⟩ (.int .i64 d)).setCell ⟨wr.heap.size, 7, none⟩ (.string u)) := ⟨_, rfl⟩
        rw [← hW4] at hR4 hB4 hO4
        rw [← hW4]
        obtain ⟨⟨m0, m1, m2, m3⟩, ⟨m4, m5, m6, m7⟩, mf⟩ := eightK hR4
        have HO4 := hide hO4
        have HB4 := hide hB4
        have hz4 := hB4.size
        clear hR3 hR4 hO4 hB4 hW4 p0 p1 p2 p3 p4 p5 p6 p7 pf q0 q1 q2 q3 q4 q5 q6 q7 qf z0 z1 z2 z3 z4 z5 z6 z7 zf b2 b3 bV2 bV3
        go_wp2_with (first
          | (at_builtin; refine wpList_append_lies _ rfl _ _ 33 rfl w.heap.size 61 i0 _ 8 96 Tryz.underlying33 hi0 hz0 hz1 hz2 rfl (by omega) (.slice (some ⟨g1, 0, none⟩) k c1) k ((done.take k).flatMap rcells) rfl ((unhide HO4).alloc _) ⟨W4.heap.size, 0, none⟩ 1 1 [.int .i64 xc, .int .i64 xn, .int .i64 ck, .string ca, .string cb, .string ct, .int .i64 d, .string u] rfl rfl (World.news_of_block (cs := #[.int .i64 xc, .int .i64 xn, .int .i64 ck, .string ca, .string cb, .string ct, .int .i64 d, .string u]) (t := 61) (fr := (0, 0)) (heap_alloc_new W4 _)) (by simp [Value.oneCell']) (by omega) (by unfold maxLen; omega) (by omega) (by simp; omega) (W4.heap.size + 1) (by simp) ?_; intro g2 c2 w5 hown2 hgrow hat hlt2))
        go_roundw
        case rel =>
          refine ⟨k + 1, by omega, by go_num, ?_, ⟨_, _, rfl⟩, ?_⟩
          · refine ((unhide HB4).alloc hz4 _).grown hgrow (by simp; omega) ?_
            intro j hj
            exact ((unhide HO).lt j hj).1
          · show w5.ownsRow _ _ _ _ _ _
            rw [rtake_snoc done k _ (unhide HX)]
            exact hown2
        case measure => simp [intOf]; omega
    · obtain rfl : k = n := by omega
      have hown := unhide HO
      rw [List.take_of_length_le (by rw [unhide HN]; omega)] at hown
      have HO' := hide hown
      clear hown
      go_wp2
      go_ret
      exact ⟨g1, c1, rfl, unhide HO', unhide HB⟩

end Go.Proofs.YtmbhbnoifimeaabGreat

namespace Go.Proofs.YtmbhbnoifimeaabGreat
open Go.RowKit
set_option linter.unusedSimpArgs false
set_option linter.unusedVariables false

/-- Where a world lies: its store, its clients, its post. -/
structure WOwn where
  S : Nat
  B : Nat
  own : List Nat
  lv : Value
  X : Nat → Nat
  v : Nat → Value
  P : Nat
  pv : Value
/-- What is a part's own: 3 the store's, 4 the post's, others a client's. -/
def WOwn.part (o : WOwn) (i : Nat) : List Nat := if i = 3 then sown o.S o.own o.lv else if i = 4 then powns o.P o.pv else powns (o.X i) (o.v i)
def WOwn.all (o : WOwn) (W : Nat) : List Nat := W :: (o.part 0 ++ o.part 1 ++ o.part 2 ++ o.part 3 ++ o.part 4)
theorem WOwn.mem_all {o : WOwn} {W b : Nat} : b ∈ o.all W ↔ b = W ∨ ∃ i, i < 5 ∧ b ∈ o.part i := by
  unfold WOwn.all
  simp only [List.mem_cons, List.mem_append]
  constructor
  · rintro (h | ((((h | h) | h) | h) | h))
    · exact .inl h
    · exact .inr ⟨0, by omega, h⟩
    · exact .inr ⟨1, by omega, h⟩
    · exact .inr ⟨2, by omega, h⟩
    · exact .inr ⟨3, by omega, h⟩
    · exact .inr ⟨4, by omega, h⟩
  · rintro (h | ⟨i, hi, h⟩)
    · exact .inl h
    · match i, hi with
      | 0, _ => exact .inr (.inl (.inl (.inl (.inl h))))
      | 1, _ => exact .inr (.inl (.inl (.inl (.inr h))))
      | 2, _ => exact .inr (.inl (.inl (.inr h)))
      | 3, _ => exact .inr (.inl (.inr h))
      | 4, _ => exact .inr (.inr h)
def wcells (o : WOwn) : Array Value := #[.pointer (some ⟨o.S, 0, none⟩), .pointer (some ⟨o.X 0, 0, none⟩), .pointer (some ⟨o.X 1, 0, none⟩), .pointer (some ⟨o.X 2, 0, none⟩), .pointer (some ⟨o.P, 0, none⟩)]
/-- A world at block W. -/
structure WRep (N : Nat) (w : World) (W : Nat) (o : WOwn) (A : AW) : Prop where
  new : N ≤ W
  blk : w.heap[W]? = some (.cells (wcells o) 51 (0, 0))
  s : SRep N w o.S o.B o.own o.lv A.log
  c : ∀ n, n < 3 → KRep N w (o.X n) (o.v n) (A.cl n)
  p : PRep 115 N w o.P o.pv A.ms
  dj : ∀ i j, i < 5 → j < 5 → i ≠ j → ∀ b, b ∈ o.part i → b ∉ o.part j
  nW : ∀ i, i < 5 → W ∉ o.part i
  ss : (logB A.log).length ≤ 2000
theorem next_of {N : Nat} {w w' : World} {o o' : List Nat} (hk : Kept o w w') (hN : N ≤ w.heap.size) (hg : ∀ k, k ∈ o → N ≤ k) (hn : ∀ k, k ∈ o' → k ∈ o ∨ w.heap.size ≤ k) : Next N w w' o o' :=
  ⟨hk.below hN hg, fun b hb h1 => ⟨fun hm => by rcases hn b hm with h2 | h2; exact h1 h2; omega, hk.block b hb h1⟩⟩
section
variable {N : Nat} {w w' w1 w2 : World} {W : Nat} {o o' : WOwn} {A A' B : AW}
theorem WRep.lt (h : WRep N w W o A) : W < w.heap.size := (Array.getElem?_eq_some_iff.1 h.blk).1
theorem WRep.size (h : WRep N w W o A) : N ≤ w.heap.size := by have := h.lt; have := h.new; omega
theorem WRep.ge (h : WRep N w W o A) {i : Nat} (hi : i < 5) : ∀ k, k ∈ o.part i → N ≤ k ∧ k < w.heap.size := fun k hk => by
  match i, hi with
  | 0, _ => exact (h.c 0 (by omega)).o.ge k hk
  | 1, _ => exact (h.c 1 (by omega)).o.ge k hk
  | 2, _ => exact (h.c 2 (by omega)).o.ge k hk
  | 3, _ => exact sown_ge h.s k hk
  | 4, _ => exact h.p.ge k hk
theorem WRep.all_ge (h : WRep N w W o A) : ∀ k, k ∈ o.all W → N ≤ k ∧ k < w.heap.size := fun k hk => by
  rcases WOwn.mem_all.1 hk with rfl | ⟨i, hi, hk⟩
  · exact ⟨h.new, h.lt⟩
  · exact h.ge hi k hk
theorem WRep.below (h : WRep N w W o A) (hb : Below w.heap.size w w') : WRep N w' W o A :=
  ⟨h.new, (hb.block W h.lt).trans h.blk, h.s.below hb, fun n hn => (h.c n hn).below hb, h.p.below hb, h.dj, h.nW, h.ss⟩
theorem part_client (o : WOwn) {n : Nat} (hn : n < 3) : o.part n = powns (o.X n) (o.v n) := by unfold WOwn.part; rw [if_neg (by omega), if_neg (by omega)]
theorem KRep.kept {X : Nat} {v : Value} {c : ACli} {ow : List Nat} (h : KRep N w X v c) (hk : Kept ow w w') (hd : ∀ k, k ∈ powns X v → k ∉ ow) : KRep N w' X v c := ⟨h.o.kept hk hd, h.ok⟩
theorem WRep.kept {ow : List Nat} (h : WRep N w W o A) (hk : Kept ow w w') (hd : ∀ k, k ∈ o.all W → k ∉ ow) : WRep N w' W o A := by
  have hp : ∀ i, i < 5 → ∀ k, k ∈ o.part i → k ∉ ow := fun i hi k hm => hd k (WOwn.mem_all.2 (.inr ⟨i, hi, hm⟩))
  exact ⟨h.new, (hk.block W h.lt (hd W (WOwn.mem_all.2 (.inl rfl)))).trans h.blk, h.s.kept hk (hp 3 (by omega)), fun n hn => (h.c n hn).kept hk (fun k hm => hp n (by omega) k (by rw [part_client o hn]; exact hm)), h.p.kept hk (hp 4 (by omega)), h.dj, h.nW, h.ss⟩

/-- From w to w' the world has come to A'. -/
def WTurn (N : Nat) (w : World) (W : Nat) (o : WOwn) (w' : World) (A' : AW) : Prop := ∃ o', WRep N w' W o' A' ∧ Next N w w' (o.all W) (o'.all W)
theorem WTurn.of_below (h : WRep N w W o A) (hb : Below w.heap.size w w') : WTurn N w W o w' A := ⟨o, h.below hb, Next.of_below _ hb h.size⟩
theorem WTurn.before (hb : Below w.heap.size w w1) (hN : N ≤ w.heap.size) (h : WTurn N w1 W o w' A') : WTurn N w W o w' A' := by
  obtain ⟨o', h1, h2⟩ := h
  exact ⟨o', h1, (Next.of_below _ hb hN).trans h2⟩
theorem WTurn.below (hT : WTurn N w W o w' A') : Below N w w' := by
  obtain ⟨o', k1, k2⟩ := hT
  exact k2.below
/-- One part has turned. -/
theorem WRep.turn (h : WRep N w W o A) {i : Nat} (hi : i < 5) (hN : Next N w w' (o.part i) (o'.part i)) (hoff : ∀ j, j < 5 → j ≠ i → o'.part j = o.part j) (hcl : wcells o' = wcells o)
    (hs : SRep N w' o'.S o'.B o'.own o'.lv A'.log) (hc : ∀ n, n < 3 → KRep N w' (o'.X n) (o'.v n) (A'.cl n)) (hp : PRep 115 N w' o'.P o'.pv A'.ms) (hss : (logB A'.log).length ≤ 2000) : WTurn N w W o w' A' := by
  have hst : ∀ b, b < w.heap.size → b ∉ o.part i → b ∉ o'.part i := fun b h1 h2 => (hN.keep b h1 h2).1
  refine ⟨o', ⟨h.new, (hN.keep W h.lt (h.nW i hi)).2.trans (by rw [hcl]; exact h.blk), hs, hc, hp, fun a b ha hb hab x hx hy => ?_, fun j hj hm => ?_, hss⟩, hN.below, fun b hb hn => ⟨fun hm => ?_, ?_⟩⟩
  · by_cases ea : a = i
    · have eb : b ≠ i := fun e => hab (ea.trans e.symm)
      rw [hoff b hb eb] at hy
      have hlt := (h.ge hb x hy).2
      rw [ea] at hx
      exact hst x hlt (fun hm => h.dj i b hi hb (fun e => eb e.symm) x hm hy) hx
    · rw [hoff a ha ea] at hx
      by_cases eb : b = i
      · rw [eb] at hy
        exact hst x (h.ge ha x hx).2 (fun hm => h.dj a i ha hi ea x hx hm) hy
      · rw [hoff b hb eb] at hy
        exact h.dj a b ha hb hab x hx hy
  · by_cases e : j = i
    · rw [e] at hm; exact hst W h.lt (h.nW i hi) hm
    · rw [hoff j hj e] at hm; exact h.nW j hj hm
  · rcases WOwn.mem_all.1 hm with rfl | ⟨j, hj, hm⟩
    · exact hn (WOwn.mem_all.2 (.inl rfl))
    · by_cases e : j = i
      · rw [e] at hm
        exact hst b hb (fun hm' => hn (WOwn.mem_all.2 (.inr ⟨i, hi, hm'⟩))) hm
      · rw [hoff j hj e] at hm
        exact hn (WOwn.mem_all.2 (.inr ⟨j, hj, hm⟩))
  · exact (hN.keep b hb (fun hm' => hn (WOwn.mem_all.2 (.inr ⟨i, hi, hm'⟩)))).2
theorem WRep.rest (h : WRep N w W o A) {i : Nat} (hi : i < 5) {p' : List Nat} (hN : Next N w w' (o.part i) p') : (i ≠ 3 → SRep N w' o.S o.B o.own o.lv A.log) ∧ (∀ n, n < 3 → n ≠ i → KRep N w' (o.X n) (o.v n) (A.cl n)) ∧ (i ≠ 4 → PRep 115 N w' o.P o.pv A.ms) := by
  refine ⟨fun e => h.s.kept hN.kept (h.dj 3 i (by omega) hi (fun h => e h.symm)), fun n hn e => (h.c n hn).kept hN.kept (fun k hm => h.dj n i (by omega) hi e k (by rw [part_client o hn]; exact hm)), fun e => h.p.kept hN.kept (h.dj 4 i (by omega) hi (fun h => e h.symm))⟩
theorem WRep.turnS (h : WRep N w W o A) {L' : List ARec} (hT : STurned N w o.S o.own o.lv w' L') (hs : (logB L').length ≤ 2000) : WTurn N w W o w' ⟨L', A.cl, A.ms⟩ := by
  obtain ⟨B', own', lv', hr, hn⟩ := hT
  obtain ⟨_, r2, r3⟩ := h.rest (i := 3) (by omega) hn
  exact h.turn (o' := ⟨o.S, B', own', lv', o.X, o.v, o.P, o.pv⟩) (i := 3) (by omega) hn (fun j hj e => by unfold WOwn.part; rw [if_neg e, if_neg e]) rfl hr (fun n hn => r2 n hn (by omega)) (r3 (by omega)) hs
theorem WRep.turnP (h : WRep N w W o A) {ms' : List APkt} (hT : PTurn 115 N w o.P o.pv w' ms') : WTurn N w W o w' ⟨A.log, A.cl, ms'⟩ := by
  obtain ⟨pv', hr, hk, hn⟩ := hT
  have hn' : Next N w w' (o.part 4) (powns o.P pv') := next_of hk h.size (fun k hk => (h.ge (i := 4) (by omega) k hk).1) hn
  obtain ⟨r1, r2, _⟩ := h.rest (i := 4) (by omega) hn'
  exact h.turn (o' := ⟨o.S, o.B, o.own, o.lv, o.X, o.v, o.P, pv'⟩) (i := 4) (by omega) hn' (fun j hj e => by unfold WOwn.part; rw [if_neg e, if_neg e]) rfl (r1 (by omega)) (fun n hn => r2 n hn (by omega)) hr h.ss
def updV (f : Nat → Value) (n : Nat) (c : Value) : Nat → Value := fun k => if k = n then c else f k
theorem WRep.turnC (h : WRep N w W o A) {n : Nat} (hn : n < 3) {c' : ACli} (hT : KTurn N w (o.X n) (o.v n) w' c') (hc : COk c') : WTurn N w W o w' ⟨A.log, upd A.cl n c', A.ms⟩ := by
  obtain ⟨v', hr, hk, hg⟩ := hT
  have hp := part_client o hn
  have e1 : updV o.v n v' n = v' := by simp [updV]
  have e2 : ∀ m, m ≠ n → updV o.v n v' m = o.v m := fun m hm => by simp [updV, hm]
  have hn' : Next N w w' (o.part n) (powns (o.X n) v') := by rw [hp]; exact next_of hk h.size (fun k hk => (h.ge (i := n) (by omega) k (by rw [hp]; exact hk)).1) hg
  obtain ⟨r1, r2, r3⟩ := h.rest (i := n) (by omega) hn'
  refine h.turn (o' := ⟨o.S, o.B, o.own, o.lv, o.X, updV o.v n v', o.P, o.pv⟩) (i := n) (by omega) ?_ (fun j hj e => ?_) rfl (r1 (by omega)) (fun m hm => ?_) (r3 (by omega)) h.ss
  · rw [part_client (⟨o.S, o.B, o.own, o.lv, o.X, updV o.v n v', o.P, o.pv⟩ : WOwn) hn]
    show Next N w w' (o.part n) (powns (o.X n) (updV o.v n v' n))
    rw [e1]; exact hn'
  · unfold WOwn.part; dsimp only; rw [e2 j e]
  · dsimp only
    by_cases e : m = n
    · subst e; rw [e1, upd_at]; exact ⟨hr, hc⟩
    · rw [e2 m e, upd_off _ _ e]; exact r2 m hm e
/-- The world's cells. -/
theorem WRep.cells (h : WRep N w W o A) : (w.cell? ⟨W, 0, none⟩ = some (.pointer (some ⟨o.S, 0, none⟩)) ∧ w.cell? ⟨W, 1, none⟩ = some (.pointer (some ⟨o.X 0, 0, none⟩)) ∧ w.cell? ⟨W, 2, none⟩ = some (.pointer (some ⟨o.X 1, 0, none⟩)) ∧ w.cell? ⟨W, 3, none⟩ = some (.pointer (some ⟨o.X 2, 0, none⟩)) ∧ w.cell? ⟨W, 4, none⟩ = some (.pointer (some ⟨o.P, 0, none⟩))) ∧ ∀ n, n < 3 → w.cell? ⟨W, 1 + n, none⟩ = some (.pointer (some ⟨o.X n, 0, none⟩)) := by
  have hb := h.blk
  unfold wcells at hb
  have k : ∀ j, w.cell? ⟨W, j, none⟩ = _ := fun j => cell_of_row w W j _ _ _ hb
  refine ⟨⟨k 0, k 1, k 2, k 3, k 4⟩, fun n hn => ?_⟩
  match n, hn with
  | 0, _ => exact k 1
  | 1, _ => exact k 2
  | 2, _ => exact k 3
end

end Go.Proofs.YtmbhbnoifimeaabGreat

namespace Go.Proofs.YtmbhbnoifimeaabGreat
open Go.RowKit
set_option linter.unusedSimpArgs false
set_option linter.unusedVariables false

set_option maxRecDepth 100000 in
set_option maxHeartbeats 2000000 in
theorem Client_some {N : Nat} {w : World} {W : Nat} {o : WOwn} {A : AW} (h : WRep N w W o A) (n : Nat) (hn : n < 3) :
    Calls Tryz.prog 14 #[.pointer (some ⟨W, 0, none⟩), .int .i64 (n : Int)] w fun e w' => e = .returned (.pointer (some ⟨o.X n, 0, none⟩)) ∧ w' = w := by
  have hc := h.cells.2 n hn
  have h0 : ¬ (n : Int) < 0 := by omega
  have h3 : ¬ (3 : Int) ≤ n := by omega
  have h4 : (n : Int) < 3 := by omega
  generalize o.X n = X at hc ⊢
  clear h hn
  go_enter Tryz.func14, Tryz.ntmps14
  go_wp2
  go_ret
  exact ⟨rfl, rfl⟩
set_option maxHeartbeats 2000000 in
theorem Client_none (W : Nat) (w : World) (n : Int) (hn : n < 0 ∨ 2 < n) :
    Calls Tryz.prog 14 #[.pointer (some ⟨W, 0, none⟩), .int .i64 n] w fun e w' => e = .returned (.pointer none) ∧ w' = w := by
  by_cases h0 : n < 0
  · clear hn
    go_enter Tryz.func14, Tryz.ntmps14
    go_wp2
    go_ret
    exact ⟨rfl, rfl⟩
  · have h3 : (3 : Int) ≤ n := by omega
    clear hn
    go_enter Tryz.func14, Tryz.ntmps14
    go_wp2
    go_ret
    exact ⟨rfl, rfl⟩
set_option maxHeartbeats 2000000 in
theorem Packets_any {N : Nat} {w : World} {W : Nat} {o : WOwn} {A : AW} (h : WRep N w W o A) {n : Nat} (hn : A.ms.length = n) :
    Calls Tryz.prog 21 #[.pointer (some ⟨W, 0, none⟩)] w fun e w' => ∃ g cap, e = .returned (.slice (some ⟨g, 0, none⟩) n cap) ∧ w'.ownsRow w.heap.size 92 9 (.slice (some ⟨g, 0, none⟩) n cap) n (A.ms.flatMap pcells) ∧ Below w.heap.size w w' := by
  have HL := hide (List_P h.p hn)
  have hc := h.cells.1.2.2.2.2
  clear h
  go_enter Tryz.func21, Tryz.ntmps21
  go_wp2_with fail
  refine (unhide HL).mono ?_
  rintro e w2 ⟨g, cap, rfl, ho, hb⟩
  have HO := hide ho
  have HB := hide hb
  clear ho hb
  go_wp2
  go_ret
  exact ⟨g, cap, rfl, unhide HO, unhide HB⟩

set_option maxRecDepth 100000 in
set_option maxHeartbeats 4000000 in
theorem have_any {N : Nat} {w : World} {W : Nat} {o : WOwn} {A : AW} (h : WRep N w W o A) (n : Int) (x : ACall) (hx : SmallC x) :
    Calls Tryz.prog 45 #[.pointer (some ⟨W, 0, none⟩), .int .i64 n, .agg #[.int .i64 x.kind, .string x.name, .string x.dst, .string x.text]] w fun e w' => e = .returned (.int .i64 (A.have n x).1) ∧ WTurn N w W o w' (A.have n x).2 := by
  obtain ⟨V, hV⟩ : ∃ V, V = w.alloc (.cells #[.int .i64 x.kind, .string x.name, .string x.dst, .string x.text] 32) := ⟨_, rfl⟩
  have hBV : Below w.heap.size w V := by rw [hV]; exact (Below.refl _ _).alloc (Nat.le_refl _) _
  have hXV : V.heap[w.heap.size]? = some (.cells #[.int .i64 x.kind, .string x.name, .string x.dst, .string x.text] 32 (0, 0)) := by rw [hV]; exact heap_alloc_new _ _
  have hrV := h.below hBV
  have HV := hide hV
  obtain ⟨x0, x1, x2, x3, xf⟩ := fourK hXV
  by_cases hn : n < 0 ∨ 2 < n
  · have e1 : A.have n x = (9, A) := by unfold AW.have; rw [if_pos hn]
    rw [e1]
    have HC := hide (fun w => Client_none W w n hn)
    have HT := hide ((WTurn.of_below hrV (Below.refl _ _)).before hBV h.size)
    clear h e1 hn hV hBV hXV hrV
    go_enter Tryz.func45, Tryz.ntmps45
    go_wp2_with fail
    rw [← unhide HV]
    refine ((unhide HC) _).mono ?_
    rintro e w1 ⟨rfl, hw⟩
    subst hw
    go_wp2
    go_ret
    exact ⟨rfl, unhide HT⟩
  · obtain ⟨m, rfl⟩ : ∃ m : Nat, n = (m : Int) := ⟨n.toNat, by omega⟩
    have hm : m < 3 := by omega
    have e1 : A.have (m : Int) x = ((A.cl m).ask x, ⟨A.log, upd A.cl m ((A.cl m).asked x), A.ms⟩) := by unfold AW.have; rw [if_neg hn, Int.toNat_natCast]
    rw [e1]
    have HC := hide (Client_some hrV m hm)
    have HK := hide (Call_any (hrV.c m hm) x hx)
    have HT := hide (fun w' (hT : KTurn N V (o.X m) (o.v m) w' ((A.cl m).asked x)) => (hrV.turnC hm hT ((h.c m hm).ok.asked hx)).before hBV h.size)
    generalize o.X m = X at HC HK HT
    generalize o.v m = v at HK HT
    generalize (A.cl m).ask x = r at HK ⊢
    clear h e1 hn hm hV hBV hXV hrV
    go_enter Tryz.func45, Tryz.ntmps45
    go_wp2_with fail
    rw [← unhide HV]
    refine (unhide HC).mono ?_
    rintro e w1 ⟨rfl, hw⟩
    subst hw
    go_wp2_with fail
    refine (unhide HK).mono ?_
    rintro e w2 ⟨rfl, hT⟩
    have HT2 := hide ((unhide HT) _ hT)
    clear hT
    go_wp2
    go_ret
    exact ⟨rfl, unhide HT2⟩

set_option maxRecDepth 100000 in
set_option maxHeartbeats 4000000 in
theorem double_any {N : Nat} {w : World} {W : Nat} {o : WOwn} {A : AW} (h : WRep N w W o A) (n : Int) :
    Calls Tryz.prog 47 #[.pointer (some ⟨W, 0, none⟩), .int .i64 n] w fun e w' => e = .returned (.int .i64 (A.dbl n).1) ∧ WTurn N w W o w' (A.dbl n).2 := by
  have hc := h.cells.1.2.2.2.2
  obtain ⟨k, hk⟩ : ∃ k, A.ms.length = k := ⟨_, rfl⟩
  have HL := hide (Len_P h.p hk)
  by_cases h0 : A.ms.length = 0
  · have e1 : A.dbl n = (6, A) := by unfold AW.dbl; rw [if_pos h0]
    rw [e1]
    have HT := hide (fun w' (hb : Below w.heap.size w w') => WTurn.of_below h hb)
    have hk0 : k = 0 := by omega
    subst hk0
    generalize o.P = P at hc HL
    clear h e1 h0 hk
    go_enter Tryz.func47, Tryz.ntmps47
    go_wp2_with fail
    refine (unhide HL).mono ?_
    rintro e w1 ⟨rfl, hw⟩
    subst hw
    go_wp2
    go_ret
    exact ⟨rfl, (unhide HT) _ (Below.refl _ _)⟩
  · have HD := hide (PDbl_any h.p n)
    have HT := hide (fun w' (hT : PTurn 115 N w o.P o.pv w' (aDblL A.ms n)) => h.turnP hT)
    have hb : aDblB A.ms = decide (A.ms.length < 40) := by unfold aDblB; rw [decide_eq_true (by omega), Bool.true_and]
    rw [hb] at HD
    have hk0 : ((k : Int) == 0) = false := by simp; omega
    by_cases hf : A.ms.length < 40
    · have e1 : A.dbl n = (0, ⟨A.log, A.cl, aDblL A.ms n⟩) := by unfold AW.dbl; rw [if_neg h0, if_pos hf]
      rw [e1]
      rw [decide_eq_true hf] at HD
      generalize o.P = P at hc HL HD HT
      generalize o.pv = pv at HD HT
      clear h e1 h0 hk hb hf
      go_enter Tryz.func47, Tryz.ntmps47
      go_wp2_with fail
      refine (unhide HL).mono ?_
      rintro e w1 ⟨rfl, hw⟩
      subst hw
      go_wp2_with fail
      refine (unhide HD).mono ?_
      rintro e w3 ⟨rfl, hT⟩
      have HT3 := hide ((unhide HT) _ hT)
      clear hT
      go_wp2
      go_ret
      exact ⟨rfl, unhide HT3⟩
    · have e1 : A.dbl n = (7, A) := by unfold AW.dbl; rw [if_neg h0, if_neg hf]
      have e2 : aDblL A.ms n = A.ms := by unfold aDblL aSend; rw [if_neg hf]; simp
      rw [e2] at HD HT
      rw [e1]
      rw [decide_eq_false hf] at HD
      generalize o.P = P at hc HL HD HT
      generalize o.pv = pv at HD HT
      clear h e1 h0 hk hb hf e2
      go_enter Tryz.func47, Tryz.ntmps47
      go_wp2_with fail
      refine (unhide HL).mono ?_
      rintro e w1 ⟨rfl, hw⟩
      subst hw
      go_wp2_with fail
      refine (unhide HD).mono ?_
      rintro e w3 ⟨rfl, hT⟩
      have HT3 := hide ((unhide HT) _ hT)
      clear hT
      go_wp2
      go_ret
      exact ⟨rfl, unhide HT3⟩

end Go.Proofs.YtmbhbnoifimeaabGreat

namespace Go.Proofs.YtmbhbnoifimeaabGreat
open Go.RowKit
set_option linter.unusedSimpArgs false
set_option linter.unusedVariables false

def AX.val (x : AX) : Value := .agg #[.int .i64 x.kind, .int .i64 x.n, .int .i64 x.keep, .int .i64 x.call.kind, .string x.call.name, .string x.call.dst, .string x.call.text]
def wxcells (x : AX) : List Value := [.int .i64 x.kind, .int .i64 x.n, .int .i64 x.keep, .int .i64 x.call.kind, .string x.call.name, .string x.call.dst, .string x.call.text]
structure XAt (w : World) (b o : Nat) (x : AX) : Prop where
  x0 : w.cell? ⟨b, o, none⟩ = some (.int .i64 x.kind)
  x1 : w.cell? ⟨b, o + 1, none⟩ = some (.int .i64 x.n)
  x2 : w.cell? ⟨b, o + 2, none⟩ = some (.int .i64 x.keep)
  x3 : w.cell? ⟨b, o + 3, none⟩ = some (.int .i64 x.call.kind)
  x4 : w.cell? ⟨b, o + 4, none⟩ = some (.string x.call.name)
  x5 : w.cell? ⟨b, o + 5, none⟩ = some (.string x.call.dst)
  x6 : w.cell? ⟨b, o + 6, none⟩ = some (.string x.call.text)
theorem XAt.lt {w : World} {b o : Nat} {x : AX} (h : XAt w b o x) : b < w.heap.size := World.block_lt_of_cell? w _ h.x0
theorem XAt.same {w W : World} {b o : Nat} {x : AX} (h : XAt w b o x) (hb : W.heap[b]? = w.heap[b]?) : XAt W b o x := by
  have hc : ∀ j, W.cell? ⟨b, j, none⟩ = w.cell? ⟨b, j, none⟩ := fun j => by simp only [World.cell?, hb]
  exact ⟨(hc _).trans h.x0, (hc _).trans h.x1, (hc _).trans h.x2, (hc _).trans h.x3, (hc _).trans h.x4, (hc _).trans h.x5, (hc _).trans h.x6⟩
/-- Steps one behind the other lie there. -/
def XsAt (w : World) (a : Option Addr) (n : Nat) (xs : List AX) : Prop :=
  xs.length = n ∧ n ≤ maxLen ∧ (∀ x, x ∈ xs → SmallC x.call) ∧ (0 < n → ∃ b off, a = some ⟨b, off, none⟩ ∧ ∀ (j : Nat) (x : AX), xs[j]? = some x → XAt w b (off + j * 7) x)
theorem XsAt.below {w W : World} {a : Option Addr} {n : Nat} {xs : List AX} (h : XsAt w a n xs) (hb : Below w.heap.size w W) : XsAt W a n xs := by
  refine ⟨h.1, h.2.1, h.2.2.1, fun h0 => ?_⟩
  obtain ⟨b, off, rfl, hc⟩ := h.2.2.2 h0
  exact ⟨b, off, rfl, fun j r hr => (hc j r hr).same (hb.block b (hc j r hr).lt)⟩

end Go.Proofs.YtmbhbnoifimeaabGreat

namespace Go.Proofs.YtmbhbnoifimeaabGreat
open Go.RowKit
set_option linter.unusedSimpArgs false
set_option linter.unusedVariables false


theorem PTurn.same {t : TypeId} {N : Nat} {w w' : World} {P : Nat} {v : Value} {ms : List APkt} (h : PTurn t N w P v w' ms) {b : Nat} (hb : b < w.heap.size) (hn : b ∉ powns P v) : w'.heap[b]? = w.heap[b]? := by
  obtain ⟨v', _, hk, _⟩ := h
  exact hk.block b hb hn
theorem STurned.same {N : Nat} {w w' : World} {S : Nat} {own : List Nat} {lv : Value} {L : List ARec} (h : STurned N w S own lv w' L) {b : Nat} (hb : b < w.heap.size) (hn : b ∉ sown S own lv) : w'.heap[b]? = w.heap[b]? := by
  obtain ⟨_, _, _, _, hk⟩ := h
  exact (hk.keep b hb hn).2
theorem SmallP.max {p : APkt} (h : SmallP p) : p.call.name.size ≤ maxLen ∧ p.call.dst.size ≤ maxLen ∧ p.call.text.size ≤ maxLen := ⟨small_max h.1, small_max h.2.1, small_max h.2.2.1⟩
/-- What a call is answered is not long. -/
theorem call_small {L : List ARec} (hg : Good L) (client no : Int) (c : ACall) : (aCall L client no c).text.size ≤ 100 := by
  have hz : (⟨#[]⟩ : ByteArray).size = 0 := rfl
  unfold aCall
  split
  · dsimp only; omega
  split
  · dsimp only; omega
  split
  · exact aDo_small L c
  split
  · split
    · dsimp only; omega
    · exact aDo_small L c
  split
  · dsimp only
    rcases lastR_or L client with ⟨h5, _⟩ | ⟨h5, _⟩
    · rw [h5]; show (⟨#[]⟩ : ByteArray).size ≤ 100; omega
    · have := (enc_small (hg _ h5)).2; omega
  · dsimp only; omega
theorem WRep.not_new {N : Nat} {w : World} {W : Nat} {o : WOwn} {A : AW} (h : WRep N w W o A) {b : Nat} (hb : w.heap.size ≤ b) : b ∉ o.all W := fun hm => by have := (h.all_ge b hm).2; omega
theorem WRep.not_part {N : Nat} {w : World} {W : Nat} {o : WOwn} {A : AW} (h : WRep N w W o A) {b : Nat} (hb : w.heap.size ≤ b) {i : Nat} (hi : i < 5) : b ∉ o.part i := fun hm => by have := (h.ge hi b hm).2; omega

set_option maxRecDepth 100000 in
set_option maxHeartbeats 4000000 in
theorem wsend_any {N : Nat} {w : World} {W : Nat} {o : WOwn} {A : AW} (h : WRep N w W o A) (n : Int) :
    Calls Tryz.prog 46 #[.pointer (some ⟨W, 0, none⟩), .int .i64 n] w fun e w' => e = .returned (.int .i64 (A.send n).1) ∧ WTurn N w W o w' (A.send n).2 := by
  by_cases hn : n < 0 ∨ 2 < n
  · have e1 : A.send n = (9, A) := by unfold AW.send; rw [if_pos hn]
    rw [e1]
    have HC := hide (fun w => Client_none W w n hn)
    have HT := hide (fun w' (hb : Below w.heap.size w w') => WTurn.of_below h hb)
    clear h e1 hn
    go_enter Tryz.func46, Tryz.ntmps46
    go_wp2_with fail
    refine ((unhide HC) _).mono ?_
    rintro e w1 ⟨rfl, hw⟩
    subst hw
    go_wp2
    go_ret
    exact ⟨rfl, (unhide HT) _ (Below.refl _ _)⟩
  · obtain ⟨m, rfl⟩ : ∃ m : Nat, n = (m : Int) := ⟨n.toNat, by omega⟩
    have hm : m < 3 := by omega
    have HC := hide (Client_some h m hm)
    have HS := hide (Send_any (h.c m hm))
    have HPC := hide (fun w' (hb : Below w.heap.size w w') => (h.below hb).cells.1.2.2.2.2)
    cases hop : (A.cl m).op
    · have e1 : A.send (m : Int) = (6, A) := by unfold AW.send; rw [if_neg hn, Int.toNat_natCast, if_pos hop]
      rw [e1]
      have HT := hide (fun w' (hb : Below w.heap.size w w') => WTurn.of_below h hb)
      rw [hop] at HS
      have e2 : (A.cl m).pkt = zeroPkt := by unfold ACli.pkt; rw [hop]; rfl
      rw [e2] at HS
      dsimp only [APkt.val, zeroPkt] at HS
      generalize o.X m = X at HC HS
      clear h e1 e2 hn hm hop HPC
      go_enter Tryz.func46, Tryz.ntmps46
      go_wp2_with fail
      refine (unhide HC).mono ?_
      rintro e w1 ⟨rfl, hw⟩
      subst hw
      go_wp2_with fail
      refine (unhide HS).mono ?_
      rintro e w2 ⟨rfl, hb⟩
      have HB := hide (hb.trans (((Below.refl w2.heap.size w2).alloc (Nat.le_refl _) (.cells #[.bool false, .int .i64 0, .int .i64 0, .int .i64 0, .string ⟨#[]⟩, .string ⟨#[]⟩, .string ⟨#[]⟩, .int .i64 0, .string ⟨#[]⟩] 92)).mono hb.size))
      clear hb
      go_wp2
      go_ret
      exact ⟨rfl, (unhide HT) _ (unhide HB)⟩
    · have e1 : A.send (m : Int) = if A.ms.length < 40 then (0, ⟨A.log, A.cl, aSend A.ms (A.cl m).pkt⟩) else (7, A) := by unfold AW.send; rw [if_neg hn, Int.toNat_natCast, if_neg (by simp [hop])]
      rw [hop] at HS
      have hsm := pkt_small (h.c m hm).ok
      have HP := hide (fun w' (hb : Below w.heap.size w w') => PSend_any (h.p.below hb) (A.cl m).pkt hsm)
      have HT := hide (fun w1 w' (hb : Below w.heap.size w w1) (hT : PTurn 115 N w1 o.P o.pv w' (aSend A.ms (A.cl m).pkt)) => ((h.below hb).turnP hT).before hb h.size)
      have HNW : Hid (∀ V : World, w.heap.size ≤ V.heap.size → W < V.heap.size ∧ W ∉ powns o.P o.pv) := fun V hV => ⟨Nat.lt_of_lt_of_le h.lt hV, h.nW 4 (by omega)⟩
      have HNX : Hid (∀ b, w.heap.size ≤ b → b ∉ powns o.P o.pv) := fun b hb => h.not_part hb (i := 4) (by omega)
      have hse : ¬ A.ms.length < 40 → aSend A.ms (A.cl m).pkt = A.ms := fun h => by unfold aSend; rw [if_neg h]
      generalize (A.cl m).pkt = p at HS HP HT e1 hse hsm
      obtain ⟨pr, pc, pn, ⟨pk, pa, pb, pt⟩, pd, pu⟩ := p
      dsimp only [APkt.val] at HS HP
      generalize o.X m = X at HC HS
      generalize o.P = P at HPC HP HT HNW HNX
      generalize o.pv = pv at HP HT HNW HNX
      by_cases hf : A.ms.length < 40
      · rw [if_pos hf] at e1
        rw [decide_eq_true hf] at HP
        rw [e1]
        clear h e1 hn hm hop hse hsm hf
        go_enter Tryz.func46, Tryz.ntmps46
        go_wp2_with fail
        refine (unhide HC).mono ?_
        rintro e w1 ⟨rfl, hw⟩
        subst hw
        go_wp2_with fail
        refine (unhide HS).mono ?_
        rintro e w2 ⟨rfl, hb⟩
        obtain ⟨V, hV⟩ : ∃ V, V = w2.alloc (.cells #[.bool pr, .int .i64 pc, .int .i64 pn, .int .i64 pk, .string pa, .string pb, .string pt, .int .i64 pd, .string pu] 92) := ⟨_, rfl⟩
        have hBV : Below w2.heap.size w2 V := by rw [hV]; exact (Below.refl _ _).alloc (Nat.le_refl _) _
        have hbV := hb.trans (hBV.mono hb.size)
        have hXV : V.heap[w2.heap.size]? = some (.cells #[.bool pr, .int .i64 pc, .int .i64 pn, .int .i64 pk, .string pa, .string pb, .string pt, .int .i64 pd, .string pu] 92 (0, 0)) := by rw [hV]; exact heap_alloc_new _ _
        have HPV := hide ((unhide HPC) _ hbV)
        have HXV := hide hXV
        have HP2 := hide ((unhide HP) _ (hbV.trans ((below_drew V).mono hbV.size)))
        have HT2 := hide (fun w' hT => (unhide HT) V.drew w' (hbV.trans ((below_drew V).mono hbV.size)) hT)
        have HKW := hide ((unhide HNW) V (hbV.size))
        have HKX := hide ((unhide HNX) w2.heap.size hb.size)
        have HLX : Hid (w2.heap.size < V.heap.size) := (Array.getElem?_eq_some_iff.1 hXV).1
        have HV := hide hV
        clear hV hb hBV hbV hXV
        go_wp2_with fail
        rw [← unhide HV]
        refine wp_region_held_drew (S := (fun wx => wx.heap[W]? = V.heap[W]? ∧ wx.heap[w2.heap.size]? = V.heap[w2.heap.size]?)) (by kernel_rfl) (⟨rfl, rfl⟩) (fun hHeld => ?_)
        refine wpAnyH_take (i := 0) (v := ?_) opn0 (by kernel_rfl) (by kernel_rfl) (by kernel_rfl) (fun _ _ _ h => h) (Or.inl ⟨by kernel_rfl, ?_⟩) (by assumption) ?_
        rotate_left 1
        · intro wz hSw
          try dsimp only at hSw
          go_simp
          all_goals with_reducible rfl
        try simp only [Act.put, List.setIfInBounds_toArray, List.set_cons_zero, List.set_cons_succ]
        refine wpAnyH_take (i := 1) (v := ?_) opn1 (by kernel_rfl) (by kernel_rfl) (by kernel_rfl) (fun _ _ _ h => h) (Or.inl ⟨by kernel_rfl, ?_⟩) (by assumption) ?_
        rotate_left 1
        · intro wz hSw
          try dsimp only at hSw
          go_simp
          all_goals with_reducible rfl
        try simp only [Act.put, List.setIfInBounds_toArray, List.set_cons_zero, List.set_cons_succ]
        refine wpAnyH_take (i := 2) (v := ?_) opn2 (by kernel_rfl) (by kernel_rfl) (by kernel_rfl) (fun _ _ _ h => h) (Or.inl ⟨by kernel_rfl, ?_⟩) (by assumption) ?_
        rotate_left 1
        · intro wz hSw
          try dsimp only at hSw
          go_simp
          all_goals with_reducible rfl
        try simp only [Act.put, List.setIfInBounds_toArray, List.set_cons_zero, List.set_cons_succ]
        refine wpAnyH_take (i := 3) (v := ?_) opn3 (by kernel_rfl) (by kernel_rfl) (by kernel_rfl) (fun _ _ _ h => h) (Or.inl ⟨by kernel_rfl, ?_⟩) (by assumption) ?_
        rotate_left 1
        · intro wz hSw
          try dsimp only at hSw
          have hq : wz.cell? ⟨W, 4, none⟩ = some (.pointer (some ⟨P, 0, none⟩)) := (World.cell?_of_block (w := V) (a := ⟨W, 4, none⟩) hSw.1).trans (unhide HPV)
          go_simp
          all_goals with_reducible rfl
        try simp only [Act.put, List.setIfInBounds_toArray, List.set_cons_zero, List.set_cons_succ]
        refine wpAnyH_take (i := 4) (v := ?_) opn4 (by kernel_rfl) (by kernel_rfl) (by kernel_rfl) (fun _ _ _ h => h) (Or.inl ⟨by kernel_rfl, ?_⟩) (by assumption) ?_
        rotate_left 1
        · intro wz hSw
          try dsimp only at hSw
          obtain ⟨⟨x0, x1, x2, x3⟩, ⟨x4, x5, x6, x7, x8⟩, xf⟩ := nine (hSw.2.trans (unhide HXV))
          go_simp
          all_goals with_reducible rfl
        try simp only [Act.put, List.setIfInBounds_toArray, List.set_cons_zero, List.set_cons_succ]
        refine wpAnyH_ready (rs := [5]) (by kernel_rfl) (by simp) ?_
        refine AllReadyH.cons opn5 (fun K hK => ?_) AllReadyH.nil
        rw [if_pos (by kernel_rfl)]
        go_simp
        refine (unhide HP2).mono ?_
        rintro e w3 ⟨rfl, hT⟩
        have HT3 := hide ((unhide HT2) _ hT)
        have hk1 : w3.heap[W]? = V.heap[W]? := hT.same (unhide HKW).1 (unhide HKW).2
        have hk2 : w3.heap[w2.heap.size]? = V.heap[w2.heap.size]? := hT.same (unhide HLX) (unhide HKX)
        clear hT
        refine hK.out _ _ (⟨hk1, hk2⟩) (fun hHeldN => ?_)
        clear hHeld hK K
        have hHeld := hHeldN
        clear hHeldN
        try simp only [Act.put, List.setIfInBounds_toArray, List.set_cons_zero, List.set_cons_succ]
        clear hk1 hk2
        refine wpAnyH_take (i := 6) (v := ?_) opn6 (by kernel_rfl) (by kernel_rfl) (by kernel_rfl) (fun _ _ _ h => h) (Or.inl ⟨by kernel_rfl, ?_⟩) (by assumption) ?_
        rotate_left 1
        · intro wz hSw
          try dsimp only at hSw
          go_simp
          all_goals with_reducible rfl
        try simp only [Act.put, List.setIfInBounds_toArray, List.set_cons_zero, List.set_cons_succ]
        refine wpAnyH_done (by kernel_rfl) ?_ _
        go_wp2
        go_ret
        exact ⟨rfl, unhide HT3⟩
      · rw [if_neg hf] at e1
        rw [decide_eq_false hf] at HP
        rw [hse hf] at HT HP
        rw [e1]
        clear h e1 hn hm hop hse hsm hf
        go_enter Tryz.func46, Tryz.ntmps46
        go_wp2_with fail
        refine (unhide HC).mono ?_
        rintro e w1 ⟨rfl, hw⟩
        subst hw
        go_wp2_with fail
        refine (unhide HS).mono ?_
        rintro e w2 ⟨rfl, hb⟩
        obtain ⟨V, hV⟩ : ∃ V, V = w2.alloc (.cells #[.bool pr, .int .i64 pc, .int .i64 pn, .int .i64 pk, .string pa, .string pb, .string pt, .int .i64 pd, .string pu] 92) := ⟨_, rfl⟩
        have hBV : Below w2.heap.size w2 V := by rw [hV]; exact (Below.refl _ _).alloc (Nat.le_refl _) _
        have hbV := hb.trans (hBV.mono hb.size)
        have hXV : V.heap[w2.heap.size]? = some (.cells #[.bool pr, .int .i64 pc, .int .i64 pn, .int .i64 pk, .string pa, .string pb, .string pt, .int .i64 pd, .string pu] 92 (0, 0)) := by rw [hV]; exact heap_alloc_new _ _
        have HPV := hide ((unhide HPC) _ hbV)
        have HXV := hide hXV
        have HP2 := hide ((unhide HP) _ (hbV.trans ((below_drew V).mono hbV.size)))
        have HT2 := hide (fun w' hT => (unhide HT) V.drew w' (hbV.trans ((below_drew V).mono hbV.size)) hT)
        have HKW := hide ((unhide HNW) V (hbV.size))
        have HKX := hide ((unhide HNX) w2.heap.size hb.size)
        have HLX : Hid (w2.heap.size < V.heap.size) := (Array.getElem?_eq_some_iff.1 hXV).1
        have HV := hide hV
        clear hV hb hBV hbV hXV
        go_wp2_with fail
        rw [← unhide HV]
        refine wp_region_held_drew (S := (fun wx => wx.heap[W]? = V.heap[W]? ∧ wx.heap[w2.heap.size]? = V.heap[w2.heap.size]?)) (by kernel_rfl) (⟨rfl, rfl⟩) (fun hHeld => ?_)
        refine wpAnyH_take (i := 0) (v := ?_) opn0 (by kernel_rfl) (by kernel_rfl) (by kernel_rfl) (fun _ _ _ h => h) (Or.inl ⟨by kernel_rfl, ?_⟩) (by assumption) ?_
        rotate_left 1
        · intro wz hSw
          try dsimp only at hSw
          go_simp
          all_goals with_reducible rfl
        try simp only [Act.put, List.setIfInBounds_toArray, List.set_cons_zero, List.set_cons_succ]
        refine wpAnyH_take (i := 1) (v := ?_) opn1 (by kernel_rfl) (by kernel_rfl) (by kernel_rfl) (fun _ _ _ h => h) (Or.inl ⟨by kernel_rfl, ?_⟩) (by assumption) ?_
        rotate_left 1
        · intro wz hSw
          try dsimp only at hSw
          go_simp
          all_goals with_reducible rfl
        try simp only [Act.put, List.setIfInBounds_toArray, List.set_cons_zero, List.set_cons_succ]
        refine wpAnyH_take (i := 2) (v := ?_) opn2 (by kernel_rfl) (by kernel_rfl) (by kernel_rfl) (fun _ _ _ h => h) (Or.inl ⟨by kernel_rfl, ?_⟩) (by assumption) ?_
        rotate_left 1
        · intro wz hSw
          try dsimp only at hSw
          go_simp
          all_goals with_reducible rfl
        try simp only [Act.put, List.setIfInBounds_toArray, List.set_cons_zero, List.set_cons_succ]
        refine wpAnyH_take (i := 3) (v := ?_) opn3 (by kernel_rfl) (by kernel_rfl) (by kernel_rfl) (fun _ _ _ h => h) (Or.inl ⟨by kernel_rfl, ?_⟩) (by assumption) ?_
        rotate_left 1
        · intro wz hSw
          try dsimp only at hSw
          have hq : wz.cell? ⟨W, 4, none⟩ = some (.pointer (some ⟨P, 0, none⟩)) := (World.cell?_of_block (w := V) (a := ⟨W, 4, none⟩) hSw.1).trans (unhide HPV)
          go_simp
          all_goals with_reducible rfl
        try simp only [Act.put, List.setIfInBounds_toArray, List.set_cons_zero, List.set_cons_succ]
        refine wpAnyH_take (i := 4) (v := ?_) opn4 (by kernel_rfl) (by kernel_rfl) (by kernel_rfl) (fun _ _ _ h => h) (Or.inl ⟨by kernel_rfl, ?_⟩) (by assumption) ?_
        rotate_left 1
        · intro wz hSw
          try dsimp only at hSw
          obtain ⟨⟨x0, x1, x2, x3⟩, ⟨x4, x5, x6, x7, x8⟩, xf⟩ := nine (hSw.2.trans (unhide HXV))
          go_simp
          all_goals with_reducible rfl
        try simp only [Act.put, List.setIfInBounds_toArray, List.set_cons_zero, List.set_cons_succ]
        refine wpAnyH_ready (rs := [5]) (by kernel_rfl) (by simp) ?_
        refine AllReadyH.cons opn5 (fun K hK => ?_) AllReadyH.nil
        rw [if_pos (by kernel_rfl)]
        go_simp
        refine (unhide HP2).mono ?_
        rintro e w3 ⟨rfl, hT⟩
        have HT3 := hide ((unhide HT2) _ hT)
        have hk1 : w3.heap[W]? = V.heap[W]? := hT.same (unhide HKW).1 (unhide HKW).2
        have hk2 : w3.heap[w2.heap.size]? = V.heap[w2.heap.size]? := hT.same (unhide HLX) (unhide HKX)
        clear hT
        refine hK.out _ _ (⟨hk1, hk2⟩) (fun hHeldN => ?_)
        clear hHeld hK K
        have hHeld := hHeldN
        clear hHeldN
        try simp only [Act.put, List.setIfInBounds_toArray, List.set_cons_zero, List.set_cons_succ]
        clear hk1 hk2
        refine wpAnyH_take (i := 6) (v := ?_) opn6 (by kernel_rfl) (by kernel_rfl) (by kernel_rfl) (fun _ _ _ h => h) (Or.inl ⟨by kernel_rfl, ?_⟩) (by assumption) ?_
        rotate_left 1
        · intro wz hSw
          try dsimp only at hSw
          go_simp
          all_goals with_reducible rfl
        try simp only [Act.put, List.setIfInBounds_toArray, List.set_cons_zero, List.set_cons_succ]
        refine wpAnyH_done (by kernel_rfl) ?_ _
        go_wp2
        go_ret
        exact ⟨rfl, unhide HT3⟩

set_option maxRecDepth 100000 in
set_option maxHeartbeats 4000000 in
theorem whear_any {N : Nat} {w : World} {W : Nat} {o : WOwn} {A : AW} (h : WRep N w W o A) (p : APkt) (hs : SmallP p) :
    Calls Tryz.prog 98 #[.pointer (some ⟨W, 0, none⟩), p.val] w fun e w' => e = .returned (.tuple #[]) ∧ WTurn N w W o w' (A.hear p) := by
  obtain ⟨V, hV⟩ : ∃ V, V = w.alloc (.cells #[.bool p.reply, .int .i64 p.client, .int .i64 p.no, .int .i64 p.call.kind, .string p.call.name, .string p.call.dst, .string p.call.text, .int .i64 p.code, .string p.ans] 92) := ⟨_, rfl⟩
  have hBV : Below w.heap.size w V := by rw [hV]; exact (Below.refl _ _).alloc (Nat.le_refl _) _
  have hXV : V.heap[w.heap.size]? = some (.cells #[.bool p.reply, .int .i64 p.client, .int .i64 p.no, .int .i64 p.call.kind, .string p.call.name, .string p.call.dst, .string p.call.text, .int .i64 p.code, .string p.ans] 92 (0, 0)) := by rw [hV]; exact heap_alloc_new _ _
  have hlV : w.heap.size < V.heap.size := (Array.getElem?_eq_some_iff.1 hXV).1
  have hrV := h.below hBV
  have HBV := hide hBV
  have HXV := hide hXV
  have HV := hide hV
  by_cases hn : p.client < 0 ∨ 2 < p.client
  · have e1 : A.hear p = A := by unfold AW.hear; rw [if_pos hn]
    rw [e1]
    have HC := hide (fun w => Client_none W w p.client hn)
    have HT := hide (fun w' (hb : Below V.heap.size V w') => (WTurn.of_below hrV hb).before hBV h.size)
    obtain ⟨⟨x0, x1, x2, x3⟩, ⟨x4, x5, x6, x7, x8⟩, xf⟩ := nine hXV
    clear h e1 hn hV hBV hXV hrV hs
    obtain ⟨pr, pc, pn, ⟨pk, pa, pb, pt⟩, pd, pu⟩ := p
    dsimp only [APkt.val] at *
    go_enter Tryz.func98, Tryz.ntmps98
    go_wp2_with fail
    rw [← unhide HV]
    refine ((unhide HC) _).mono ?_
    rintro e w1 ⟨rfl, hw⟩
    subst hw
    go_wp2
    refine bodyPost_end (v := .tuple #[]) (by simp [results, Tryz.results98, go_sem]) rfl ?_
    exact ⟨rfl, (unhide HT) _ (Below.refl _ _)⟩
  · obtain ⟨m, hm⟩ : ∃ m : Nat, p.client = (m : Int) := ⟨p.client.toNat, by omega⟩
    have hm3 : m < 3 := by omega
    have e1 : A.hear p = ⟨A.log, upd A.cl m ((A.cl m).heard p), A.ms⟩ := by unfold AW.hear; rw [if_neg hn, hm, Int.toNat_natCast]
    rw [e1]
    have HC := hide (Client_some hrV m hm3)
    have HK := hide (Hear_any (hrV.c m hm3) p hs)
    have HT := hide (fun w' (hT : KTurn N V (o.X m) (o.v m) w' ((A.cl m).heard p)) => (hrV.turnC hm3 hT ((h.c m hm3).ok.heard hs)).before hBV h.size)
    generalize o.X m = X at HC HK HT
    generalize o.v m = v at HK HT
    generalize (A.cl m).hears p = r at HK
    generalize (A.cl m).heard p = c' at HK HT ⊢
    obtain ⟨⟨x0, x1, x2, x3⟩, ⟨x4, x5, x6, x7, x8⟩, xf⟩ := nine hXV
    clear h e1 hn hm3 hs hV hBV hXV hrV
    obtain ⟨pr, pc, pn, ⟨pk, pa, pb, pt⟩, pd, pu⟩ := p
    dsimp only at hm
    subst hm
    dsimp only [APkt.val] at *
    go_enter Tryz.func98, Tryz.ntmps98
    go_wp2_with fail
    rw [← unhide HV]
    refine (unhide HC).mono ?_
    rintro e w1 ⟨rfl, hw⟩
    subst hw
    go_wp2_with fail
    refine (unhide HK).mono ?_
    rintro e w2 ⟨rfl, hT⟩
    have HT2 := hide ((unhide HT) _ hT)
    clear hT
    go_wp2
    refine bodyPost_end (v := .tuple #[]) (by simp [results, Tryz.results98, go_sem]) rfl ?_
    exact ⟨rfl, unhide HT2⟩

set_option maxRecDepth 100000 in
set_option maxHeartbeats 4000000 in
theorem wtear_any {N : Nat} {w : World} {W : Nat} {o : WOwn} {A : AW} (h : WRep N w W o A) (p : APkt) (hs : SmallP p) (keep : Int) :
    Calls Tryz.prog 74 #[.pointer (some ⟨W, 0, none⟩), p.val, .int .i64 keep] w fun e w' => e = .returned (.int .i64 (A.tear p keep).1) ∧ WTurn N w W o w' (A.tear p keep).2 := by
  obtain ⟨V, hV⟩ : ∃ V, V = w.alloc (.cells #[.bool p.reply, .int .i64 p.client, .int .i64 p.no, .int .i64 p.call.kind, .string p.call.name, .string p.call.dst, .string p.call.text, .int .i64 p.code, .string p.ans] 92) := ⟨_, rfl⟩
  have hBV : Below w.heap.size w V := by rw [hV]; exact (Below.refl _ _).alloc (Nat.le_refl _) _
  have hXV : V.heap[w.heap.size]? = some (.cells #[.bool p.reply, .int .i64 p.client, .int .i64 p.no, .int .i64 p.call.kind, .string p.call.name, .string p.call.dst, .string p.call.text, .int .i64 p.code, .string p.ans] 92 (0, 0)) := by rw [hV]; exact heap_alloc_new _ _
  have hlV : w.heap.size < V.heap.size := (Array.getElem?_eq_some_iff.1 hXV).1
  have hrV := h.below hBV
  have HBV := hide hBV
  have HXV := hide hXV
  have HV := hide hV
  have HSC := hide hrV.cells.1.1
  cases hr : p.reply
  · have e1 : A.tear p keep = ((aTear A.log p.client p.no p.call keep).1, ⟨(aTear A.log p.client p.no p.call keep).2, A.cl, A.ms⟩) := by unfold AW.tear; rw [hr]; rfl
    rw [e1]
    have hrD := hrV.below (below_drew V)
    have HTR := hide (STear_any hrD.s p.client p.no keep p.call h.ss hrD.size hs.max.1 hs.max.2.1 hs.max.2.2)
    have HT := hide (fun w' (hT : STurned N V.drew o.S o.own o.lv w' (aTear A.log p.client p.no p.call keep).2) => (hrD.turnS hT (aTear_short h.s.good h.ss _ _ _ _)).before (hBV.trans ((below_drew V).mono hBV.size)) h.size)
    have HKW : Hid (W < V.heap.size ∧ W ∉ sown o.S o.own o.lv) := ⟨hrV.lt, h.nW 3 (by omega)⟩
    have HKX : Hid (w.heap.size < V.heap.size ∧ w.heap.size ∉ sown o.S o.own o.lv) := ⟨hlV, h.not_part (Nat.le_refl _) (i := 3) (by omega)⟩
    generalize aTear A.log p.client p.no p.call keep = R at HTR HT
    obtain ⟨r1, r2⟩ := R
    dsimp only at HTR HT ⊢
    generalize o.S = S at HTR HT HSC HKW HKX
    generalize o.own = own at HTR HT HKW HKX
    generalize o.lv = lv at HTR HT HKW HKX
    have hx := nine hXV
    clear h e1 hV hBV hXV hrV hrD hs
    obtain ⟨pr, pc, pn, ⟨pk, pa, pb, pt⟩, pd, pu⟩ := p
    dsimp only [APkt.val] at *
    subst hr
    obtain ⟨⟨x0, x1, x2, x3⟩, ⟨x4, x5, x6, x7, x8⟩, xf⟩ := hx
    go_enter Tryz.func74, Tryz.ntmps74
    go_wp2_with fail
    rw [← unhide HV]
    clear x0 x1 x2 x3 x4 x5 x6 x7 x8 xf
    refine wp_region_held_drew (S := (fun wx => wx.heap[W]? = V.heap[W]? ∧ wx.heap[w.heap.size]? = V.heap[w.heap.size]?)) (by kernel_rfl) (⟨rfl, rfl⟩) (fun hHeld => ?_)
    refine wpAnyH_take (i := 0) (v := ?_) opn0 (by kernel_rfl) (by kernel_rfl) (by kernel_rfl) (fun _ _ _ h => h) (Or.inl ⟨by kernel_rfl, ?_⟩) (by assumption) ?_
    rotate_left 1
    · intro wz hSw
      try dsimp only at hSw
      go_simp
      all_goals with_reducible rfl
    try simp only [Act.put, List.setIfInBounds_toArray, List.set_cons_zero, List.set_cons_succ]
    refine wpAnyH_take (i := 1) (v := ?_) opn1 (by kernel_rfl) (by kernel_rfl) (by kernel_rfl) (fun _ _ _ h => h) (Or.inl ⟨by kernel_rfl, ?_⟩) (by assumption) ?_
    rotate_left 1
    · intro wz hSw
      try dsimp only at hSw
      go_simp
      all_goals with_reducible rfl
    try simp only [Act.put, List.setIfInBounds_toArray, List.set_cons_zero, List.set_cons_succ]
    refine wpAnyH_take (i := 2) (v := ?_) opn2 (by kernel_rfl) (by kernel_rfl) (by kernel_rfl) (fun _ _ _ h => h) (Or.inl ⟨by kernel_rfl, ?_⟩) (by assumption) ?_
    rotate_left 1
    · intro wz hSw
      try dsimp only at hSw
      go_simp
      all_goals with_reducible rfl
    try simp only [Act.put, List.setIfInBounds_toArray, List.set_cons_zero, List.set_cons_succ]
    refine wpAnyH_take (i := 3) (v := ?_) opn3 (by kernel_rfl) (by kernel_rfl) (by kernel_rfl) (fun _ _ _ h => h) (Or.inl ⟨by kernel_rfl, ?_⟩) (by assumption) ?_
    rotate_left 1
    · intro wz hSw
      try dsimp only at hSw
      have hq : wz.cell? ⟨W, 0, none⟩ = some (.pointer (some ⟨S, 0, none⟩)) := (World.cell?_of_block (w := V) (a := ⟨W, 0, none⟩) hSw.1).trans (unhide HSC)
      go_simp
      all_goals with_reducible rfl
    try simp only [Act.put, List.setIfInBounds_toArray, List.set_cons_zero, List.set_cons_succ]
    refine wpAnyH_take (i := 4) (v := ?_) opn4 (by kernel_rfl) (by kernel_rfl) (by kernel_rfl) (fun _ _ _ h => h) (Or.inl ⟨by kernel_rfl, ?_⟩) (by assumption) ?_
    rotate_left 1
    · intro wz hSw
      try dsimp only at hSw
      go_simp
      all_goals with_reducible rfl
    try simp only [Act.put, List.setIfInBounds_toArray, List.set_cons_zero, List.set_cons_succ]
    refine wpAnyH_take (i := 5) (v := ?_) opn5 (by kernel_rfl) (by kernel_rfl) (by kernel_rfl) (fun _ _ _ h => h) (Or.inl ⟨by kernel_rfl, ?_⟩) (by assumption) ?_
    rotate_left 1
    · intro wz hSw
      try dsimp only at hSw
      obtain ⟨⟨x0, x1, x2, x3⟩, ⟨x4, x5, x6, x7, x8⟩, xf⟩ := nine (hSw.2.trans (unhide HXV))
      go_simp
      all_goals with_reducible rfl
    try simp only [Act.put, List.setIfInBounds_toArray, List.set_cons_zero, List.set_cons_succ]
    refine wpAnyH_take (i := 6) (v := ?_) opn6 (by kernel_rfl) (by kernel_rfl) (by kernel_rfl) (fun _ _ _ h => h) (Or.inl ⟨by kernel_rfl, ?_⟩) (by assumption) ?_
    rotate_left 1
    · intro wz hSw
      try dsimp only at hSw
      go_simp
      all_goals with_reducible rfl
    try simp only [Act.put, List.setIfInBounds_toArray, List.set_cons_zero, List.set_cons_succ]
    refine wpAnyH_take (i := 7) (v := ?_) opn7 (by kernel_rfl) (by kernel_rfl) (by kernel_rfl) (fun _ _ _ h => h) (Or.inl ⟨by kernel_rfl, ?_⟩) (by assumption) ?_
    rotate_left 1
    · intro wz hSw
      try dsimp only at hSw
      obtain ⟨⟨x0, x1, x2, x3⟩, ⟨x4, x5, x6, x7, x8⟩, xf⟩ := nine (hSw.2.trans (unhide HXV))
      go_simp
      all_goals with_reducible rfl
    try simp only [Act.put, List.setIfInBounds_toArray, List.set_cons_zero, List.set_cons_succ]
    refine wpAnyH_take (i := 8) (v := ?_) opn8 (by kernel_rfl) (by kernel_rfl) (by kernel_rfl) (fun _ _ _ h => h) (Or.inl ⟨by kernel_rfl, ?_⟩) (by assumption) ?_
    rotate_left 1
    · intro wz hSw
      try dsimp only at hSw
      go_simp
      all_goals with_reducible rfl
    try simp only [Act.put, List.setIfInBounds_toArray, List.set_cons_zero, List.set_cons_succ]
    refine wpAnyH_take (i := 9) (v := ?_) opn9 (by kernel_rfl) (by kernel_rfl) (by kernel_rfl) (fun _ _ _ h => h) (Or.inl ⟨by kernel_rfl, ?_⟩) (by assumption) ?_
    rotate_left 1
    · intro wz hSw
      try dsimp only at hSw
      obtain ⟨⟨x0, x1, x2, x3⟩, ⟨x4, x5, x6, x7, x8⟩, xf⟩ := nine (hSw.2.trans (unhide HXV))
      go_simp
      all_goals with_reducible rfl
    try simp only [Act.put, List.setIfInBounds_toArray, List.set_cons_zero, List.set_cons_succ]
    refine wpAnyH_take (i := 10) (v := ?_) opn10 (by kernel_rfl) (by kernel_rfl) (by kernel_rfl) (fun _ _ _ h => h) (Or.inl ⟨by kernel_rfl, ?_⟩) (by assumption) ?_
    rotate_left 1
    · intro wz hSw
      try dsimp only at hSw
      go_simp
      all_goals with_reducible rfl
    try simp only [Act.put, List.setIfInBounds_toArray, List.set_cons_zero, List.set_cons_succ]
    refine wpAnyH_ready (rs := [11]) (by kernel_rfl) (by simp) ?_
    refine AllReadyH.cons opn11 (fun K hK => ?_) AllReadyH.nil
    rw [if_pos (by kernel_rfl)]
    go_simp
    refine (unhide HTR).mono ?_
    rintro e w1 ⟨rfl, hT⟩
    have HT3 := hide ((unhide HT) _ hT)
    have hk1 : w1.heap[W]? = V.heap[W]? := hT.same (unhide HKW).1 (unhide HKW).2
    have hk2 : w1.heap[w.heap.size]? = V.heap[w.heap.size]? := hT.same (unhide HKX).1 (unhide HKX).2
    clear hT
    refine hK.out _ _ (⟨hk1, hk2⟩) (fun hHeldN => ?_)
    clear hHeld hK K
    have hHeld := hHeldN
    clear hHeldN
    try simp only [Act.put, List.setIfInBounds_toArray, List.set_cons_zero, List.set_cons_succ]
    clear hk1 hk2
    refine wpAnyH_take (i := 12) (v := ?_) opn12 (by kernel_rfl) (by kernel_rfl) (by kernel_rfl) (fun _ _ _ h => h) (Or.inl ⟨by kernel_rfl, ?_⟩) (by assumption) ?_
    rotate_left 1
    · intro wz hSw
      try dsimp only at hSw
      go_simp
      all_goals with_reducible rfl
    try simp only [Act.put, List.setIfInBounds_toArray, List.set_cons_zero, List.set_cons_succ]
    refine wpAnyH_done (by kernel_rfl) ?_ _
    go_wp2
    go_ret
    exact ⟨rfl, unhide HT3⟩
  · have e1 : A.tear p keep = (0, A) := by unfold AW.tear; rw [hr]; rfl
    rw [e1]
    have HCR := hide (Crash_any hrV.s (by have := h.ss; omega) hrV.size)
    have HT := hide (fun w' (hT : STurned N V o.S o.own o.lv w' A.log) => (hrV.turnS hT h.ss).before hBV h.size)
    have hWl := h.lt
    have hWn : W ≠ w.heap.size := by omega
    have hsc := h.cells.1.1
    generalize o.S = S at HCR HT hsc
    generalize o.own = own at HCR HT
    generalize o.lv = lv at HCR HT
    have hx := nine hXV
    clear HSC
    clear h e1 hV hBV hXV hrV hs
    obtain ⟨pr, pc, pn, ⟨pk, pa, pb, pt⟩, pd, pu⟩ := p
    dsimp only [APkt.val] at *
    subst hr
    obtain ⟨⟨x0, x1, x2, x3⟩, ⟨x4, x5, x6, x7, x8⟩, xf⟩ := hx
    go_enter Tryz.func74, Tryz.ntmps74
    go_wp2_with fail
    rw [← unhide HV]
    refine (unhide HCR).mono ?_
    rintro e w1 ⟨rfl, hT⟩
    have HT3 := hide ((unhide HT) _ hT)
    clear hT
    go_wp2
    go_ret
    exact ⟨rfl, unhide HT3⟩

end Go.Proofs.YtmbhbnoifimeaabGreat
