/- Texts joined, what is needed of them: Vc Kb Kc Kd Ke Kf Ki Kj Vd VHSc VHSd VHSf VHSg VHSe. -/
import Derived.Test.YtmbhbnoifimeaabGreatQD5
namespace Go.Proofs.YtmbhbnoifimeaabGreat
open Go.RowKit
set_option linter.unusedSimpArgs false
set_option linter.unusedVariables false
def Grown (L L' : List ARec) : Prop := L' = L ∨ ∃ r, L' = L ++ [r]
theorem call_grown (L : List ARec) (client no : Int) (c : ACall) : Grown L (aCall L client no c).log := by
  rcases aCall_log L client no c with h | ⟨_, _, r, h, _⟩
  · exact .inl h
  · exact .inr ⟨r, h⟩
theorem tear_grown (L : List ARec) (client no keep : Int) (c : ACall) : Grown L (aTear L client no c keep).2 := by
  rcases aTear_log L client no c keep with h | h
  · exact .inl h
  · rw [h]; exact call_grown L client no c
theorem come_grown (A : AW) (p : APkt) : Grown A.log (A.come p).log := by
  unfold AW.come
  split
  · unfold AW.hear; split <;> exact .inl rfl
  · exact call_grown _ _ _ _
theorem send_grown (A : AW) (n : Int) : Grown A.log (A.send n).2.log := .inl (send_two A n).2.1
theorem step_grown (A : AW) (x : AX) : Grown A.log (A.step x).2.log := by
  unfold AW.step
  split
  · unfold AW.have; split <;> exact .inl rfl
  split
  · exact send_grown A _
  split
  · unfold AW.dbl; repeat' split
    all_goals exact .inl rfl
  split
  · unfold AW.take
    split
    · exact .inl rfl
    split
    · exact come_grown (A.took x.n) _
    split
    · unfold AW.tear
      split
      · exact .inl rfl
      · exact tear_grown _ _ _ _ _
    · exact .inl rfl
  split <;> exact .inl rfl
theorem Grown.len {L L' : List ARec} (h : Grown L L') : L.length ≤ L'.length ∧ L'.length ≤ L.length + 1 := by
  rcases h with rfl | ⟨r, rfl⟩
  · omega
  · simp
def ReadOk (L : List ARec) (f : Nat) (c : ACall) (d : Int) (u : ByteArray) : Prop := ∃ k, f ≤ k ∧ k ≤ L.length ∧ (aDo (behind (L.take k)) c).code = d ∧ (aDo (behind (L.take k)) c).text = u
def RdOk (A : AW) (fr : Nat → Nat) (p : APkt) : Prop :=
  p.reply = true → changesB p.call.kind = false → (A.cl p.client.toNat).op = true → p.no = (A.cl p.client.toNat).no → ReadOk A.log (fr p.client.toNat) p.call p.code p.ans
structure SInv (A : AW) (fr : Nat → Nat) : Prop where
  le : ∀ n, n < 3 → fr n ≤ A.log.length
  rd : ∀ p, p ∈ A.ms → RdOk A fr p
def updN (f : Nat → Nat) (n : Nat) (v : Nat) : Nat → Nat := fun k => if k = n then v else f k
theorem updN_at (f : Nat → Nat) (n v : Nat) : updN f n v n = v := by simp [updN]
theorem updN_off (f : Nat → Nat) {n k : Nat} (v : Nat) (h : k ≠ n) : updN f n v k = f k := by simp [updN, h]
def frB (fr : Nat → Nat) (x : AX) (e : Int) (len : Nat) : Nat → Nat := if x.kind = 1 ∧ e = 0 ∧ 0 ≤ x.n ∧ x.n ≤ 2 then updN fr x.n.toNat len else fr
def Adds (A A' : AW) (fr : Nat → Nat) : Prop := ∀ n, n < 3 → (A'.cl n).done = (A.cl n).done ∨ ∃ r, (A'.cl n).done = (A.cl n).done ++ [r] ∧ (changesB r.call.kind = false → ReadOk A'.log (fr n) r.call r.code r.ans)
theorem Adds.same {A A' : AW} {fr : Nat → Nat} (h : A'.cl = A.cl) : Adds A A' fr := fun n _ => .inl (by rw [h])
theorem SInv.have {A : AW} {fr : Nat → Nat} (hw : WInv A) (h : SInv A fr) (x : AX) (hx : x.kind = 1) : SInv (A.have x.n x.call).2 (frB fr x (A.have x.n x.call).1 (A.have x.n x.call).2.log.length) ∧ Adds A (A.have x.n x.call).2 (frB fr x (A.have x.n x.call).1 (A.have x.n x.call).2.log.length) := by
  unfold AW.have
  by_cases hn : x.n < 0 ∨ 2 < x.n
  · rw [if_pos hn]
    have e : frB fr x 9 A.log.length = fr := by unfold frB; rw [if_neg (by omega)]
    dsimp only
    rw [e]
    exact ⟨h, Adds.same rfl⟩
  rw [if_neg hn]
  dsimp only
  have h3 : x.n.toNat < 3 := by omega
  by_cases h0 : (A.cl x.n.toNat).ask x.call = 0
  · have e : frB fr x ((A.cl x.n.toNat).ask x.call) A.log.length = updN fr x.n.toNat A.log.length := by unfold frB; rw [if_pos ⟨hx, h0, by omega, by omega⟩]
    rw [e]
    obtain ⟨a1, a2⟩ := asked_some h0
    refine ⟨⟨fun n hn' => ?_, fun p hp h1 h2 h4 h5 => ?_⟩, fun n hn' => .inl ?_⟩
    · by_cases e2 : n = x.n.toNat
      · subst e2; rw [updN_at]; exact Nat.le_refl _
      · rw [updN_off _ _ e2]; exact h.le n hn'
    · have hpk := hw.pk p hp
      dsimp only at h4 h5 ⊢
      by_cases e2 : p.client.toNat = x.n.toNat
      · exfalso
        have hlen := (List.getElem?_eq_some_iff.1 hpk.is).1
        rw [e2] at h5 hlen
        rw [upd_at, a1] at h5
        rw [calls_len, if_neg (by rw [(ask_zero h0).2.1]; simp)] at hlen
        unfold ACli.no at h5
        dsimp only at h5
        omega
      · rw [upd_off _ _ e2] at h4 h5
        rw [updN_off _ _ e2]
        exact h.rd p hp h1 h2 h4 h5
    · dsimp only
      by_cases e2 : n = x.n.toNat
      · subst e2; rw [upd_at, asked_done]
      · rw [upd_off _ _ e2]
  · have e : frB fr x ((A.cl x.n.toNat).ask x.call) A.log.length = fr := by unfold frB; rw [if_neg (fun hh => h0 hh.2.1)]
    rw [e, asked_none h0]
    have e3 : upd A.cl x.n.toNat (A.cl x.n.toNat) = A.cl := by
      funext n
      by_cases e2 : n = x.n.toNat
      · subst e2; rw [upd_at]
      · rw [upd_off _ _ e2]
    rw [e3]
    exact ⟨h, Adds.same rfl⟩
def tot (A : AW) : Nat := (A.cl 0).calls.length + (A.cl 1).calls.length + (A.cl 2).calls.length + ((A.cl 0).done.length + (A.cl 1).done.length + (A.cl 2).done.length) + A.log.length
theorem tot_same {A B : AW} (hc : B.cl = A.cl) (hl : Grown A.log B.log) : tot B ≤ tot A + 1 := by
  have := hl.len
  unfold tot; rw [hc]; omega
theorem tot_upd {A : AW} {n : Nat} (hn : n < 3) {c : ACli} (h : c.calls.length + c.done.length ≤ (A.cl n).calls.length + (A.cl n).done.length + 1) (ms : List APkt) : tot ⟨A.log, upd A.cl n c, ms⟩ ≤ tot A + 1 := by
  unfold tot
  dsimp only
  match n, hn with
  | 0, _ => rw [upd_at, upd_off _ _ (by omega), upd_off _ _ (by omega)]; omega
  | 1, _ => rw [upd_at, upd_off _ _ (by omega), upd_off _ _ (by omega)]; omega
  | 2, _ => rw [upd_at, upd_off _ _ (by omega), upd_off _ _ (by omega)]; omega
theorem step_tot (A : AW) (x : AX) : tot (A.step x).2 ≤ tot A + 1 := by
  have hg := step_grown A x
  unfold AW.step at hg ⊢
  split
  · unfold AW.have
    split
    · exact tot_same rfl (.inl rfl)
    · rename_i hn
      refine tot_upd (by omega) ?_ _
      rw [asked_done]
      by_cases h0 : (A.cl x.n.toNat).ask x.call = 0
      · rw [(asked_some h0).2]; simp; omega
      · rw [asked_none h0]; omega
  split
  · exact tot_same (send_two A _).1 (send_grown A _)
  split
  · unfold AW.dbl; repeat' split
    all_goals exact tot_same rfl (.inl rfl)
  split
  · unfold AW.take
    split
    · exact tot_same rfl (.inl rfl)
    split
    · unfold AW.come
      split
      · unfold AW.hear
        split
        · exact tot_same rfl (.inl rfl)
        · rename_i hn
          refine tot_upd (A := A) (by omega) ?_ _
          show ((A.cl _).heard _).calls.length + ((A.cl _).heard _).done.length ≤ _
          rw [heard_calls]
          unfold ACli.heard
          split
          · simp; omega
          · omega
      · exact tot_same rfl (call_grown _ _ _ _)
    split
    · unfold AW.tear
      split
      · exact tot_same rfl (.inl rfl)
      · exact tot_same rfl (tear_grown _ _ _ _ _)
    · exact tot_same rfl (.inl rfl)
  split <;> exact tot_same rfl (.inl rfl)
theorem rise_few (L : List ARec) : ∀ (m : Nat → Nat), Rise L → (∀ r, r ∈ L → 0 ≤ r.client ∧ r.client ≤ 2 ∧ 1 ≤ r.no ∧ r.no ≤ (m r.client.toNat : Int)) → L.length ≤ m 0 + m 1 + m 2 := by
  induction L using snoc_ind with
  | h0 => intro m _ _; exact Nat.zero_le _
  | h1 K q ih =>
    intro m h hm
    have hK : Rise K := fun i j a b hij ha hb hc => h i j a b hij (by rw [List.getElem?_append_left (List.getElem?_eq_some_iff.1 ha).1]; exact ha) (by rw [List.getElem?_append_left (List.getElem?_eq_some_iff.1 hb).1]; exact hb) hc
    obtain ⟨q1, q2, q3, q4⟩ := hm q (by simp)
    have hI := ih (updN m q.client.toNat (m q.client.toNat - 1)) hK fun r hr => by
      obtain ⟨r1, r2, r3, r4⟩ := hm r (List.mem_append_left _ hr)
      refine ⟨r1, r2, r3, ?_⟩
      by_cases e : r.client.toNat = q.client.toNat
      · rw [e, updN_at]
        obtain ⟨i, hi⟩ := List.mem_iff_getElem?.1 hr
        have hil := (List.getElem?_eq_some_iff.1 hi).1
        have := h i K.length r q hil (by rw [List.getElem?_append_left hil]; exact hi) (by simp) (by omega)
        omega
      · rw [updN_off _ _ e]; exact r4
    rw [List.length_append, List.length_singleton]
    have h3 : q.client.toNat < 3 := by omega
    generalize q.client.toNat = c at hI h3 q4
    match c, h3 with
    | 0, _ => rw [updN_at, updN_off _ _ (by omega), updN_off _ _ (by omega)] at hI; omega
    | 1, _ => rw [updN_at, updN_off _ _ (by omega), updN_off _ _ (by omega)] at hI; omega
    | 2, _ => rw [updN_at, updN_off _ _ (by omega), updN_off _ _ (by omega)] at hI; omega
theorem bytes_few (L : List ARec) (h : Good L) : (logB L).length ≤ 21 * L.length := by
  induction L using snoc_ind with
  | h0 => exact Nat.zero_le _
  | h1 K q ih =>
    have := ih fun r hr => h r (List.mem_append_left _ hr)
    have := (enc_small (h q (by simp))).1
    rw [logB_snoc, List.length_append, List.length_append, List.length_singleton]
    omega
theorem room_250 {A : AW} (h : WInv A) (ht : tot A ≤ 250) : (logB A.log).length + 84 ≤ 2000 := by
  have h1 := bytes_few A.log h.good
  have h2 := rise_few A.log (fun n => (A.cl n).calls.length) h.up fun r hr => by
    have k := h.lg r hr
    have hlen := (List.getElem?_eq_some_iff.1 k.is).1
    refine ⟨k.lo, k.hi, k.no, ?_⟩
    have := k.no
    omega
  have l0 := calls_len (A.cl 0)
  have l1 := calls_len (A.cl 1)
  have l2 := calls_len (A.cl 2)
  unfold tot at ht
  have e : ∀ b : Bool, (if b = true then 1 else 0) ≤ 1 := fun b => by cases b <;> simp
  have e0 := e (A.cl 0).op
  have e1 := e (A.cl 1).op
  have e2 := e (A.cl 2).op
  omega
theorem New_some (me : Int) (w : World) (h : ¬ (me < 0 ∨ 3 ≤ me)) : Calls Tryz.prog 37 #[.int .i64 me] w fun e w' => e = .returned (.pointer (some ⟨w.heap.size, 0, none⟩)) ∧ w' = w.alloc (.cells #[.int .i64 me, .slice none 0 0, .int .i64 0, .string ⟨#[]⟩, .string ⟨#[]⟩, .string ⟨#[]⟩, .bool false] 85) := by
  have h0 : ¬ me < 0 := by omega
  have h3 : ¬ (3 : Int) ≤ me := by omega
  clear h
  go_enter Tryz.func37, Tryz.ntmps37
  go_wp2
  go_ret
  exact ⟨rfl, rfl⟩
theorem seven {w : World} {b : Nat} {x0 x1 x2 x3 x4 x5 x6 : Value} {e : TypeId} (h : w.heap[b]? = some (.cells #[x0, x1, x2, x3, x4, x5, x6] e (0, 0))) :
    (w.cell? ⟨b, 0, none⟩ = some x0 ∧ w.cell? ⟨b, 1, none⟩ = some x1 ∧ w.cell? ⟨b, 2, none⟩ = some x2 ∧ w.cell? ⟨b, 3, none⟩ = some x3) ∧ (w.cell? ⟨b, 4, none⟩ = some x4 ∧ w.cell? ⟨b, 5, none⟩ = some x5 ∧ w.cell? ⟨b, 6, none⟩ = some x6) ∧ ∀ j, w.frozen? ⟨b, j, none⟩ = false := by
  refine ⟨⟨?_, ?_, ?_, ?_⟩, ⟨?_, ?_, ?_⟩, fun j => frozen_of_row w b j _ _ h⟩ <;> rw [cell_of_row w b _ _ _ _ h] <;> rfl
theorem eightK {w : World} {b : Nat} {x0 x1 x2 x3 x4 x5 x6 x7 : Value} {e : TypeId} (h : w.heap[b]? = some (.cells #[x0, x1, x2, x3, x4, x5, x6, x7] e (0, 0))) :
    (w.cell? ⟨b, 0, none⟩ = some x0 ∧ w.cell? ⟨b, 1, none⟩ = some x1 ∧ w.cell? ⟨b, 2, none⟩ = some x2 ∧ w.cell? ⟨b, 3, none⟩ = some x3) ∧ (w.cell? ⟨b, 4, none⟩ = some x4 ∧ w.cell? ⟨b, 5, none⟩ = some x5 ∧ w.cell? ⟨b, 6, none⟩ = some x6 ∧ w.cell? ⟨b, 7, none⟩ = some x7) ∧ ∀ j, w.frozen? ⟨b, j, none⟩ = false := by
  refine ⟨⟨?_, ?_, ?_, ?_⟩, ⟨?_, ?_, ?_, ?_⟩, fun j => frozen_of_row w b j _ _ h⟩ <;> rw [cell_of_row w b _ _ _ _ h] <;> rfl
theorem fourK {w : World} {b : Nat} {x0 x1 x2 x3 : Value} {e : TypeId} (h : w.heap[b]? = some (.cells #[x0, x1, x2, x3] e (0, 0))) :
    w.cell? ⟨b, 0, none⟩ = some x0 ∧ w.cell? ⟨b, 1, none⟩ = some x1 ∧ w.cell? ⟨b, 2, none⟩ = some x2 ∧ w.cell? ⟨b, 3, none⟩ = some x3 ∧ ∀ j, w.frozen? ⟨b, j, none⟩ = false := by
  refine ⟨?_, ?_, ?_, ?_, fun j => frozen_of_row w b j _ _ h⟩ <;> rw [cell_of_row w b _ _ _ _ h] <;> rfl
theorem twoK {w : World} {b : Nat} {x0 x1 : Value} {e : TypeId} (h : w.heap[b]? = some (.cells #[x0, x1] e (0, 0))) :
    w.cell? ⟨b, 0, none⟩ = some x0 ∧ w.cell? ⟨b, 1, none⟩ = some x1 ∧ ∀ j, w.frozen? ⟨b, j, none⟩ = false := by
  refine ⟨?_, ?_, fun j => frozen_of_row w b j _ _ h⟩ <;> rw [cell_of_row w b _ _ _ _ h] <;> rfl
theorem number_any {N : Nat} {w : World} {X : Nat} {v : Value} {c : ACli} (h : KRep N w X v c) : Calls Tryz.prog 94 #[.pointer (some ⟨X, 0, none⟩)] w fun e w' => e = .returned (.int .i64 c.no) ∧ w' = w := by
  obtain ⟨a, cap, rfl⟩ := h.o.form
  obtain ⟨⟨x0, x1, x2, x3⟩, ⟨x4, x5, x6⟩, xf⟩ := seven h.o.blk
  have hf := h.ok.few
  obtain ⟨n, hn⟩ : ∃ n, c.done.length = n := ⟨_, rfl⟩
  have hno : c.no = (n : Int) + 1 := by unfold ACli.no; rw [hn]
  have hw : wrap64 ((n : Int) + 1) = (n : Int) + 1 := by unfold wrap64; omega
  rw [hno]
  rw [hn] at x1
  clear h x0 x2 x3 x4 x5 x6
  go_enter Tryz.func94, Tryz.ntmps94
  go_wp2
  go_ret
  exact ⟨rfl, rfl⟩
theorem KOpen_any {N : Nat} {w : World} {X : Nat} {v : Value} {c : ACli} (h : KRep N w X v c) : Calls Tryz.prog 15 #[.pointer (some ⟨X, 0, none⟩)] w fun e w' => e = .returned (.bool c.op) ∧ w' = w := by
  obtain ⟨⟨x0, x1, x2, x3⟩, ⟨x4, x5, x6⟩, xf⟩ := seven h.o.blk
  clear h x0 x1 x2 x3 x4 x5
  go_enter Tryz.func15, Tryz.ntmps15
  go_wp2
  go_ret
  exact ⟨rfl, rfl⟩
theorem info59s : (Tryz.prog.info? 59).map (·.size) = some 2 := by kernel_rfl
theorem info32s : (Tryz.prog.info? 32).map (·.size) = some 4 := by kernel_rfl
set_option maxRecDepth 100000 in
set_option maxHeartbeats 4000000 in
theorem cloneAnswer_any (d : Int) (u : ByteArray) (w : World) (hu : u.size ≤ 281474976710656) : Calls Tryz.prog 39 #[.agg #[.int .i64 d, .string u]] w fun e w' => e = .returned (.agg #[.int .i64 d, .string u]) ∧ Below w.heap.size w w' := by
  obtain ⟨V, hV⟩ : ∃ V, V = (w.alloc (.cells #[.int .i64 d, .string u] 59)).alloc (.cells #[.int .i64 0, .string ⟨#[]⟩] 59) := ⟨_, rfl⟩
  have hB0 : Below w.heap.size w V := by rw [hV]; exact ((Below.refl _ _).alloc (Nat.le_refl _) _).alloc (by simp) _
  have hX0 : V.heap[w.heap.size]? = some (.cells #[.int .i64 d, .string u] 59 (0, 0)) := by rw [hV, Below.heap_alloc _ _ _ (by simp)]; exact heap_alloc_new _ _
  have hY0 : V.heap[w.heap.size + 1]? = some (.cells #[.int .i64 0, .string ⟨#[]⟩] 59 (0, 0)) := by rw [hV]; have := heap_alloc_new (w.alloc (.cells #[.int .i64 d, .string u] 59)) (.cells #[.int .i64 0, .string ⟨#[]⟩] 59); simpa using this
  have HC1 := hide (fun W => SClone_any u W hu)
  obtain ⟨x0, x1, xf⟩ := twoK hX0
  have HV := hide hV
  have HB0 := hide hB0
  have HX0 := hide hX0
  have HY0 := hide hY0
  clear hB0 hX0 hY0 hV
  go_enter Tryz.func39, Tryz.ntmps39
  go_wp2_with fail
  rw [← unhide HV]
  refine ((unhide HC1) _).mono ?_
  rintro e w1 ⟨rfl, b1⟩
  clear x0 x1 xf
  have hX1 := (b1.block _ (Array.getElem?_eq_some_iff.1 (unhide HX0)).1).trans (unhide HX0)
  have hY1 := (b1.block _ (Array.getElem?_eq_some_iff.1 (unhide HY0)).1).trans (unhide HY0)
  have hS1 := set_same (j := 1) (x := .string u) hX1 rfl
  have hT1 : (w1.setCell ⟨w.heap.size, 1, none⟩ (.string u)).heap[w.heap.size + 1]? = _ := (Below.heap_setCell w1 _ _ _ (by simp)).trans hY1
  have hbx := below_set (j := 1) (x := .string u) ((unhide HB0).trans (b1.mono (unhide HB0).size)) (Nat.le_refl w.heap.size)
  obtain ⟨V1, hV1⟩ : ∃ V, V = w1.setCell ⟨w.heap.size, 1, none⟩ (.string u) := ⟨_, rfl⟩
  rw [← hV1] at hS1 hT1 hbx
  obtain ⟨V5, hV5⟩ : ∃ V, V = V1.setRow (w.heap.size + 1) #[.int .i64 d, .string u] := ⟨_, rfl⟩
  have hZ : V5.heap[w.heap.size + 1]? = some (.cells #[.int .i64 d, .string u] 59 (0, 0)) := by rw [hV5]; exact setRow_heap V1 (w.heap.size + 1) _ _ 59 (0, 0) hT1
  have hB5 : Below w.heap.size w V5 := by
    have h := hbx
    rw [hV5]
    exact ⟨h.os, h.tape, h.output, by simp [World.setRow]; exact h.size, fun k hk => (setRow_other V1 (w.heap.size + 1) k _ (by omega)).trans (h.block k hk)⟩
  obtain ⟨z0, z1, _⟩ := twoK hZ
  obtain ⟨x0, x1, xf⟩ := twoK hX1
  have HB5 := hide hB5
  rw [hV1] at hV5
  have hYn := (Below.heap_setCell w1 ⟨w.heap.size, 1, none⟩ (.string u) (w.heap.size + 1) (by simp)).trans hY1
  clear hB5 hZ hX1 hY1 hS1 hT1 hbx hV1 b1
  go_wp2_with (refine wpList_store_row rfl 59 _ _ rfl (w.heap.size + 1) #[.int .i64 d, .string u] rfl rfl 59 _ hYn info59s rfl (by simp [Value.oneCell']) ?_)
  rw [← hV5]
  refine bodyPost_ret (v := .agg #[.int .i64 d, .string u]) (by simp [results, Tryz.results39, go_sem, z0, z1]) rfl ⟨rfl, unhide HB5⟩
theorem keep_set {W : World} {b i j : Nat} {u v : Value} (hi : W.cell? ⟨b, i, none⟩ = some u) (hj : W.cell? ⟨b, j, none⟩ = some v) : (W.setCell ⟨b, i, none⟩ u).cell? ⟨b, j, none⟩ = some v := by
  by_cases h : i = j
  · subst h
    rw [hi] at hj
    rw [World.cell?_setCell_same _ _ _ hi]
    exact hj
  · rw [World.cell?_setCell_other _ _ _ _ (by simp [h])]
    exact hj
theorem keep3 {W : World} {b i1 i2 i3 : Nat} {u1 u2 u3 : Value} (h : W.cell? ⟨b, i1, none⟩ = some u1 ∧ W.cell? ⟨b, i2, none⟩ = some u2 ∧ W.cell? ⟨b, i3, none⟩ = some u3) {i : Nat} {u : Value} (hi : W.cell? ⟨b, i, none⟩ = some u) :
    (W.setCell ⟨b, i, none⟩ u).cell? ⟨b, i1, none⟩ = some u1 ∧ (W.setCell ⟨b, i, none⟩ u).cell? ⟨b, i2, none⟩ = some u2 ∧ (W.setCell ⟨b, i, none⟩ u).cell? ⟨b, i3, none⟩ = some u3 := ⟨keep_set hi h.1, keep_set hi h.2.1, keep_set hi h.2.2⟩
set_option maxRecDepth 100000 in
set_option maxHeartbeats 4000000 in
theorem cloneCall_any (x : ACall) (w : World) (hx : SmallC x) : Calls Tryz.prog 38 #[.agg #[.int .i64 x.kind, .string x.name, .string x.dst, .string x.text]] w fun e w' => e = .returned (.agg #[.int .i64 x.kind, .string x.name, .string x.dst, .string x.text]) ∧ Below w.heap.size w w' := by
  obtain ⟨h1, h2, h3⟩ := hx
  obtain ⟨k, a, b, t⟩ := x
  dsimp only at *
  obtain ⟨V, hV⟩ : ∃ V, V = (w.alloc (.cells #[.int .i64 k, .string a, .string b, .string t] 32)).alloc (.cells #[.int .i64 0, .string ⟨#[]⟩, .string ⟨#[]⟩, .string ⟨#[]⟩] 32) := ⟨_, rfl⟩
  have hB0 : Below w.heap.size w V := by rw [hV]; exact ((Below.refl _ _).alloc (Nat.le_refl _) _).alloc (by simp) _
  have hX0 : V.heap[w.heap.size]? = some (.cells #[.int .i64 k, .string a, .string b, .string t] 32 (0, 0)) := by rw [hV, Below.heap_alloc _ _ _ (by simp)]; exact heap_alloc_new _ _
  have hY0 : V.heap[w.heap.size + 1]? = some (.cells #[.int .i64 0, .string ⟨#[]⟩, .string ⟨#[]⟩, .string ⟨#[]⟩] 32 (0, 0)) := by rw [hV]; have := heap_alloc_new (w.alloc (.cells #[.int .i64 k, .string a, .string b, .string t] 32)) (.cells #[.int .i64 0, .string ⟨#[]⟩, .string ⟨#[]⟩, .string ⟨#[]⟩] 32); simpa using this
  have hzV : w.heap.size + 1 < V.heap.size := (Array.getElem?_eq_some_iff.1 hY0).1
  have HC1 := hide (fun W => SClone_any a W h1)
  have HC2 := hide (fun W => SClone_any b W h2)
  have HC3 := hide (fun W => SClone_any t W h3)
  obtain ⟨x0, x1, x2, x3, xf⟩ := fourK hX0
  have HV := hide hV
  have HB0 := hide hB0
  have HX0 := hide hX0
  have HY0 := hide hY0
  clear hB0 hX0 hY0 hV h1 h2 h3
  go_enter Tryz.func38, Tryz.ntmps38
  go_wp2_with fail
  rw [← unhide HV]
  have HF : Hid (∀ W, Below V.heap.size V W → W.cell? ⟨w.heap.size, 1, none⟩ = some (.string a) ∧ W.cell? ⟨w.heap.size, 2, none⟩ = some (.string b) ∧ W.cell? ⟨w.heap.size, 3, none⟩ = some (.string t) ∧ W.frozen? ⟨w.heap.size, 1, none⟩ = false ∧ W.frozen? ⟨w.heap.size, 2, none⟩ = false ∧ W.frozen? ⟨w.heap.size, 3, none⟩ = false) := fun W hW => by
    obtain ⟨_, y1, y2, y3, yf⟩ := fourK ((hW.block _ (by omega)).trans (unhide HX0))
    exact ⟨y1, y2, y3, yf _, yf _, yf _⟩
  have xf1 := xf 1
  have xf2 := xf 2
  have xf3 := xf 3
  clear xf
  go_region_held3 (fun W => W.cell? ⟨w.heap.size, 1, none⟩ = some (.string a) ∧ W.cell? ⟨w.heap.size, 2, none⟩ = some (.string b) ∧ W.cell? ⟨w.heap.size, 3, none⟩ = some (.string t)) (first | (go_keep; done) | (exact keep3 (by assumption) (And.left (by assumption))) | (exact keep3 (by assumption) (And.left (And.right (by assumption)))) | (exact keep3 (by assumption) (And.right (And.right (by assumption))))) (first
    | (go_at_call 43; refine ((unhide HC1) _).mono ?_; rintro e w1 ⟨rfl, b1⟩; have bV1 := (below_drew V).trans b1; obtain ⟨p1, p2, p3, p4, p5, p6⟩ := (unhide HF) w1 bV1)
    | (go_at_call 43; refine ((unhide HC2) _).mono ?_; rintro e w2 ⟨rfl, b2⟩; have bV2 := bV1.trans (b2.mono bV1.size); obtain ⟨q1, q2, q3, q4, q5, q6⟩ := (unhide HF) w2 bV2)
    | (go_at_call 43; refine ((unhide HC3) _).mono ?_; rintro e w3 ⟨rfl, b3⟩; have bV3 := bV2.trans (b3.mono bV2.size); obtain ⟨r1, r2, r3, r4, r5, r6⟩ := (unhide HF) w3 bV3))
  all_goals
    have hX3 := (bV3.block _ (by omega)).trans (unhide HX0)
    have hY3 := (bV3.block _ hzV).trans (unhide HY0)
    have hX4 := set_same (j := 3) (x := .string t) (set_same (j := 2) (x := .string b) (set_same (j := 1) (x := .string a) hX3 rfl) rfl) rfl
    obtain ⟨W4, hW4⟩ : ∃ W, W = ((w3.setCell ⟨w.heap.size, 1, none⟩ (.string a)).setCell ⟨w.heap.size, 2, none⟩ (.string b)).setCell ⟨w.heap.size, 3, none⟩ (.string t) := ⟨_, rfl⟩
    have hY4 : W4.heap[w.heap.size + 1]? = some (.cells #[.int .i64 0, .string ⟨#[]⟩, .string ⟨#[]⟩, .string ⟨#[]⟩] 32 (0, 0)) := by
      rw [hW4, Below.heap_setCell _ _ _ _ (by simp), Below.heap_setCell _ _ _ _ (by simp), Below.heap_setCell _ _ _ _ (by simp)]
      exact hY3
    have hB4 : Below w.heap.size w W4 := by
      rw [hW4]
      exact below_set (below_set (below_set ((unhide HB0).trans (bV3.mono (unhide HB0).size)) (Nat.le_refl _)) (Nat.le_refl _)) (Nat.le_refl _)
    rw [← hW4] at hX4
    obtain ⟨m0, m1, m2, m3, mf⟩ := fourK hX4
    obtain ⟨V5, hV5⟩ : ∃ V, V = W4.setRow (w.heap.size + 1) #[.int .i64 k, .string a, .string b, .string t] := ⟨_, rfl⟩
    have hZ : V5.heap[w.heap.size + 1]? = some (.cells #[.int .i64 k, .string a, .string b, .string t] 32 (0, 0)) := by rw [hV5]; exact setRow_heap W4 (w.heap.size + 1) _ _ 32 (0, 0) hY4
    have hB5 : Below w.heap.size w V5 := by
      rw [hV5]
      exact ⟨hB4.os, hB4.tape, hB4.output, by simp [World.setRow]; exact hB4.size, fun k hk => (setRow_other W4 (w.heap.size + 1) k _ (by omega)).trans (hB4.block k hk)⟩
    obtain ⟨z0, z1, z2, z3, _⟩ := fourK hZ
    have HB5 := hide hB5
    rw [← hW4]
    clear hB5 hZ hX3 hY3 hX4 hB4 hW4 p1 p2 p3 p4 p5 p6 q1 q2 q3 q4 q5 q6 r1 r2 r3 r4 r5 r6 b1 b2 b3 bV1 bV2 bV3 x0 x1 x2 x3 xf1 xf2 xf3 mf
    go_wp2_with (refine wpList_store_row rfl 32 _ _ rfl (w.heap.size + 1) #[.int .i64 k, .string a, .string b, .string t] rfl rfl 32 _ hY4 info32s rfl (by simp [Value.oneCell']) ?_)
    rw [← hV5]
    refine bodyPost_ret (v := .agg #[.int .i64 k, .string a, .string b, .string t]) (by simp [results, Tryz.results38, go_sem, z0, z1, z2, z3]) rfl ⟨rfl, unhide HB5⟩
theorem KRep.below {N : Nat} {w w' : World} {X : Nat} {v : Value} {c : ACli} (h : KRep N w X v c) (hb : Below w.heap.size w w') : KRep N w' X v c := ⟨h.o.below hb, h.ok⟩
set_option maxRecDepth 100000 in
set_option maxHeartbeats 4000000 in
theorem awaits_any {N : Nat} {w : World} {X : Nat} {v : Value} {c : ACli} (h : KRep N w X v c) (p : APkt) : Calls Tryz.prog 126 #[.pointer (some ⟨X, 0, none⟩), p.val] w fun e w' => e = .returned (.bool (c.hears p)) ∧ Below w.heap.size w w' := by
  obtain ⟨V, hV⟩ : ∃ V, V = w.alloc (.cells (pArr p) 92) := ⟨_, rfl⟩
  have hBV : Below w.heap.size w V := by rw [hV]; exact (Below.refl _ _).alloc (Nat.le_refl _) _
  have hXV : V.heap[w.heap.size]? = some (.cells (pArr p) 92 (0, 0)) := by rw [hV]; exact heap_alloc_new _ _
  have hrV := h.below hBV
  have HNO : Hid (∀ n, Calls Tryz.prog 94 #[.pointer (some ⟨X, 0, none⟩)] (V.drewN n) fun e w' => e = .returned (.int .i64 c.no) ∧ w' = V.drewN n) := fun n => number_any (hrV.below (w' := V.drewN n) ⟨rfl, rfl, rfl, Nat.le_refl _, fun _ _ => rfl⟩)
  have hres : c.hears p = (c.op && p.reply && p.client == c.me && p.no == c.no && callB p.call c.call) := rfl
  have hE := fun W => eql32 p.call c.call W
  obtain ⟨⟨k0, k1, k2, k3⟩, ⟨k4, k5, k6⟩, kf⟩ := seven hrV.o.blk
  rw [hres]
  generalize c.no = cno at HNO ⊢
  generalize callB p.call c.call = cb at hE ⊢
  obtain ⟨me, done, ⟨ck, ca, cb', ct⟩, op⟩ := c
  obtain ⟨y, pc, pn, ⟨pk, s1, s2, s3⟩, d, u⟩ := p
  dsimp only [APkt.val, pArr, callCells] at *
  obtain ⟨⟨x0, x1, x2, x3⟩, ⟨x4, x5, x6, x7, x8⟩, xf⟩ := nine hXV
  have HV := hide hV
  have HB := hide hBV
  have HBD : Hid (∀ n, Below w.heap.size w (V.drewN n)) := fun n => hBV.trans ⟨rfl, rfl, rfl, Nat.le_refl _, fun _ _ => rfl⟩
  clear h hBV hXV hrV hV hres xf kf k1
  cases op
  · go_enter Tryz.func126, Tryz.ntmps126
    go_wp2_with fail
    rw [← unhide HV]
    go_quiet (first | (go_at_call 94; exact Calls.quiet_of_same ((unhide HNO) _)))
    go_wp2
    go_ret
    exact ⟨rfl, (unhide HBD) _⟩
  cases y
  · go_enter Tryz.func126, Tryz.ntmps126
    go_wp2_with fail
    rw [← unhide HV]
    go_quiet (first | (go_at_call 94; exact Calls.quiet_of_same ((unhide HNO) _)))
    go_wp2
    go_ret
    exact ⟨rfl, (unhide HBD) _⟩
  cases hc : (pc == me)
  · go_enter Tryz.func126, Tryz.ntmps126
    go_wp2_with fail
    rw [← unhide HV]
    go_quiet (first | (go_at_call 94; exact Calls.quiet_of_same ((unhide HNO) _)))
    go_wp2
    go_ret
    exact ⟨rfl, (unhide HBD) _⟩
  cases hn : (pn == cno)
  · go_enter Tryz.func126, Tryz.ntmps126
    go_wp2_with fail
    rw [← unhide HV]
    go_quiet (first | (go_at_call 94; exact Calls.quiet_of_same ((unhide HNO) _)))
    go_wp2
    go_ret
    exact ⟨rfl, (unhide HBD) _⟩
  · go_enter Tryz.func126, Tryz.ntmps126
    go_wp2_with fail
    rw [← unhide HV]
    go_quiet (first | (go_at_call 94; exact Calls.quiet_of_same ((unhide HNO) _)))
    go_wp2
    go_ret
    exact ⟨rfl, (unhide HBD) _⟩
theorem set5 {w : World} {X : Nat} {t : TypeId} {y0 y1 y2 y3 y4 y5 y6 a2 a3 a4 a5 a6 : Value} (h : w.heap[X]? = some (.cells #[y0, y1, y2, y3, y4, y5, y6] t (0, 0))) :
    (((((w.setCell ⟨X, 2, none⟩ a2).setCell ⟨X, 3, none⟩ a3).setCell ⟨X, 4, none⟩ a4).setCell ⟨X, 5, none⟩ a5).setCell ⟨X, 6, none⟩ a6).heap[X]? = some (.cells #[y0, y1, a2, a3, a4, a5, a6] t (0, 0)) ∧
    Kept [X] w (((((w.setCell ⟨X, 2, none⟩ a2).setCell ⟨X, 3, none⟩ a3).setCell ⟨X, 4, none⟩ a4).setCell ⟨X, 5, none⟩ a5).setCell ⟨X, 6, none⟩ a6) := by
  refine ⟨?_, ?_⟩
  · have h1 := heap_setCell_same (o := 6) (heap_setCell_same (o := 5) (heap_setCell_same (o := 4) (heap_setCell_same (o := 3) (heap_setCell_same (o := 2) h a2) a3) a4) a5) a6
    exact h1
  · have k : ∀ (W : World) (o : Nat) (u : Value), Kept [X] W (W.setCell ⟨X, o, none⟩ u) := fun W o u => kept_setCell [X] W X o u (by simp)
    exact ((((k _ _ _).trans (k _ _ _) (fun x hx => .inl hx)).trans (k _ _ _) (fun x hx => .inl hx)).trans (k _ _ _) (fun x hx => .inl hx)).trans (k _ _ _) (fun x hx => .inl hx)
theorem small_max {n : Nat} (h : n ≤ 281474976710656) : n ≤ maxLen := by unfold maxLen; omega
set_option maxRecDepth 100000 in
set_option maxHeartbeats 4000000 in
theorem Call_any {N : Nat} {w : World} {X : Nat} {v : Value} {c : ACli} (h : KRep N w X v c) (x : ACall) (hx : SmallC x) :
    Calls Tryz.prog 67 #[.pointer (some ⟨X, 0, none⟩), .agg #[.int .i64 x.kind, .string x.name, .string x.dst, .string x.text]] w fun e w' => e = .returned (.int .i64 (c.ask x)) ∧ KTurn N w X v w' (c.asked x) := by
  obtain ⟨V, hV⟩ : ∃ V, V = w.alloc (.cells #[.int .i64 x.kind, .string x.name, .string x.dst, .string x.text] 32) := ⟨_, rfl⟩
  have hBV : Below w.heap.size w V := by rw [hV]; exact (Below.refl _ _).alloc (Nat.le_refl _) _
  have hXV : V.heap[w.heap.size]? = some (.cells #[.int .i64 x.kind, .string x.name, .string x.dst, .string x.text] 32 (0, 0)) := by rw [hV]; exact heap_alloc_new _ _
  have hrV := h.below hBV
  have HCK := hide (Check_any x.kind x.name x.dst x.text V (small_max hx.1) (small_max hx.2.1) (small_max hx.2.2))
  have HCL := hide (fun W => cloneCall_any x W hx)
  have hce : checkI ⟨x.kind, x.name, x.dst, x.text⟩ = checkI x := rfl
  rw [hce] at HCK
  have hlV : w.heap.size < V.heap.size := (Array.getElem?_eq_some_iff.1 hXV).1
  have hXn : w.heap.size ≠ X := by have := h.o.lt; omega
  have HRV := hide hrV
  have HXV := hide hXV
  have HBV := hide hBV
  have HV := hide hV
  by_cases hck : checkI x = 0
  · cases hop : c.op
    · by_cases hfull : 200 ≤ c.done.length
      · have e1 : c.ask x = 7 := by unfold ACli.ask; rw [if_neg (by simp [hck]), if_neg (by simp [hop]), if_pos hfull]
        have e2 : c.asked x = c := by unfold ACli.asked; rw [e1, if_neg (by omega)]
        rw [e1, e2]
        rw [hck] at HCK
        have HT : Hid (∀ w', Below V.heap.size V w' → KTurn N w X v w' c) := fun w' hb => OTurn.of_below h.o (hBV.trans (hb.mono hBV.size))
        obtain ⟨x0, x1, x2, x3, xf⟩ := fourK hXV
        have HK : Hid (∀ w', Below V.heap.size V w' → ∃ a cap, w'.cell? ⟨X, 6, none⟩ = some (.bool false) ∧ w'.cell? ⟨X, 1, none⟩ = some (.slice a c.done.length cap)) := fun w' hb => by
          obtain ⟨a, cap, hv⟩ := h.o.form
          obtain ⟨⟨k0, k1, k2, k3⟩, ⟨k4, k5, k6⟩, kf⟩ := seven ((hrV.below hb).o.blk)
          exact ⟨a, cap, by rw [← hop]; exact k6, by rw [← hv]; exact k1⟩
        have hfi : (200 : Int) ≤ (c.done.length : Int) := by omega
        generalize c.done.length = n at HK hfi
        clear h hBV hXV hrV hV hck hop hfull e1 e2 hce
        go_enter Tryz.func67, Tryz.ntmps67
        go_wp2_with fail
        rw [← unhide HV]
        refine (unhide HCK).mono ?_
        rintro e w1 ⟨rfl, b1⟩
        obtain ⟨a, cap, k6, k1⟩ := (unhide HK) w1 b1
        go_wp2
        go_ret
        exact ⟨rfl, (unhide HT) _ b1⟩
      · have e1 : c.ask x = 0 := by unfold ACli.ask; rw [if_neg (by simp [hck]), if_neg (by simp [hop]), if_neg hfull]
        have e2 : c.asked x = ⟨c.me, c.done, x, true⟩ := by unfold ACli.asked; rw [e1, if_pos rfl]
        rw [e1, e2]
        rw [hck] at HCK
        have HK : Hid (∀ w', Below V.heap.size V w' → ∃ a cap, w'.heap[X]? = some (.cells #[.int .i64 c.me, .slice a c.done.length cap, .int .i64 c.call.kind, .string c.call.name, .string c.call.dst, .string c.call.text, .bool false] 85 (0, 0)) ∧ v = .slice a c.done.length cap) := fun w' hb => by
          obtain ⟨a, cap, hv⟩ := h.o.form
          have := (hrV.below hb).o.blk
          unfold kcells at this
          rw [hop, hv] at this
          exact ⟨a, cap, this, hv⟩
        have HXK : Hid (∀ w', Below V.heap.size V w' → w'.heap[w.heap.size]? = some (.cells #[.int .i64 x.kind, .string x.name, .string x.dst, .string x.text] 32 (0, 0))) := fun w' hb => (hb.block _ hlV).trans hXV
        obtain ⟨x0, x1, x2, x3, xf⟩ := fourK hXV
        have hXl : X < V.heap.size := hrV.o.lt
        have hfi : ¬ (200 : Int) ≤ (c.done.length : Int) := by omega
        clear hBV hXV hrV hV hck hop hfull e1 e2 hce
        have HH := hide h
        clear h
        obtain ⟨me, done, ⟨ck, ca, cb, ct⟩, op⟩ := c
        obtain ⟨xk, xa, xb, xt⟩ := x
        dsimp only at *
        obtain ⟨n, hn⟩ : ∃ n, done.length = n := ⟨_, rfl⟩
        rw [hn] at HK hfi
        go_enter Tryz.func67, Tryz.ntmps67
        go_wp2_with fail
        rw [← unhide HV]
        refine (unhide HCK).mono ?_
        rintro e w1 ⟨rfl, b1⟩
        clear x0 x1 x2 x3 xf
        have HX1 := hide ((unhide HXK) w1 b1)
        obtain ⟨a, cap, hk1, hv⟩ := (unhide HK) w1 b1
        subst hv
        obtain ⟨⟨k0, k1, k2, k3⟩, ⟨k4, k5, k6⟩, kf⟩ := seven hk1
        obtain ⟨x0, x1, x2, x3, xf⟩ := fourK (unhide HX1)
        go_wp2_with fail
        refine ((unhide HCL) _).mono ?_
        rintro e w2 ⟨rfl, b2⟩
        have b2' := b1.trans (b2.mono b1.size)
        clear k0 k1 k2 k3 k4 k5 k6 kf x0 x1 x2 x3 xf
        obtain ⟨a', cap', hk2, hv'⟩ := (unhide HK) w2 b2'
        cases hv'
        obtain ⟨⟨k0, k1, k2, k3⟩, ⟨k4, k5, k6⟩, kf⟩ := seven hk2
        obtain ⟨hs1, hs2⟩ := set5 (a2 := .int .i64 xk) (a3 := .string xa) (a4 := .string xb) (a5 := .string xt) (a6 := .bool true) hk2
        have hT : KTurn N w X (.slice a n cap) _ ⟨me, done, ⟨xk, xa, xb, xt⟩, true⟩ := ((((unhide HH).below ((unhide HBV).trans (b2'.mono (unhide HBV).size))).o).reblk hs1 hs2).before ((unhide HBV).trans (b2'.mono (unhide HBV).size))
        have HT := hide hT
        clear hs1 hs2 hT
        go_wp2
        go_ret
        exact ⟨rfl, unhide HT⟩
    · have e1 : c.ask x = 11 := by unfold ACli.ask; rw [if_neg (by simp [hck]), if_pos hop]
      have e2 : c.asked x = c := by unfold ACli.asked; rw [e1, if_neg (by omega)]
      rw [e1, e2]
      rw [hck] at HCK
      have HT : Hid (∀ w', Below V.heap.size V w' → KTurn N w X v w' c) := fun w' hb => OTurn.of_below h.o (hBV.trans (hb.mono hBV.size))
      obtain ⟨x0, x1, x2, x3, xf⟩ := fourK hXV
      have HK : Hid (∀ w', Below V.heap.size V w' → w'.cell? ⟨X, 6, none⟩ = some (.bool true)) := fun w' hb => by
        obtain ⟨⟨k0, k1, k2, k3⟩, ⟨k4, k5, k6⟩, kf⟩ := seven ((hrV.below hb).o.blk)
        rw [← hop]; exact k6
      clear h hBV hXV hrV hV hck hop e1 e2 hce
      go_enter Tryz.func67, Tryz.ntmps67
      go_wp2_with fail
      rw [← unhide HV]
      refine (unhide HCK).mono ?_
      rintro e w1 ⟨rfl, b1⟩
      have k6 := (unhide HK) w1 b1
      go_wp2
      go_ret
      exact ⟨rfl, (unhide HT) _ b1⟩
  · have e1 : c.ask x = checkI x := by unfold ACli.ask; rw [if_pos hck]
    have e2 : c.asked x = c := by unfold ACli.asked; rw [e1, if_neg hck]
    rw [e1, e2]
    have HT : Hid (∀ w', Below V.heap.size V w' → KTurn N w X v w' c) := fun w' hb => OTurn.of_below h.o (hBV.trans (hb.mono hBV.size))
    obtain ⟨x0, x1, x2, x3, xf⟩ := fourK hXV
    generalize checkI x = ci at *
    have hcb : (ci != 0) = true := by simpa using hck
    clear h hBV hXV hrV hV hce hck e1 e2
    go_enter Tryz.func67, Tryz.ntmps67
    go_wp2_with fail
    rw [← unhide HV]
    refine (unhide HCK).mono ?_
    rintro e w1 ⟨rfl, b1⟩
    go_wp2
    go_ret
    exact ⟨rfl, (unhide HT) _ b1⟩
def zeroP : Array Value := #[.bool false, .int .i64 0, .int .i64 0, .int .i64 0, .string ⟨#[]⟩, .string ⟨#[]⟩, .string ⟨#[]⟩, .int .i64 0, .string ⟨#[]⟩]
theorem set9 {w : World} {X : Nat} {t : TypeId} {y0 y1 y2 y3 y4 y5 y6 y7 y8 a0 a1 a2 a3 a4 a5 a6 a7 a8 : Value} (h : w.heap[X]? = some (.cells #[y0, y1, y2, y3, y4, y5, y6, y7, y8] t (0, 0))) :
    (((((((((w.setCell ⟨X, 0, none⟩ a0).setCell ⟨X, 1, none⟩ a1).setCell ⟨X, 2, none⟩ a2).setCell ⟨X, 3, none⟩ a3).setCell ⟨X, 4, none⟩ a4).setCell ⟨X, 5, none⟩ a5).setCell ⟨X, 6, none⟩ a6).setCell ⟨X, 7, none⟩ a7).setCell ⟨X, 8, none⟩ a8).heap[X]? = some (.cells #[a0, a1, a2, a3, a4, a5, a6, a7, a8] t (0, 0)) ∧
    Kept [X] w (((((((((w.setCell ⟨X, 0, none⟩ a0).setCell ⟨X, 1, none⟩ a1).setCell ⟨X, 2, none⟩ a2).setCell ⟨X, 3, none⟩ a3).setCell ⟨X, 4, none⟩ a4).setCell ⟨X, 5, none⟩ a5).setCell ⟨X, 6, none⟩ a6).setCell ⟨X, 7, none⟩ a7).setCell ⟨X, 8, none⟩ a8) := by
  have k : ∀ (W : World) (o : Nat) (u : Value), Kept [X] W (W.setCell ⟨X, o, none⟩ u) := fun W o u => kept_setCell [X] W X o u (by simp)
  have k0 := Kept.refl [X] w
  have h1 : (w.setCell ⟨X, 0, none⟩ a0).heap[X]? = some (.cells #[a0, y1, y2, y3, y4, y5, y6, y7, y8] t (0, 0)) := heap_setCell_same h a0
  have k1 := k0.trans (k w 0 a0) (fun x hx => .inl hx)
  generalize w.setCell ⟨X, 0, none⟩ a0 = w1 at *
  have h2 : (w1.setCell ⟨X, 1, none⟩ a1).heap[X]? = some (.cells #[a0, a1, y2, y3, y4, y5, y6, y7, y8] t (0, 0)) := heap_setCell_same h1 a1
  have k2 := k1.trans (k w1 1 a1) (fun x hx => .inl hx)
  generalize w1.setCell ⟨X, 1, none⟩ a1 = w2 at *
  have h3 : (w2.setCell ⟨X, 2, none⟩ a2).heap[X]? = some (.cells #[a0, a1, a2, y3, y4, y5, y6, y7, y8] t (0, 0)) := heap_setCell_same h2 a2
  have k3 := k2.trans (k w2 2 a2) (fun x hx => .inl hx)
  generalize w2.setCell ⟨X, 2, none⟩ a2 = w3 at *
  have h4 : (w3.setCell ⟨X, 3, none⟩ a3).heap[X]? = some (.cells #[a0, a1, a2, a3, y4, y5, y6, y7, y8] t (0, 0)) := heap_setCell_same h3 a3
  have k4 := k3.trans (k w3 3 a3) (fun x hx => .inl hx)
  generalize w3.setCell ⟨X, 3, none⟩ a3 = w4 at *
  have h5 : (w4.setCell ⟨X, 4, none⟩ a4).heap[X]? = some (.cells #[a0, a1, a2, a3, a4, y5, y6, y7, y8] t (0, 0)) := heap_setCell_same h4 a4
  have k5 := k4.trans (k w4 4 a4) (fun x hx => .inl hx)
  generalize w4.setCell ⟨X, 4, none⟩ a4 = w5 at *
  have h6 : (w5.setCell ⟨X, 5, none⟩ a5).heap[X]? = some (.cells #[a0, a1, a2, a3, a4, a5, y6, y7, y8] t (0, 0)) := heap_setCell_same h5 a5
  have k6 := k5.trans (k w5 5 a5) (fun x hx => .inl hx)
  generalize w5.setCell ⟨X, 5, none⟩ a5 = w6 at *
  have h7 : (w6.setCell ⟨X, 6, none⟩ a6).heap[X]? = some (.cells #[a0, a1, a2, a3, a4, a5, a6, y7, y8] t (0, 0)) := heap_setCell_same h6 a6
  have k7 := k6.trans (k w6 6 a6) (fun x hx => .inl hx)
  generalize w6.setCell ⟨X, 6, none⟩ a6 = w7 at *
  have h8 : (w7.setCell ⟨X, 7, none⟩ a7).heap[X]? = some (.cells #[a0, a1, a2, a3, a4, a5, a6, a7, y8] t (0, 0)) := heap_setCell_same h7 a7
  have k8 := k7.trans (k w7 7 a7) (fun x hx => .inl hx)
  generalize w7.setCell ⟨X, 7, none⟩ a7 = w8 at *
  have h9 : (w8.setCell ⟨X, 8, none⟩ a8).heap[X]? = some (.cells #[a0, a1, a2, a3, a4, a5, a6, a7, a8] t (0, 0)) := heap_setCell_same h8 a8
  have k9 := k8.trans (k w8 8 a8) (fun x hx => .inl hx)
  generalize w8.setCell ⟨X, 8, none⟩ a8 = w9 at *
  exact ⟨h9, k9⟩
set_option maxRecDepth 100000 in
set_option maxHeartbeats 4000000 in
theorem Send_none {N : Nat} {w : World} {X : Nat} {v : Value} {c : ACli} (h : KRep N w X v c) (hop : c.op = false) :
    Calls Tryz.prog 68 #[.pointer (some ⟨X, 0, none⟩)] w fun e w' => e = .returned (.tuple #[zeroPkt.val, .bool false]) ∧ Below w.heap.size w w' := by
  obtain ⟨V, hV⟩ : ∃ V, V = w.alloc (.cells zeroP 92) := ⟨_, rfl⟩
  have hBV : Below w.heap.size w V := by rw [hV]; exact (Below.refl _ _).alloc (Nat.le_refl _) _
  have hYV : V.heap[w.heap.size]? = some (.cells zeroP 92 (0, 0)) := by rw [hV]; exact heap_alloc_new _ _
  obtain ⟨⟨k0, k1, k2, k3⟩, ⟨k4, k5, k6⟩, kf⟩ := seven h.o.blk
  have hXl := h.o.lt
  rw [hop] at k6
  obtain ⟨V5, hV5⟩ : ∃ W, W = V.setRow w.heap.size zeroP := ⟨_, rfl⟩
  have hZ : V5.heap[w.heap.size]? = some (.cells zeroP 92 (0, 0)) := by rw [hV5]; exact setRow_heap V w.heap.size _ _ 92 (0, 0) hYV
  have HB5 : Hid (Below w.heap.size w V5) := by
    rw [hV5]
    exact ⟨hBV.os, hBV.tape, hBV.output, by simp [World.setRow]; exact hBV.size, fun k hk => (setRow_other V w.heap.size k _ (by omega)).trans (hBV.block k hk)⟩
  rw [hV] at hV5 hYV
  dsimp only [zeroP, zeroPkt, APkt.val] at *
  obtain ⟨⟨z0, z1, z2, z3⟩, ⟨z4, z5, z6, z7, z8⟩, _⟩ := nine hZ
  clear h hop hBV hZ hV k0 k1 k2 k3 k4 k5 kf
  go_enter Tryz.func68, Tryz.ntmps68
  go_wp2_with (refine wpList_store_row rfl 92 _ _ rfl w.heap.size #[.bool false, .int .i64 0, .int .i64 0, .int .i64 0, .string ⟨#[]⟩, .string ⟨#[]⟩, .string ⟨#[]⟩, .int .i64 0, .string ⟨#[]⟩] rfl rfl 92 _ hYV infoP rfl (by simp [Value.oneCell']) ?_)
  rw [← hV5]
  refine bodyPost_ret (v := .tuple #[.agg #[.bool false, .int .i64 0, .int .i64 0, .int .i64 0, .string ⟨#[]⟩, .string ⟨#[]⟩, .string ⟨#[]⟩, .int .i64 0, .string ⟨#[]⟩], .bool false]) (by simp [results, Tryz.results68, go_sem, z0, z1, z2, z3, z4, z5, z6, z7, z8]) rfl ⟨rfl, unhide HB5⟩
set_option maxRecDepth 100000 in
set_option maxHeartbeats 4000000 in
theorem Send_some {N : Nat} {w : World} {X : Nat} {v : Value} {c : ACli} (h : KRep N w X v c) (hop : c.op = true) :
    Calls Tryz.prog 68 #[.pointer (some ⟨X, 0, none⟩)] w fun e w' => e = .returned (.tuple #[(⟨false, c.me, c.no, c.call, 0, ⟨#[]⟩⟩ : APkt).val, .bool true]) ∧ Below w.heap.size w w' := by
  obtain ⟨V, hV⟩ : ∃ V, V = w.alloc (.cells zeroP 92) := ⟨_, rfl⟩
  have hBV : Below w.heap.size w V := by rw [hV]; exact (Below.refl _ _).alloc (Nat.le_refl _) _
  have hYV : V.heap[w.heap.size]? = some (.cells zeroP 92 (0, 0)) := by rw [hV]; exact heap_alloc_new _ _
  have hrV := h.below hBV
  have HNO := hide (number_any (hrV.below (below_drew V)))
  have HCL := hide (fun W => cloneCall_any c.call W h.ok.smallc)
  obtain ⟨⟨k0, k1, k2, k3⟩, ⟨k4, k5, k6⟩, kf⟩ := seven h.o.blk
  obtain ⟨⟨j0, j1, j2, j3⟩, ⟨j4, j5, j6⟩, jf⟩ := seven hrV.o.blk
  have hXl := h.o.lt
  have hXV : X < V.heap.size := hrV.o.lt
  have hzV : V.heap.size = w.heap.size + 1 := by rw [hV]; simp
  rw [hop] at k6
  have HYV := hide hYV
  have HBV := hide hBV
  have HV := hide hV
  have hXne : w.heap.size ≠ X := by omega
  have HF : Hid (∀ W, Below V.heap.size V W → W.cell? ⟨X, 0, none⟩ = some (.int .i64 c.me) ∧ W.cell? ⟨X, 2, none⟩ = some (.int .i64 c.call.kind) ∧ W.cell? ⟨X, 3, none⟩ = some (.string c.call.name) ∧ W.cell? ⟨X, 4, none⟩ = some (.string c.call.dst) ∧ W.cell? ⟨X, 5, none⟩ = some (.string c.call.text)) := fun W hW => by
    obtain ⟨⟨y0, y1, y2, y3⟩, ⟨y4, y5, y6⟩, yf⟩ := seven (hrV.below hW).o.blk
    exact ⟨y0, y2, y3, y4, y5⟩
  have HYF : Hid (∀ W, Below V.heap.size V W → W.heap[w.heap.size]? = some (.cells zeroP 92 (0, 0))) := fun W hW => (hW.block _ (by omega)).trans hYV
  generalize c.no = cno at HNO ⊢
  obtain ⟨me, done, ⟨ck, ca, cb, ct⟩, op⟩ := c
  dsimp only [zeroP, zeroPkt, APkt.val] at *
  clear h hBV hYV hrV hV hop k0 k1 k2 k3 k4 k5 kf j1 j6
  go_enter Tryz.func68, Tryz.ntmps68
  go_wp2_with fail
  rw [← unhide HV]
  clear k6
  go_region_held3 (fun W => W.cell? ⟨X, 0, none⟩ = some (.int .i64 me) ∧ W.cell? ⟨X, 2, none⟩ = some (.int .i64 ck) ∧ W.cell? ⟨X, 3, none⟩ = some (.string ca) ∧ W.cell? ⟨X, 4, none⟩ = some (.string cb) ∧ W.cell? ⟨X, 5, none⟩ = some (.string ct)) (first | (go_keep; done) | (simp [World.cell?_setCell_far, hXne, q0, q2, q3, q4, q5]; done)) (first
    | (go_at_call 94; refine (unhide HNO).mono ?_; rintro e w1 ⟨rfl, hw1⟩; obtain rfl := hw1.symm; clear hw1)
    | (go_at_call 38; refine ((unhide HCL) _).mono ?_; rintro e w2 ⟨rfl, b2⟩; have bV2 := (below_drew V).trans b2; obtain ⟨q0, q2, q3, q4, q5⟩ := (unhide HF) w2 bV2; have hY2 := (unhide HYF) w2 bV2; obtain ⟨⟨r0, r1, r2, r3⟩, ⟨r4, r5, r6, r7, r8⟩, rf⟩ := nine hY2))
  all_goals
    obtain ⟨hs1, hs2⟩ := set9 (a0 := .bool false) (a1 := .int .i64 me) (a2 := .int .i64 cno) (a3 := .int .i64 ck) (a4 := .string ca) (a5 := .string cb) (a6 := .string ct) (a7 := .int .i64 0) (a8 := .string ⟨#[]⟩) hY2
    have hB5 := ((unhide HBV).trans (bV2.mono (unhide HBV).size)).trans (hs2.below (by have := bV2.size; omega) (by simp))
    have HB5 := hide hB5
    obtain ⟨⟨z0, z1, z2, z3⟩, ⟨z4, z5, z6, z7, z8⟩, _⟩ := nine hs1
    clear hs1 hs2 hB5 hY2 r0 r1 r2 r3 r4 r5 r6 r7 r8 rf q0 q2 q3 q4 q5 j0 j2 j3 j4 j5 jf b2 bV2
    go_wp2
    refine bodyPost_ret (v := .tuple #[.agg #[.bool false, .int .i64 me, .int .i64 cno, .int .i64 ck, .string ca, .string cb, .string ct, .int .i64 0, .string ⟨#[]⟩], .bool true]) (by simp [results, Tryz.results68, go_sem, z0, z1, z2, z3, z4, z5, z6, z7, z8]) rfl ⟨rfl, unhide HB5⟩
theorem Send_any {N : Nat} {w : World} {X : Nat} {v : Value} {c : ACli} (h : KRep N w X v c) :
    Calls Tryz.prog 68 #[.pointer (some ⟨X, 0, none⟩)] w fun e w' => e = .returned (.tuple #[c.pkt.val, .bool c.op]) ∧ Below w.heap.size w w' := by
  unfold ACli.pkt
  cases hop : c.op
  · exact Send_none h hop
  · exact Send_some h hop
theorem set8K {w : World} {X : Nat} {t : TypeId} {y0 y1 y2 y3 y4 y5 y6 y7 a0 a1 a2 a3 a4 a5 a6 a7 : Value} (h : w.heap[X]? = some (.cells #[y0, y1, y2, y3, y4, y5, y6, y7] t (0, 0))) :
    ((((((((w.setCell ⟨X, 0, none⟩ a0).setCell ⟨X, 1, none⟩ a1).setCell ⟨X, 2, none⟩ a2).setCell ⟨X, 3, none⟩ a3).setCell ⟨X, 4, none⟩ a4).setCell ⟨X, 5, none⟩ a5).setCell ⟨X, 6, none⟩ a6).setCell ⟨X, 7, none⟩ a7).heap[X]? = some (.cells #[a0, a1, a2, a3, a4, a5, a6, a7] t (0, 0)) ∧
    Kept [X] w ((((((((w.setCell ⟨X, 0, none⟩ a0).setCell ⟨X, 1, none⟩ a1).setCell ⟨X, 2, none⟩ a2).setCell ⟨X, 3, none⟩ a3).setCell ⟨X, 4, none⟩ a4).setCell ⟨X, 5, none⟩ a5).setCell ⟨X, 6, none⟩ a6).setCell ⟨X, 7, none⟩ a7) := by
  have k : ∀ (W : World) (o : Nat) (u : Value), Kept [X] W (W.setCell ⟨X, o, none⟩ u) := fun W o u => kept_setCell [X] W X o u (by simp)
  have k0 := Kept.refl [X] w
  have h1 : (w.setCell ⟨X, 0, none⟩ a0).heap[X]? = some (.cells #[a0, y1, y2, y3, y4, y5, y6, y7] t (0, 0)) := heap_setCell_same h a0
  have k1 := k0.trans (k w 0 a0) (fun x hx => .inl hx)
  generalize w.setCell ⟨X, 0, none⟩ a0 = w1 at *
  have h2 : (w1.setCell ⟨X, 1, none⟩ a1).heap[X]? = some (.cells #[a0, a1, y2, y3, y4, y5, y6, y7] t (0, 0)) := heap_setCell_same h1 a1
  have k2 := k1.trans (k w1 1 a1) (fun x hx => .inl hx)
  generalize w1.setCell ⟨X, 1, none⟩ a1 = w2 at *
  have h3 : (w2.setCell ⟨X, 2, none⟩ a2).heap[X]? = some (.cells #[a0, a1, a2, y3, y4, y5, y6, y7] t (0, 0)) := heap_setCell_same h2 a2
  have k3 := k2.trans (k w2 2 a2) (fun x hx => .inl hx)
  generalize w2.setCell ⟨X, 2, none⟩ a2 = w3 at *
  have h4 : (w3.setCell ⟨X, 3, none⟩ a3).heap[X]? = some (.cells #[a0, a1, a2, a3, y4, y5, y6, y7] t (0, 0)) := heap_setCell_same h3 a3
  have k4 := k3.trans (k w3 3 a3) (fun x hx => .inl hx)
  generalize w3.setCell ⟨X, 3, none⟩ a3 = w4 at *
  have h5 : (w4.setCell ⟨X, 4, none⟩ a4).heap[X]? = some (.cells #[a0, a1, a2, a3, a4, y5, y6, y7] t (0, 0)) := heap_setCell_same h4 a4
  have k5 := k4.trans (k w4 4 a4) (fun x hx => .inl hx)
  generalize w4.setCell ⟨X, 4, none⟩ a4 = w5 at *
  have h6 : (w5.setCell ⟨X, 5, none⟩ a5).heap[X]? = some (.cells #[a0, a1, a2, a3, a4, a5, y6, y7] t (0, 0)) := heap_setCell_same h5 a5
  have k6 := k5.trans (k w5 5 a5) (fun x hx => .inl hx)
  generalize w5.setCell ⟨X, 5, none⟩ a5 = w6 at *
  have h7 : (w6.setCell ⟨X, 6, none⟩ a6).heap[X]? = some (.cells #[a0, a1, a2, a3, a4, a5, a6, y7] t (0, 0)) := heap_setCell_same h6 a6
  have k7 := k6.trans (k w6 6 a6) (fun x hx => .inl hx)
  generalize w6.setCell ⟨X, 6, none⟩ a6 = w7 at *
  have h8 : (w7.setCell ⟨X, 7, none⟩ a7).heap[X]? = some (.cells #[a0, a1, a2, a3, a4, a5, a6, a7] t (0, 0)) := heap_setCell_same h7 a7
  have k8 := k7.trans (k w7 7 a7) (fun x hx => .inl hx)
  generalize w7.setCell ⟨X, 7, none⟩ a7 = w8 at *
  exact ⟨h8, k8⟩
set_option maxRecDepth 100000 in
set_option maxHeartbeats 4000000 in
theorem Hear_none {N : Nat} {w : World} {X : Nat} {v : Value} {c : ACli} (h : KRep N w X v c) (p : APkt) (hp : c.hears p = false) :
    Calls Tryz.prog 113 #[.pointer (some ⟨X, 0, none⟩), p.val] w fun e w' => e = .returned (.bool false) ∧ KTurn N w X v w' c := by
  obtain ⟨V, hV⟩ : ∃ V, V = w.alloc (.cells (pArr p) 92) := ⟨_, rfl⟩
  have hBV : Below w.heap.size w V := by rw [hV]; exact (Below.refl _ _).alloc (Nat.le_refl _) _
  have HAW := hide (awaits_any (h.below hBV) p)
  rw [hp] at HAW
  have HT : Hid (∀ w', Below V.heap.size V w' → KTurn N w X v w' c) := fun w' hb => OTurn.of_below h.o (hBV.trans (hb.mono hBV.size))
  have HV := hide hV
  obtain ⟨y, pc, pn, ⟨pk, s1, s2, s3⟩, d, u⟩ := p
  dsimp only [APkt.val, pArr] at *
  clear h hBV hV hp
  go_enter Tryz.func113, Tryz.ntmps113
  go_wp2_with fail
  rw [← unhide HV]
  refine (unhide HAW).mono ?_
  rintro e w1 ⟨rfl, b1⟩
  go_wp2
  go_ret
  exact ⟨rfl, (unhide HT) _ b1⟩
set_option maxRecDepth 100000 in
set_option maxHeartbeats 4000000 in
theorem Hear_some {N : Nat} {w : World} {X : Nat} {v : Value} {c : ACli} (h : KRep N w X v c) (p : APkt) (hsm : SmallP p) (hp : c.hears p = true) :
    Calls Tryz.prog 113 #[.pointer (some ⟨X, 0, none⟩), p.val] w fun e w' => e = .returned (.bool true) ∧ KTurn N w X v w' (c.heard p) := by
  have e2 : c.heard p = ⟨c.me, c.done ++ [c.rcd p], zeroCall, false⟩ := by unfold ACli.heard; rw [if_pos hp]
  rw [e2]
  clear e2
  obtain ⟨V, hV⟩ : ∃ V, V = w.alloc (.cells (pArr p) 92) := ⟨_, rfl⟩
  have hBV : Below w.heap.size w V := by rw [hV]; exact (Below.refl _ _).alloc (Nat.le_refl _) _
  have hPV : V.heap[w.heap.size]? = some (.cells (pArr p) 92 (0, 0)) := by rw [hV]; exact heap_alloc_new _ _
  have hrV := h.below hBV
  have hXV : X < V.heap.size := hrV.o.lt
  have hzV : V.heap.size = w.heap.size + 1 := by rw [hV]; simp
  have HAW := hide (awaits_any hrV p)
  rw [hp] at HAW
  have HNO : Hid (∀ W, Below V.heap.size V W → Calls Tryz.prog 94 #[.pointer (some ⟨X, 0, none⟩)] W fun e w' => e = .returned (.int .i64 c.no) ∧ w' = W) := fun W hW => number_any (hrV.below hW)
  have HCA := hide (fun W => cloneAnswer_any p.code p.ans W hsm.2.2.2)
  have HF : Hid (∀ W, Below V.heap.size V W → W.cell? ⟨X, 0, none⟩ = some (.int .i64 c.me) ∧ W.cell? ⟨X, 2, none⟩ = some (.int .i64 c.call.kind) ∧ W.cell? ⟨X, 3, none⟩ = some (.string c.call.name) ∧ W.cell? ⟨X, 4, none⟩ = some (.string c.call.dst) ∧ W.cell? ⟨X, 5, none⟩ = some (.string c.call.text) ∧ W.cell? ⟨w.heap.size, 7, none⟩ = some (.int .i64 p.code) ∧ W.cell? ⟨w.heap.size, 8, none⟩ = some (.string p.ans)) := fun W hW => by
    obtain ⟨⟨y0, y1, y2, y3⟩, ⟨y4, y5, y6⟩, yf⟩ := seven (hrV.below hW).o.blk
    obtain ⟨⟨z0, z1, z2, z3⟩, ⟨z4, z5, z6, z7, z8⟩, _⟩ := nine ((hW.block _ (by omega)).trans hPV)
    exact ⟨y0, y2, y3, y4, y5, z7, z8⟩
  have HH := hide h
  have HOP : Hid (c.op = true) := by
    unfold ACli.hears at hp
    simp only [Bool.and_eq_true] at hp
    exact hp.1.1.1.1
  obtain ⟨i0, hi0, hz0, hz1', hz2⟩ := info_parts info61
  have HBV := hide hBV
  have HV := hide hV
  have hXl := h.o.lt
  unfold ACli.rcd
  generalize c.no = cno at HNO ⊢
  obtain ⟨me, done, ⟨ck, ca, cb, ct⟩, op⟩ := c
  obtain ⟨y, pc, pn, ⟨pk, s1, s2, s3⟩, d, u⟩ := p
  dsimp only [APkt.val, pArr] at *
  clear h hBV hV hp hrV hPV hsm
  go_enter Tryz.func113, Tryz.ntmps113
  go_wp2_with fail
  rw [← unhide HV]
  refine (unhide HAW).mono ?_
  rintro e w1 ⟨rfl, b1⟩
  go_wp2_with fail
  obtain ⟨x0, x2, x3, x4, x5, x7, x8⟩ := (unhide HF) w1 b1
  have hz1 := b1.size
  have hX1 : X < w1.heap.size := by omega
  have hP1 : w.heap.size < w1.heap.size := by omega
  have hne1 : w1.heap.size ≠ X := by omega
  have hne2 : w1.heap.size ≠ w.heap.size := by omega
  go_region_held3 (fun W => W.cell? ⟨X, 0, none⟩ = some (.int .i64 me) ∧ W.cell? ⟨X, 2, none⟩ = some (.int .i64 ck) ∧ W.cell? ⟨X, 3, none⟩ = some (.string ca) ∧ W.cell? ⟨X, 4, none⟩ = some (.string cb) ∧ W.cell? ⟨X, 5, none⟩ = some (.string ct) ∧ W.cell? ⟨w.heap.size, 7, none⟩ = some (.int .i64 d) ∧ W.cell? ⟨w.heap.size, 8, none⟩ = some (.string u)) (first | (go_keep; done) | (refine ⟨?_, ?_, ?_, ?_, ?_, ?_, ?_⟩ <;> (rw [al_old _ _ _ _ (by assumption)]; assumption)) | (simp [World.cell?_setCell_far, hne1, hne2, q0, q2, q3, q4, q5, q7, q8]; done)) (first
    | (go_at_call 94; refine ((unhide HNO) _ (by first | exact b1.trans ((below_drew w1).mono hz1) | exact b1.trans ((below_drew_alloc w1 _).mono hz1) | exact b1.trans ((below_alloc_drew w1 _).mono hz1))).mono ?_; rintro e w2 ⟨rfl, hw2⟩; obtain rfl := hw2.symm; clear hw2)
    | (go_at_call 39; refine ((unhide HCA) _).mono ?_; rintro e w3 ⟨rfl, b3⟩; have bV3 : Below V.heap.size V w3 := (by first | exact b1.trans (((below_drew w1).trans b3).mono hz1) | exact b1.trans (((below_drew_alloc w1 _).trans (b3.mono (by simp))).mono hz1) | exact b1.trans (((below_alloc_drew w1 _).trans (b3.mono (by simp))).mono hz1)); obtain ⟨q0, q2, q3, q4, q5, q7, q8⟩ := (unhide HF) w3 bV3; try (have hR3 : w3.heap[w1.heap.size]? = some (.cells #[.int .i64 0, .int .i64 0, .int .i64 0, .string ⟨#[]⟩, .string ⟨#[]⟩, .string ⟨#[]⟩, .int .i64 0, .string ⟨#[]⟩] 61 (0, 0)) := (b3.block w1.heap.size (by simp)).trans (heap_alloc_new w1 _); obtain ⟨⟨m0, m1, m2, m3⟩, ⟨m4, m5, m6, m7⟩, mf⟩ := eightK hR3)))
  all_goals have hz3 := bV3.size
  all_goals first
    | (obtain ⟨W, hW⟩ : ∃ W, W = w3.alloc (.cells #[.int .i64 me, .int .i64 cno, .int .i64 ck, .string ca, .string cb, .string ct, .int .i64 d, .string u] 61) := ⟨_, rfl⟩
       obtain ⟨Bk, hBk⟩ : ∃ B, B = w3.heap.size := ⟨_, rfl⟩
       have hWB : W.heap[Bk]? = some (.cells #[.int .i64 me, .int .i64 cno, .int .i64 ck, .string ca, .string cb, .string ct, .int .i64 d, .string u] 61 (0, 0)) := by rw [hW, hBk]; exact heap_alloc_new _ _
       have hBW : Below V.heap.size V W := by rw [hW]; exact bV3.alloc bV3.size _
       have hBkV : V.heap.size ≤ Bk := by omega
       rw [← hW, ← hBk]
       clear hW hBk)
    | (obtain ⟨hs1, hs2⟩ := set8K (a0 := .int .i64 me) (a1 := .int .i64 cno) (a2 := .int .i64 ck) (a3 := .string ca) (a4 := .string cb) (a5 := .string ct) (a6 := .int .i64 d) (a7 := .string u) hR3
       obtain ⟨W, hW⟩ : ∃ W, W = ((((((((w3.setCell ⟨w1.heap.size, 0, none⟩ (.int .i64 me)).setCell ⟨w1.heap.size, 1, none⟩ (.int .i64 cno)).setCell ⟨w1.heap.size, 2, none⟩ (.int .i64 ck)).setCell ⟨w1.heap.size, 3, none⟩ (.string ca)).setCell ⟨w1.heap.size, 4, none⟩ (.string cb)).setCell ⟨w1.heap.size, 5, none⟩ (.string ct)).setCell ⟨w1.heap.size, 6, none⟩ (.int .i64 d)).setCell ⟨w1.heap.size, 7, none⟩ (.string u)) := ⟨_, rfl⟩
       obtain ⟨Bk, hBk⟩ : ∃ B, B = w1.heap.size := ⟨_, rfl⟩
       rw [← hW] at hs1 hs2
       have hWB : W.heap[Bk]? = some (.cells #[.int .i64 me, .int .i64 cno, .int .i64 ck, .string ca, .string cb, .string ct, .int .i64 d, .string u] 61 (0, 0)) := by rw [hBk]; exact hs1
       have hBW : Below V.heap.size V W := bV3.trans (hs2.below (by omega) (by simp; omega))
       have hBkV : V.heap.size ≤ Bk := by omega
       rw [← hW, ← hBk]
       clear hW hBk hs1 hs2)
  all_goals
    have hbwW : Below w.heap.size w W := (unhide HBV).trans (hBW.mono (unhide HBV).size)
    have hrW := (unhide HH).below hbwW
    obtain ⟨a, cap, hv⟩ := hrW.o.form
    subst hv
    obtain ⟨k, hk⟩ : ∃ k, done.length = k := ⟨_, rfl⟩
    rw [hk] at hrW
    have nB := hrW.o.nd
    have HRW := hide hrW
    have HbwW := hide hbwW
    have hk200 : k < 200 := by rw [← hk]; exact hrW.ok.room (unhide HOP)
    have HOR : Hid (∀ wx, Below W.heap.size W wx → wx.ownsRow N 61 8 (.slice a k cap) k (done.flatMap rcells)) := fun wx hb => by have := ((unhide HRW).below (w' := wx) hb).o.row; rw [hk] at this; exact this
    have HFX : Hid (∀ wx, Below W.heap.size W wx → Can wx X 1 (.slice a k cap)) := fun wx hb => by
      obtain ⟨⟨y0, y1, y2, y3⟩, ⟨y4, y5, y6⟩, yf⟩ := seven ((unhide HRW).below (w' := wx) hb).o.blk
      exact ⟨y1, yf 1⟩
    have hBWl : Bk < W.heap.size := (Array.getElem?_eq_some_iff.1 hWB).1
    have hXW : X < W.heap.size := hrW.o.lt
    have HNN : Hid (N ≤ W.heap.size) := hrW.o.size
    obtain ⟨⟨m0, m1, m2, m3⟩, ⟨m4, m5, m6, m7⟩, mf⟩ := eightK hWB
    have hc1 := ((unhide HFX) W (Below.refl _ _)).1
    have hf1 := ((unhide HFX) W (Below.refl _ _)).2
    have HK := hide hk
    clear hrW hbwW hk x0 x2 x3 x4 x5 x7 x8 q0 q2 q3 q4 q5 q7 q8 b1 hne1 hne2 hX1 hP1 hz1
    go_wp2_with fail
    go_region_law (first
      | (refine step_append_lies _ (by rfl) _ _ _ (by rfl) N 61 i0 _ 8 96 Tryz.underlying33 hi0 hz0 hz1' hz2 rfl (by omega) (.slice a k cap) k (done.flatMap rcells) (by rfl) (HOR.out _ (below_alloc_drew W _))
          ⟨W.heap.size, 0, none⟩ 1 1 [.int .i64 me, .int .i64 cno, .int .i64 ck, .string ca, .string cb, .string ct, .int .i64 d, .string u] (by rfl) (by rfl) (World.news_of_block (cs := #[.int .i64 me, .int .i64 cno, .int .i64 ck, .string ca, .string cb, .string ct, .int .i64 d, .string u]) (t := 61) (fr := (0, 0)) (alloc_drew_new W _)) (by simp [Value.oneCell'])
          (by omega) (by unfold maxLen; omega) (by omega) (by have h4 := unhide HNN; simp; omega) (W.heap.size + 1) (by simp) ?_; intro g cap' w5 hown2 hgrow hat hlt; have hc2 := (HFX.out _ (below_alloc_drew W _)).grown hgrow nB; have hc3 := hc2.1; have hf3 := hc2.2))
    all_goals
      have hbA : Below W.heap.size W (W.alloc (.cells #[.int .i64 me, .int .i64 cno, .int .i64 ck, .string ca, .string cb, .string ct, .int .i64 d, .string u] 61)).drew := below_alloc_drew W _
      have hrA := (unhide HRW).below hbA
      have hXA : w5.heap[X]? = some (.cells #[.int .i64 me, .slice a k cap, .int .i64 ck, .string ca, .string cb, .string ct, .bool op] 85 (0, 0)) := by
        rw [hgrow.block X hrA.o.lt (fun e => nB e.symm)]
        have := hrA.o.blk
        unfold kcells at this
        exact this
      have hX6 : (w5.setCell ⟨X, 1, none⟩ (.slice (some ⟨g, 0, none⟩) (k + 1) cap')).heap[X]? = some (.cells #[.int .i64 me, .slice (some ⟨g, 0, none⟩) (k + 1) cap', .int .i64 ck, .string ca, .string cb, .string ct, .bool op] 85 (0, 0)) := heap_setCell_same hXA _
      have hk6 := kept_setCell [X] w5 X 1 (.slice (some ⟨g, 0, none⟩) (k + 1) cap') (by simp)
      obtain ⟨W6, hW6⟩ : ∃ W6, W6 = w5.setCell ⟨X, 1, none⟩ (.slice (some ⟨g, 0, none⟩) (k + 1) cap') := ⟨_, rfl⟩
      rw [← hW6] at hX6 hk6
      obtain ⟨hs1, hs2⟩ := set5 (a2 := .int .i64 0) (a3 := .string ⟨#[]⟩) (a4 := .string ⟨#[]⟩) (a5 := .string ⟨#[]⟩) (a6 := .bool false) hX6
      have hT : KTurn N _ X (.slice a k cap) _ ⟨me, done ++ [⟨me, cno, ⟨ck, ca, cb, ct⟩, d, u⟩], zeroCall, false⟩ := hrA.o.push (f' := kcells ⟨me, done ++ [⟨me, cno, ⟨ck, ca, cb, ct⟩, d, u⟩], zeroCall, false⟩) (n := k + 1) (r := ⟨me, cno, ⟨ck, ca, cb, ct⟩, d, u⟩) hgrow (by rw [unhide HK]) hown2 (by simpa using hat) (hk6.trans hs2 (fun x hx => .inl hx)) hs1
      have hT2 := OTurn.before ((unhide HbwW).trans (hbA.mono (unhide HbwW).size)) hT
      have HT := hide hT2
      obtain ⟨⟨y0, y1, y2, y3⟩, ⟨y4, y5, y6⟩, yf⟩ := seven hX6
      rw [← hW6]
      clear hT hT2 hs1 hs2 hX6 hk6 hW6 hXA hrA hbA hown2 hgrow hat hlt hc2 hc3 hf3 hc1 hf1 m0 m1 m2 m3 m4 m5 m6 m7 mf
      go_wp2
      go_ret
      exact ⟨rfl, by rw [unhide HK]; exact unhide HT⟩
theorem Hear_any {N : Nat} {w : World} {X : Nat} {v : Value} {c : ACli} (h : KRep N w X v c) (p : APkt) (hsm : SmallP p) :
    Calls Tryz.prog 113 #[.pointer (some ⟨X, 0, none⟩), p.val] w fun e w' => e = .returned (.bool (c.hears p)) ∧ KTurn N w X v w' (c.heard p) := by
  cases hp : c.hears p
  · have e : c.heard p = c := by unfold ACli.heard; rw [hp]; rfl
    rw [e]
    exact Hear_none h p hp
  · exact Hear_some h p hsm hp
theorem six_set {W : World} {b i : Nat} {u2 u3 u4 u5 u6 u7 u : Value} (h : W.cell? ⟨b, 2, none⟩ = some u2 ∧ W.cell? ⟨b, 3, none⟩ = some u3 ∧ W.cell? ⟨b, 4, none⟩ = some u4 ∧ W.cell? ⟨b, 5, none⟩ = some u5 ∧ W.cell? ⟨b, 6, none⟩ = some u6 ∧ W.cell? ⟨b, 7, none⟩ = some u7) (hi : W.cell? ⟨b, i, none⟩ = some u) : (W.setCell ⟨b, i, none⟩ u).cell? ⟨b, 2, none⟩ = some u2 ∧ (W.setCell ⟨b, i, none⟩ u).cell? ⟨b, 3, none⟩ = some u3 ∧ (W.setCell ⟨b, i, none⟩ u).cell? ⟨b, 4, none⟩ = some u4 ∧ (W.setCell ⟨b, i, none⟩ u).cell? ⟨b, 5, none⟩ = some u5 ∧ (W.setCell ⟨b, i, none⟩ u).cell? ⟨b, 6, none⟩ = some u6 ∧ (W.setCell ⟨b, i, none⟩ u).cell? ⟨b, 7, none⟩ = some u7 :=
  ⟨keep_set hi h.1, keep_set hi h.2.1, keep_set hi h.2.2.1, keep_set hi h.2.2.2.1, keep_set hi h.2.2.2.2.1, keep_set hi h.2.2.2.2.2⟩
theorem six_set2 {W : World} {b : Nat} {u2 u3 u4 u5 u6 u7 : Value} (h : W.cell? ⟨b, 2, none⟩ = some u2 ∧ W.cell? ⟨b, 3, none⟩ = some u3 ∧ W.cell? ⟨b, 4, none⟩ = some u4 ∧ W.cell? ⟨b, 5, none⟩ = some u5 ∧ W.cell? ⟨b, 6, none⟩ = some u6 ∧ W.cell? ⟨b, 7, none⟩ = some u7) : (W.setCell ⟨b, 2, none⟩ u2).cell? ⟨b, 2, none⟩ = some u2 ∧ (W.setCell ⟨b, 2, none⟩ u2).cell? ⟨b, 3, none⟩ = some u3 ∧ (W.setCell ⟨b, 2, none⟩ u2).cell? ⟨b, 4, none⟩ = some u4 ∧ (W.setCell ⟨b, 2, none⟩ u2).cell? ⟨b, 5, none⟩ = some u5 ∧ (W.setCell ⟨b, 2, none⟩ u2).cell? ⟨b, 6, none⟩ = some u6 ∧ (W.setCell ⟨b, 2, none⟩ u2).cell? ⟨b, 7, none⟩ = some u7 := six_set h h.1
theorem six_set3 {W : World} {b : Nat} {u2 u3 u4 u5 u6 u7 : Value} (h : W.cell? ⟨b, 2, none⟩ = some u2 ∧ W.cell? ⟨b, 3, none⟩ = some u3 ∧ W.cell? ⟨b, 4, none⟩ = some u4 ∧ W.cell? ⟨b, 5, none⟩ = some u5 ∧ W.cell? ⟨b, 6, none⟩ = some u6 ∧ W.cell? ⟨b, 7, none⟩ = some u7) : (W.setCell ⟨b, 3, none⟩ u3).cell? ⟨b, 2, none⟩ = some u2 ∧ (W.setCell ⟨b, 3, none⟩ u3).cell? ⟨b, 3, none⟩ = some u3 ∧ (W.setCell ⟨b, 3, none⟩ u3).cell? ⟨b, 4, none⟩ = some u4 ∧ (W.setCell ⟨b, 3, none⟩ u3).cell? ⟨b, 5, none⟩ = some u5 ∧ (W.setCell ⟨b, 3, none⟩ u3).cell? ⟨b, 6, none⟩ = some u6 ∧ (W.setCell ⟨b, 3, none⟩ u3).cell? ⟨b, 7, none⟩ = some u7 := six_set h h.2.1
theorem six_set4 {W : World} {b : Nat} {u2 u3 u4 u5 u6 u7 : Value} (h : W.cell? ⟨b, 2, none⟩ = some u2 ∧ W.cell? ⟨b, 3, none⟩ = some u3 ∧ W.cell? ⟨b, 4, none⟩ = some u4 ∧ W.cell? ⟨b, 5, none⟩ = some u5 ∧ W.cell? ⟨b, 6, none⟩ = some u6 ∧ W.cell? ⟨b, 7, none⟩ = some u7) : (W.setCell ⟨b, 4, none⟩ u4).cell? ⟨b, 2, none⟩ = some u2 ∧ (W.setCell ⟨b, 4, none⟩ u4).cell? ⟨b, 3, none⟩ = some u3 ∧ (W.setCell ⟨b, 4, none⟩ u4).cell? ⟨b, 4, none⟩ = some u4 ∧ (W.setCell ⟨b, 4, none⟩ u4).cell? ⟨b, 5, none⟩ = some u5 ∧ (W.setCell ⟨b, 4, none⟩ u4).cell? ⟨b, 6, none⟩ = some u6 ∧ (W.setCell ⟨b, 4, none⟩ u4).cell? ⟨b, 7, none⟩ = some u7 := six_set h h.2.2.1
theorem six_set5 {W : World} {b : Nat} {u2 u3 u4 u5 u6 u7 : Value} (h : W.cell? ⟨b, 2, none⟩ = some u2 ∧ W.cell? ⟨b, 3, none⟩ = some u3 ∧ W.cell? ⟨b, 4, none⟩ = some u4 ∧ W.cell? ⟨b, 5, none⟩ = some u5 ∧ W.cell? ⟨b, 6, none⟩ = some u6 ∧ W.cell? ⟨b, 7, none⟩ = some u7) : (W.setCell ⟨b, 5, none⟩ u5).cell? ⟨b, 2, none⟩ = some u2 ∧ (W.setCell ⟨b, 5, none⟩ u5).cell? ⟨b, 3, none⟩ = some u3 ∧ (W.setCell ⟨b, 5, none⟩ u5).cell? ⟨b, 4, none⟩ = some u4 ∧ (W.setCell ⟨b, 5, none⟩ u5).cell? ⟨b, 5, none⟩ = some u5 ∧ (W.setCell ⟨b, 5, none⟩ u5).cell? ⟨b, 6, none⟩ = some u6 ∧ (W.setCell ⟨b, 5, none⟩ u5).cell? ⟨b, 7, none⟩ = some u7 := six_set h h.2.2.2.1
theorem six_set6 {W : World} {b : Nat} {u2 u3 u4 u5 u6 u7 : Value} (h : W.cell? ⟨b, 2, none⟩ = some u2 ∧ W.cell? ⟨b, 3, none⟩ = some u3 ∧ W.cell? ⟨b, 4, none⟩ = some u4 ∧ W.cell? ⟨b, 5, none⟩ = some u5 ∧ W.cell? ⟨b, 6, none⟩ = some u6 ∧ W.cell? ⟨b, 7, none⟩ = some u7) : (W.setCell ⟨b, 6, none⟩ u6).cell? ⟨b, 2, none⟩ = some u2 ∧ (W.setCell ⟨b, 6, none⟩ u6).cell? ⟨b, 3, none⟩ = some u3 ∧ (W.setCell ⟨b, 6, none⟩ u6).cell? ⟨b, 4, none⟩ = some u4 ∧ (W.setCell ⟨b, 6, none⟩ u6).cell? ⟨b, 5, none⟩ = some u5 ∧ (W.setCell ⟨b, 6, none⟩ u6).cell? ⟨b, 6, none⟩ = some u6 ∧ (W.setCell ⟨b, 6, none⟩ u6).cell? ⟨b, 7, none⟩ = some u7 := six_set h h.2.2.2.2.1
theorem six_set7 {W : World} {b : Nat} {u2 u3 u4 u5 u6 u7 : Value} (h : W.cell? ⟨b, 2, none⟩ = some u2 ∧ W.cell? ⟨b, 3, none⟩ = some u3 ∧ W.cell? ⟨b, 4, none⟩ = some u4 ∧ W.cell? ⟨b, 5, none⟩ = some u5 ∧ W.cell? ⟨b, 6, none⟩ = some u6 ∧ W.cell? ⟨b, 7, none⟩ = some u7) : (W.setCell ⟨b, 7, none⟩ u7).cell? ⟨b, 2, none⟩ = some u2 ∧ (W.setCell ⟨b, 7, none⟩ u7).cell? ⟨b, 3, none⟩ = some u3 ∧ (W.setCell ⟨b, 7, none⟩ u7).cell? ⟨b, 4, none⟩ = some u4 ∧ (W.setCell ⟨b, 7, none⟩ u7).cell? ⟨b, 5, none⟩ = some u5 ∧ (W.setCell ⟨b, 7, none⟩ u7).cell? ⟨b, 6, none⟩ = some u6 ∧ (W.setCell ⟨b, 7, none⟩ u7).cell? ⟨b, 7, none⟩ = some u7 := six_set h h.2.2.2.2.2
theorem rtake_snoc (rs : List ARec) (k : Nat) (r : ARec) (h : rs[k]? = some r) : (rs.take (k + 1)).flatMap rcells = (rs.take k).flatMap rcells ++ rcells r := by
  rw [List.take_add_one, h]
  simp
set_option maxRecDepth 100000 in
set_option maxHeartbeats 4000000 in
theorem Done_any {N : Nat} {w : World} {X : Nat} {v : Value} {c : ACli} (h : KRep N w X v c) {n : Nat} (hn : c.done.length = n) :
    Calls Tryz.prog 17 #[.pointer (some ⟨X, 0, none⟩)] w fun e w' => ∃ g cap, e = .returned (.slice (some ⟨g, 0, none⟩) n cap) ∧ w'.ownsRow w.heap.size 61 8 (.slice (some ⟨g, 0, none⟩) n cap) n (c.done.flatMap rcells) ∧ Below w.heap.size w w' := by
  obtain ⟨i0, hi0, hz0, hz1, hz2⟩ := info_parts info61
  have hlen : n ≤ 200 := by rw [← hn]; exact h.ok.few
  have hB : X < w.heap.size := h.o.lt
  obtain ⟨⟨y0, hc, y2, y3⟩, ⟨y4, y5, y6⟩, yf⟩ := seven h.o.blk
  obtain ⟨a, cap, rfl⟩ := h.o.form
  rw [hn] at hc
  have HP := hide (recs_row h.o.row rfl)
  rw [hn] at HP
  have HSM := hide h.ok.small
  have HN := hide hn
  obtain ⟨me, done, cl, op⟩ := c
  dsimp only at *
  clear h hn y0 y2 y3 y4 y5 y6 yf
  go_enter Tryz.func17, Tryz.ntmps17
  go_wp2_with (refine wpList_make_own _ rfl _ _ 33 rfl w.heap.size 61 i0 _ 8 Tryz.underlying33 hi0 hz0 hz1 .i64 .i64 (n : Int) n rfl rfl rfl (by rw [hz2]; omega) (by unfold maxLen; omega) (Nat.le_refl _) ?_)
  intro w0 hown0 hgr0
  have b0 : Below w.heap.size w w0 := (Below.refl _ _).grown hgr0 (Nat.le_refl _) (by simp)
  have hc0 := (b0.cell (p := ⟨X, 1, none⟩) hB).trans hc
  have HO0 := hide hown0
  have HB0 := hide b0
  clear hc hown0 b0 hgr0
  go_wp2
  go_loopw [3, 5, 17] (fun nv _ i wr => ∃ k : Nat, k ≤ n ∧ i = .int .i64 k ∧ Hid (Below w.heap.size w wr) ∧ Hid (∃ g c, nv = .slice (some ⟨g, 0, none⟩) k c) ∧ Hid (wr.ownsRow w.heap.size 61 8 nv k ((done.take k).flatMap rcells))) (fun _ _ i _ => n - (intOf i).toNat)
  case atStart => exact ⟨0, Nat.zero_le _, rfl, unhide HB0, ⟨_, _, rfl⟩, (by simpa using unhide HO0 : w0.ownsRow w.heap.size 61 8 (Value.slice (some ⟨w.heap.size, 0, none⟩) 0 n) 0 ((done.take 0).flatMap rcells))⟩
  case round =>
    obtain ⟨k, hk, rfl, HB, ⟨g1, c1, rfl⟩, HO⟩ := hrel
    by_cases hlt : (k : Int) < (n : Int)
    · obtain ⟨x, hx⟩ : ∃ x, done[k]? = some x := ⟨_, List.getElem?_eq_getElem (by rw [unhide HN]; omega)⟩
      obtain ⟨g, off, rfl, hcx⟩ := ((unhide HP).below (unhide HB)).2 (by omega)
      obtain ⟨x0, x1, x2, x3, x4, x5, x6, x7⟩ := hcx k x hx
      have hgz : g < wr.heap.size := (hcx k x hx).lt
      have HX := hide hx
      have hwz := (unhide HB).size
      have hsm := (unhide HSM) x (List.mem_of_getElem? hx)
      have HCC := hide (fun W => cloneCall_any x.call W hsm.1)
      have HCA := hide (fun W => cloneAnswer_any x.code x.ans W hsm.2)
      obtain ⟨xc, xn, ⟨ck, ca, cb, ct⟩, d, u⟩ := x
      dsimp only at *
      obtain ⟨V, hV⟩ : ∃ V, V = wr.alloc (.cells #[.int .i64 xc, .int .i64 xn, .int .i64 ck, .string ca, .string cb, .string ct, .int .i64 d, .string u] 61) := ⟨_, rfl⟩
      have hBV : Below wr.heap.size wr V := by rw [hV]; exact (Below.refl _ _).alloc (Nat.le_refl _) _
      have hRV : V.heap[wr.heap.size]? = some (.cells #[.int .i64 xc, .int .i64 xn, .int .i64 ck, .string ca, .string cb, .string ct, .int .i64 d, .string u] 61 (0, 0)) := by rw [hV]; exact heap_alloc_new _ _
      have hzV : V.heap.size = wr.heap.size + 1 := by rw [hV]; simp
      have HOW := hide ((unhide HO).alloc (.cells #[.int .i64 xc, .int .i64 xn, .int .i64 ck, .string ca, .string cb, .string ct, .int .i64 d, .string u] 61))
      rw [← hV] at HOW
      have HF : Hid (∀ W, Below V.heap.size V W → W.heap[wr.heap.size]? = some (.cells #[.int .i64 xc, .int .i64 xn, .int .i64 ck, .string ca, .string cb, .string ct, .int .i64 d, .string u] 61 (0, 0))) := fun W hW => (hW.block _ (by omega)).trans hRV
      have HBV : Hid (Below w.heap.size w V) := (unhide HB).trans (hBV.mono hwz)
      have HV := hide hV
      clear hx hcx hsm hBV hRV hV
      go_wp2_with fail
      rw [← unhide HV]
      clear x0 x1 x2 x3 x4 x5 x6 x7
      obtain ⟨⟨z0, z1, z2, z3⟩, ⟨z4, z5, z6, z7⟩, zf⟩ := eightK ((unhide HF) V (Below.refl _ _))
      go_region_held3 (fun W => W.cell? ⟨wr.heap.size, 2, none⟩ = some (.int .i64 ck) ∧ W.cell? ⟨wr.heap.size, 3, none⟩ = some (.string ca) ∧ W.cell? ⟨wr.heap.size, 4, none⟩ = some (.string cb) ∧ W.cell? ⟨wr.heap.size, 5, none⟩ = some (.string ct) ∧ W.cell? ⟨wr.heap.size, 6, none⟩ = some (.int .i64 d) ∧ W.cell? ⟨wr.heap.size, 7, none⟩ = some (.string u)) (first | (with_reducible exact six_set7 (six_set6 (by assumption))) | (with_reducible exact six_set5 (six_set4 (six_set3 (six_set2 (by assumption))))) | (go_keep; done)) (first
        | (go_at_call 38; refine ((unhide HCC) _).mono ?_; rintro e w2 ⟨rfl, b2⟩; have bV2 := (below_drew V).trans b2; obtain ⟨⟨p0, p1, p2, p3⟩, ⟨p4, p5, p6, p7⟩, pf⟩ := eightK ((unhide HF) w2 bV2))
        | (go_at_call 39; refine ((unhide HCA) _).mono ?_; rintro e w3 ⟨rfl, b3⟩; have bV3 := bV2.trans (b3.mono bV2.size); obtain ⟨⟨q0, q1, q2, q3⟩, ⟨q4, q5, q6, q7⟩, qf⟩ := eightK ((unhide HF) w3 bV3)))
      all_goals
        have hR3 := (unhide HF) w3 bV3
        have hz3 := bV3.size
        have hR4 := (set_same (j := 7) (x := .string u) (set_same (j := 6) (x := .int .i64 d) (set_same (j := 5) (x := .string ct) (set_same (j := 4) (x := .string cb) (set_same (j := 3) (x := .string ca) (set_same (j := 2) (x := .int .i64 ck) hR3 rfl) rfl) rfl) rfl) rfl) rfl)
        have hB4 : Below w.heap.size w ((((((w3.setCell ⟨wr.heap.size, 2, none⟩ (.int .i64 ck)).setCell ⟨wr.heap.size, 3, none⟩ (.string ca)).setCell ⟨wr.heap.size, 4, none⟩ (.string cb)).setCell ⟨wr.heap.size, 5, none⟩ (.string ct)).setCell ⟨wr.heap.size, 6, none⟩ (.int .i64 d)).setCell ⟨wr.heap.size, 7, none⟩ (.string u)) := (below_set (below_set (below_set (below_set (below_set (below_set ((unhide HBV).trans (bV3.mono (unhide HBV).size)) (by omega)) (by omega)) (by omega)) (by omega)) (by omega)) (by omega))
        have hO4 : ((((((w3.setCell ⟨wr.heap.size, 2, none⟩ (.int .i64 ck)).setCell ⟨wr.heap.size, 3, none⟩ (.string ca)).setCell ⟨wr.heap.size, 4, none⟩ (.string cb)).setCell ⟨wr.heap.size, 5, none⟩ (.string ct)).setCell ⟨wr.heap.size, 6, none⟩ (.int .i64 d)).setCell ⟨wr.heap.size, 7, none⟩ (.string u)).ownsRow w.heap.size 61 8 (.slice (some ⟨g1, 0, none⟩) k c1) k ((done.take k).flatMap rcells) := by
          have hgne : g1 ≠ wr.heap.size := by have := ((unhide HO).lt g1 rfl).2; omega
          have hgl := ((unhide HOW).lt g1 rfl).2
          refine ownsRow_same (unhide HOW) (fun j hj => ?_)
          have : j = g1 := by simpa [Value.ownBlock] using hj.symm
          subst this
          rw [Below.heap_setCell _ _ _ _ (by simp; omega), Below.heap_setCell _ _ _ _ (by simp; omega), Below.heap_setCell _ _ _ _ (by simp; omega), Below.heap_setCell _ _ _ _ (by simp; omega), Below.heap_setCell _ _ _ _ (by simp; omega), Below.heap_setCell _ _ _ _ (by simp; omega)]
          exact bV3.block j hgl
        obtain ⟨W4, hW4⟩ : ∃ W4, W4 = ((((((w3.setCell ⟨wr.heap.size, 2, none⟩ (.int .i64 ck)).setCell ⟨wr.heap.size, 3, none⟩ (.string ca)).setCell ⟨wr.heap.size, 4, none⟩ (.string cb)).setCell ⟨wr.heap.size, 5, none⟩ (.string ct)).setCell ⟨wr.heap.size, 6, none⟩ (.int .i64 d)).setCell ⟨wr.heap.size, 7, none⟩ (.string u)) := ⟨_, rfl⟩
        rw [← hW4] at hR4 hB4 hO4
        rw [← hW4]
        obtain ⟨⟨m0, m1, m2, m3⟩, ⟨m4, m5, m6, m7⟩, mf⟩ := eightK hR4
        have HO4 := hide hO4
        have HB4 := hide hB4
        have hz4 := hB4.size
        clear hR3 hR4 hO4 hB4 hW4 p0 p1 p2 p3 p4 p5 p6 p7 pf q0 q1 q2 q3 q4 q5 q6 q7 qf z0 z1 z2 z3 z4 z5 z6 z7 zf b2 b3 bV2 bV3
        go_wp2_with (first
          | (at_builtin; refine wpList_append_lies _ rfl _ _ 33 rfl w.heap.size 61 i0 _ 8 96 Tryz.underlying33 hi0 hz0 hz1 hz2 rfl (by omega) (.slice (some ⟨g1, 0, none⟩) k c1) k ((done.take k).flatMap rcells) rfl ((unhide HO4).alloc _) ⟨W4.heap.size, 0, none⟩ 1 1 [.int .i64 xc, .int .i64 xn, .int .i64 ck, .string ca, .string cb, .string ct, .int .i64 d, .string u] rfl rfl (World.news_of_block (cs := #[.int .i64 xc, .int .i64 xn, .int .i64 ck, .string ca, .string cb, .string ct, .int .i64 d, .string u]) (t := 61) (fr := (0, 0)) (heap_alloc_new W4 _)) (by simp [Value.oneCell']) (by omega) (by unfold maxLen; omega) (by omega) (by simp; omega) (W4.heap.size + 1) (by simp) ?_; intro g2 c2 w5 hown2 hgrow hat hlt2))
        go_roundw
        case rel =>
          refine ⟨k + 1, by omega, by go_num, ?_, ⟨_, _, rfl⟩, ?_⟩
          · refine ((unhide HB4).alloc hz4 _).grown hgrow (by simp; omega) ?_
            intro j hj
            exact ((unhide HO).lt j hj).1
          · show w5.ownsRow _ _ _ _ _ _
            rw [rtake_snoc done k _ (unhide HX)]
            exact hown2
        case measure => simp [intOf]; omega
    · obtain rfl : k = n := by omega
      have hown := unhide HO
      rw [List.take_of_length_le (by rw [unhide HN]; omega)] at hown
      have HO' := hide hown
      clear hown
      go_wp2
      go_ret
      exact ⟨g1, c1, rfl, unhide HO', unhide HB⟩
structure WOwn where
  S : Nat
  B : Nat
  own : List Nat
  lv : Value
  X : Nat → Nat
  v : Nat → Value
  P : Nat
  pv : Value
def WOwn.part (o : WOwn) (i : Nat) : List Nat := if i = 3 then sown o.S o.own o.lv else if i = 4 then powns o.P o.pv else powns (o.X i) (o.v i)
def WOwn.all (o : WOwn) (W : Nat) : List Nat := W :: (o.part 0 ++ o.part 1 ++ o.part 2 ++ o.part 3 ++ o.part 4)
theorem WOwn.mem_all {o : WOwn} {W b : Nat} : b ∈ o.all W ↔ b = W ∨ ∃ i, i < 5 ∧ b ∈ o.part i := by
  unfold WOwn.all
  simp only [List.mem_cons, List.mem_append]
  constructor
  · rintro (h | ((((h | h) | h) | h) | h))
    · exact .inl h
    · exact .inr ⟨0, by omega, h⟩
    · exact .inr ⟨1, by omega, h⟩
    · exact .inr ⟨2, by omega, h⟩
    · exact .inr ⟨3, by omega, h⟩
    · exact .inr ⟨4, by omega, h⟩
  · rintro (h | ⟨i, hi, h⟩)
    · exact .inl h
    · match i, hi with
      | 0, _ => exact .inr (.inl (.inl (.inl (.inl h))))
      | 1, _ => exact .inr (.inl (.inl (.inl (.inr h))))
      | 2, _ => exact .inr (.inl (.inl (.inr h)))
      | 3, _ => exact .inr (.inl (.inr h))
      | 4, _ => exact .inr (.inr h)
def wcells (o : WOwn) : Array Value := #[.pointer (some ⟨o.S, 0, none⟩), .pointer (some ⟨o.X 0, 0, none⟩), .pointer (some ⟨o.X 1, 0, none⟩), .pointer (some ⟨o.X 2, 0, none⟩), .pointer (some ⟨o.P, 0, none⟩)]
structure WRep (N : Nat) (w : World) (W : Nat) (o : WOwn) (A : AW) : Prop where
  new : N ≤ W
  blk : w.heap[W]? = some (.cells (wcells o) 51 (0, 0))
  s : SRep N w o.S o.B o.own o.lv A.log
  c : ∀ n, n < 3 → KRep N w (o.X n) (o.v n) (A.cl n)
  p : PRep 115 N w o.P o.pv A.ms
  dj : ∀ i j, i < 5 → j < 5 → i ≠ j → ∀ b, b ∈ o.part i → b ∉ o.part j
  nW : ∀ i, i < 5 → W ∉ o.part i
  ss : (logB A.log).length ≤ 2000
theorem next_of {N : Nat} {w w' : World} {o o' : List Nat} (hk : Kept o w w') (hN : N ≤ w.heap.size) (hg : ∀ k, k ∈ o → N ≤ k) (hn : ∀ k, k ∈ o' → k ∈ o ∨ w.heap.size ≤ k) : Next N w w' o o' :=
  ⟨hk.below hN hg, fun b hb h1 => ⟨fun hm => by rcases hn b hm with h2 | h2; exact h1 h2; omega, hk.block b hb h1⟩⟩
section
variable {N : Nat} {w w' w1 w2 : World} {W : Nat} {o o' : WOwn} {A A' B : AW}
theorem WRep.lt (h : WRep N w W o A) : W < w.heap.size := (Array.getElem?_eq_some_iff.1 h.blk).1
theorem WRep.size (h : WRep N w W o A) : N ≤ w.heap.size := by have := h.lt; have := h.new; omega
theorem WRep.ge (h : WRep N w W o A) {i : Nat} (hi : i < 5) : ∀ k, k ∈ o.part i → N ≤ k ∧ k < w.heap.size := fun k hk => by
  match i, hi with
  | 0, _ => exact (h.c 0 (by omega)).o.ge k hk
  | 1, _ => exact (h.c 1 (by omega)).o.ge k hk
  | 2, _ => exact (h.c 2 (by omega)).o.ge k hk
  | 3, _ => exact sown_ge h.s k hk
  | 4, _ => exact h.p.ge k hk
theorem WRep.all_ge (h : WRep N w W o A) : ∀ k, k ∈ o.all W → N ≤ k ∧ k < w.heap.size := fun k hk => by
  rcases WOwn.mem_all.1 hk with rfl | ⟨i, hi, hk⟩
  · exact ⟨h.new, h.lt⟩
  · exact h.ge hi k hk
theorem WRep.below (h : WRep N w W o A) (hb : Below w.heap.size w w') : WRep N w' W o A :=
  ⟨h.new, (hb.block W h.lt).trans h.blk, h.s.below hb, fun n hn => (h.c n hn).below hb, h.p.below hb, h.dj, h.nW, h.ss⟩
theorem part_client (o : WOwn) {n : Nat} (hn : n < 3) : o.part n = powns (o.X n) (o.v n) := by unfold WOwn.part; rw [if_neg (by omega), if_neg (by omega)]
theorem KRep.kept {X : Nat} {v : Value} {c : ACli} {ow : List Nat} (h : KRep N w X v c) (hk : Kept ow w w') (hd : ∀ k, k ∈ powns X v → k ∉ ow) : KRep N w' X v c := ⟨h.o.kept hk hd, h.ok⟩
theorem WRep.kept {ow : List Nat} (h : WRep N w W o A) (hk : Kept ow w w') (hd : ∀ k, k ∈ o.all W → k ∉ ow) : WRep N w' W o A := by
  have hp : ∀ i, i < 5 → ∀ k, k ∈ o.part i → k ∉ ow := fun i hi k hm => hd k (WOwn.mem_all.2 (.inr ⟨i, hi, hm⟩))
  exact ⟨h.new, (hk.block W h.lt (hd W (WOwn.mem_all.2 (.inl rfl)))).trans h.blk, h.s.kept hk (hp 3 (by omega)), fun n hn => (h.c n hn).kept hk (fun k hm => hp n (by omega) k (by rw [part_client o hn]; exact hm)), h.p.kept hk (hp 4 (by omega)), h.dj, h.nW, h.ss⟩
def WTurn (N : Nat) (w : World) (W : Nat) (o : WOwn) (w' : World) (A' : AW) : Prop := ∃ o', WRep N w' W o' A' ∧ Next N w w' (o.all W) (o'.all W)
theorem WTurn.of_below (h : WRep N w W o A) (hb : Below w.heap.size w w') : WTurn N w W o w' A := ⟨o, h.below hb, Next.of_below _ hb h.size⟩
theorem WTurn.before (hb : Below w.heap.size w w1) (hN : N ≤ w.heap.size) (h : WTurn N w1 W o w' A') : WTurn N w W o w' A' := by
  obtain ⟨o', h1, h2⟩ := h
  exact ⟨o', h1, (Next.of_below _ hb hN).trans h2⟩
theorem WTurn.below (hT : WTurn N w W o w' A') : Below N w w' := by
  obtain ⟨o', k1, k2⟩ := hT
  exact k2.below
theorem WRep.turn (h : WRep N w W o A) {i : Nat} (hi : i < 5) (hN : Next N w w' (o.part i) (o'.part i)) (hoff : ∀ j, j < 5 → j ≠ i → o'.part j = o.part j) (hcl : wcells o' = wcells o)
    (hs : SRep N w' o'.S o'.B o'.own o'.lv A'.log) (hc : ∀ n, n < 3 → KRep N w' (o'.X n) (o'.v n) (A'.cl n)) (hp : PRep 115 N w' o'.P o'.pv A'.ms) (hss : (logB A'.log).length ≤ 2000) : WTurn N w W o w' A' := by
  have hst : ∀ b, b < w.heap.size → b ∉ o.part i → b ∉ o'.part i := fun b h1 h2 => (hN.keep b h1 h2).1
  refine ⟨o', ⟨h.new, (hN.keep W h.lt (h.nW i hi)).2.trans (by rw [hcl]; exact h.blk), hs, hc, hp, fun a b ha hb hab x hx hy => ?_, fun j hj hm => ?_, hss⟩, hN.below, fun b hb hn => ⟨fun hm => ?_, ?_⟩⟩
  · by_cases ea : a = i
    · have eb : b ≠ i := fun e => hab (ea.trans e.symm)
      rw [hoff b hb eb] at hy
      have hlt := (h.ge hb x hy).2
      rw [ea] at hx
      exact hst x hlt (fun hm => h.dj i b hi hb (fun e => eb e.symm) x hm hy) hx
    · rw [hoff a ha ea] at hx
      by_cases eb : b = i
      · rw [eb] at hy
        exact hst x (h.ge ha x hx).2 (fun hm => h.dj a i ha hi ea x hx hm) hy
      · rw [hoff b hb eb] at hy
        exact h.dj a b ha hb hab x hx hy
  · by_cases e : j = i
    · rw [e] at hm; exact hst W h.lt (h.nW i hi) hm
    · rw [hoff j hj e] at hm; exact h.nW j hj hm
  · rcases WOwn.mem_all.1 hm with rfl | ⟨j, hj, hm⟩
    · exact hn (WOwn.mem_all.2 (.inl rfl))
    · by_cases e : j = i
      · rw [e] at hm
        exact hst b hb (fun hm' => hn (WOwn.mem_all.2 (.inr ⟨i, hi, hm'⟩))) hm
      · rw [hoff j hj e] at hm
        exact hn (WOwn.mem_all.2 (.inr ⟨j, hj, hm⟩))
  · exact (hN.keep b hb (fun hm' => hn (WOwn.mem_all.2 (.inr ⟨i, hi, hm'⟩)))).2
theorem WRep.rest (h : WRep N w W o A) {i : Nat} (hi : i < 5) {p' : List Nat} (hN : Next N w w' (o.part i) p') : (i ≠ 3 → SRep N w' o.S o.B o.own o.lv A.log) ∧ (∀ n, n < 3 → n ≠ i → KRep N w' (o.X n) (o.v n) (A.cl n)) ∧ (i ≠ 4 → PRep 115 N w' o.P o.pv A.ms) := by
  refine ⟨fun e => h.s.kept hN.kept (h.dj 3 i (by omega) hi (fun h => e h.symm)), fun n hn e => (h.c n hn).kept hN.kept (fun k hm => h.dj n i (by omega) hi e k (by rw [part_client o hn]; exact hm)), fun e => h.p.kept hN.kept (h.dj 4 i (by omega) hi (fun h => e h.symm))⟩
theorem WRep.turnS (h : WRep N w W o A) {L' : List ARec} (hT : STurned N w o.S o.own o.lv w' L') (hs : (logB L').length ≤ 2000) : WTurn N w W o w' ⟨L', A.cl, A.ms⟩ := by
  obtain ⟨B', own', lv', hr, hn⟩ := hT
  obtain ⟨_, r2, r3⟩ := h.rest (i := 3) (by omega) hn
  exact h.turn (o' := ⟨o.S, B', own', lv', o.X, o.v, o.P, o.pv⟩) (i := 3) (by omega) hn (fun j hj e => by unfold WOwn.part; rw [if_neg e, if_neg e]) rfl hr (fun n hn => r2 n hn (by omega)) (r3 (by omega)) hs
theorem WRep.turnP (h : WRep N w W o A) {ms' : List APkt} (hT : PTurn 115 N w o.P o.pv w' ms') : WTurn N w W o w' ⟨A.log, A.cl, ms'⟩ := by
  obtain ⟨pv', hr, hk, hn⟩ := hT
  have hn' : Next N w w' (o.part 4) (powns o.P pv') := next_of hk h.size (fun k hk => (h.ge (i := 4) (by omega) k hk).1) hn
  obtain ⟨r1, r2, _⟩ := h.rest (i := 4) (by omega) hn'
  exact h.turn (o' := ⟨o.S, o.B, o.own, o.lv, o.X, o.v, o.P, pv'⟩) (i := 4) (by omega) hn' (fun j hj e => by unfold WOwn.part; rw [if_neg e, if_neg e]) rfl (r1 (by omega)) (fun n hn => r2 n hn (by omega)) hr h.ss
def updV (f : Nat → Value) (n : Nat) (c : Value) : Nat → Value := fun k => if k = n then c else f k
theorem WRep.turnC (h : WRep N w W o A) {n : Nat} (hn : n < 3) {c' : ACli} (hT : KTurn N w (o.X n) (o.v n) w' c') (hc : COk c') : WTurn N w W o w' ⟨A.log, upd A.cl n c', A.ms⟩ := by
  obtain ⟨v', hr, hk, hg⟩ := hT
  have hp := part_client o hn
  have e1 : updV o.v n v' n = v' := by simp [updV]
  have e2 : ∀ m, m ≠ n → updV o.v n v' m = o.v m := fun m hm => by simp [updV, hm]
  have hn' : Next N w w' (o.part n) (powns (o.X n) v') := by rw [hp]; exact next_of hk h.size (fun k hk => (h.ge (i := n) (by omega) k (by rw [hp]; exact hk)).1) hg
  obtain ⟨r1, r2, r3⟩ := h.rest (i := n) (by omega) hn'
  refine h.turn (o' := ⟨o.S, o.B, o.own, o.lv, o.X, updV o.v n v', o.P, o.pv⟩) (i := n) (by omega) ?_ (fun j hj e => ?_) rfl (r1 (by omega)) (fun m hm => ?_) (r3 (by omega)) h.ss
  · rw [part_client (⟨o.S, o.B, o.own, o.lv, o.X, updV o.v n v', o.P, o.pv⟩ : WOwn) hn]
    show Next N w w' (o.part n) (powns (o.X n) (updV o.v n v' n))
    rw [e1]; exact hn'
  · unfold WOwn.part; dsimp only; rw [e2 j e]
  · dsimp only
    by_cases e : m = n
    · subst e; rw [e1, upd_at]; exact ⟨hr, hc⟩
    · rw [e2 m e, upd_off _ _ e]; exact r2 m hm e
theorem WRep.cells (h : WRep N w W o A) : (w.cell? ⟨W, 0, none⟩ = some (.pointer (some ⟨o.S, 0, none⟩)) ∧ w.cell? ⟨W, 1, none⟩ = some (.pointer (some ⟨o.X 0, 0, none⟩)) ∧ w.cell? ⟨W, 2, none⟩ = some (.pointer (some ⟨o.X 1, 0, none⟩)) ∧ w.cell? ⟨W, 3, none⟩ = some (.pointer (some ⟨o.X 2, 0, none⟩)) ∧ w.cell? ⟨W, 4, none⟩ = some (.pointer (some ⟨o.P, 0, none⟩))) ∧ ∀ n, n < 3 → w.cell? ⟨W, 1 + n, none⟩ = some (.pointer (some ⟨o.X n, 0, none⟩)) := by
  have hb := h.blk
  unfold wcells at hb
  have k : ∀ j, w.cell? ⟨W, j, none⟩ = _ := fun j => cell_of_row w W j _ _ _ hb
  refine ⟨⟨k 0, k 1, k 2, k 3, k 4⟩, fun n hn => ?_⟩
  match n, hn with
  | 0, _ => exact k 1
  | 1, _ => exact k 2
  | 2, _ => exact k 3
end
variable {F : Value → Array Value} {tyH : TypeId}
structure CRepH (F : Value → Array Value) (tyH : TypeId) (w : World) (N K : Nat) (rv : Value) (L : List ARec) : Prop where
  new : N ≤ K
  blk : w.heap[K]? = some (.cells (F rv) tyH (0, 0))
  row : w.ownsRow N 61 8 rv L.length (L.flatMap rcells)
  nd : rv.ownBlock ≠ some K
  hold : ∀ v u, (F v)[0]? = some v ∧ (F v).setIfInBounds 0 u = F u
theorem CRepH.ltK {w : World} {N K : Nat} {rv : Value} {L : List ARec} (h : CRepH F tyH w N K rv L) : K < w.heap.size := (Array.getElem?_eq_some_iff.1 h.blk).1
theorem CRepH.can {w : World} {N K : Nat} {rv : Value} {L : List ARec} (h : CRepH F tyH w N K rv L) : Can w K 0 rv := ⟨by simp [World.cell?, h.blk, (h.hold rv rv).1], by simp [World.frozen?, h.blk]⟩
theorem CRepH.kept {w w' : World} {N K : Nat} {rv : Value} {L : List ARec} {own : List Nat} (h : CRepH F tyH w N K rv L) (hk : Kept own w w') (hK : K ∉ own) (hv : ∀ k, rv.ownBlock = some k → k ∉ own) : CRepH F tyH w' N K rv L :=
  ⟨h.new, by rw [hk.block K h.ltK hK]; exact h.blk, ownsRow_same h.row fun k e => hk.block k (h.row.lt k e).2 (hv k e), h.nd, h.hold⟩
theorem CRepH.below {w w' : World} {N K : Nat} {rv : Value} {L : List ARec} (h : CRepH F tyH w N K rv L) (hb : Below w.heap.size w w') : CRepH F tyH w' N K rv L :=
  h.kept (own := []) (Kept.of_below hb) (by simp) (by simp)
set_option maxRecDepth 100000 in
set_option maxHeartbeats 4000000 in
theorem Bytes_anyH (N K : Nat) (rv : Value) (L : List ARec) (w : World) (h : CRepH F tyH w N K rv L) (hg : Good L) (hs : (logB L).length ≤ 100000) (hn : L.length ≤ 100000) :
    Calls Tryz.prog 19 #[.pointer (some ⟨K, 0, none⟩)] w fun e w' => ∃ a c, e = .returned (.slice a (logB L).length c) ∧ BRow w' w.heap.size (.slice a (logB L).length c) (logB L) ∧ Below w.heap.size w w' := by
  obtain ⟨n, hnl⟩ : ∃ n, L.length = n := ⟨_, rfl⟩
  obtain ⟨ra, rcap, rfl⟩ := row_form h.row
  have HL := hide (recs_row h.row rfl)
  have hcan := h.can.1
  have hKl := h.ltK
  rw [hnl] at hcan hn HL
  have HNL := hide hnl
  have HG := hide hg
  have HLE := hide (fun k => Nat.le_trans (logB_take_le L k) hs)
  have HE : Hid (∀ r, r ∈ L → ∀ W n E, encL r = E → E.length = n → Calls Tryz.prog 41 #[r.val] W fun e w' => ∃ g cap, e = .returned (.slice (some ⟨g, 0, none⟩) n cap) ∧ BRow w' W.heap.size (.slice (some ⟨g, 0, none⟩) n cap) E ∧ Below W.heap.size W w') := fun r hr W n E h1 h2 => BytesOf_any r W n E h1 h2 (hg r hr)
  clear h hg hs hnl
  go_enter Tryz.func19, Tryz.ntmps19
  go_wp2
  go_loopw [3, 4] (fun v i wr => ∃ (k nb : Nat) (a1 : Option Addr) (c1 : Nat), k ≤ n ∧ i = .int .i64 (k : Int) ∧ v = .slice a1 nb c1 ∧ Hid ((logB (L.take k)).length = nb) ∧ Hid (BRow wr w.heap.size (.slice a1 nb c1) (logB (L.take k))) ∧ Hid (Below w.heap.size w wr)) (fun _ i _ => n - (intOf i).toNat)
  case atStart => exact ⟨0, 0, none, 0, Nat.zero_le _, rfl, rfl, hide (by simp [logB]), BRow.nil _ _, Below.refl _ _⟩
  case round =>
    obtain ⟨k, nb, a1, c1, hk, rfl, rfl, HNB, HO, HB⟩ := hrel
    have hcan2 := ((unhide HB).cell (p := ⟨K, 0, none⟩) hKl).trans hcan
    by_cases hlt : (k : Int) < (n : Int)
    · obtain ⟨r, hr⟩ : ∃ r, L[k]? = some r := ⟨_, List.getElem?_eq_getElem (by rw [(unhide HL).1]; omega)⟩
      obtain ⟨b, off, rfl, hx⟩ := ((unhide HL).below (unhide HB)).2 (by omega)
      obtain ⟨x0, x1, x2, x3, x4, x5, x6, x7⟩ := hx k r hr
      obtain ⟨E, hE⟩ : ∃ E, encL r = E := ⟨_, rfl⟩
      obtain ⟨m, hm⟩ : ∃ m, E.length = m := ⟨_, rfl⟩
      have HBY := hide ((unhide HE) r (List.mem_of_getElem? hr) wr m E hE hm)
      have HT : Hid (logB (L.take (k + 1)) = logB (L.take k) ++ E) := by show _ = _; rw [List.take_add_one, hr, ← hE]; exact logB_snoc _ _
      have hnb2 : nb + m ≤ 100000 := by
        have := (unhide HLE) (k + 1)
        rw [unhide HT, List.length_append, unhide HNB, hm] at this
        exact this
      clear hx hr hE
      obtain ⟨rc, rn, ⟨rk, rra, rb, rt⟩, rd, ru⟩ := r
      dsimp only [ARec.val] at *
      go_wp2_with fail
      refine (unhide HBY).mono ?_
      rintro e w2 ⟨gx, cx, rfl, ox, b2⟩
      have HX := hide ox
      have HO2 := hide ((unhide HO).below b2)
      have HB2 := hide ((unhide HB).trans (b2.mono (unhide HB).size))
      have hnb := unhide HNB
      clear ox b2 x0 x1 x2 x3 x4 x5 x6 x7
      go_wp2_with (at_builtin; refine wpList_bytes _ rfl _ _ rfl w.heap.size (.slice a1 nb c1) (logB (L.take k)) rfl (unhide HO2) (.slice (some ⟨gx, 0, none⟩) m cx) m E rfl hm (unhide HX).lies (by rw [hnb]; omega) (unhide HB2).size ?_; intro ad3 c3 w3 ho3 hg3; rw [hnb, ← unhide HT] at ho3)
      have HB3 := hide ((unhide HB2).grown hg3 (unhide HB2).size (fun j hj => ((unhide HO2).lt j hj).1))
      have HO3 := hide ho3
      clear ho3 hg3
      go_roundw
      case rel => exact ⟨k + 1, nb + m, ad3, c3, by omega, by go_num, rfl, hide (by rw [unhide HT, List.length_append, hnb, hm]), unhide HO3, unhide HB3⟩
      case measure => simp [intOf]; omega
    · obtain rfl : k = n := by omega
      have hfull : L.take k = L := List.take_of_length_le (by rw [(unhide HL).1]; omega)
      rw [hfull] at HO HNB
      clear hfull
      go_wp2
      go_ret
      exact ⟨a1, c1, by rw [unhide HNB]; rfl, by rw [unhide HNB]; exact unhide HO, unhide HB⟩
set_option maxRecDepth 100000 in
set_option maxHeartbeats 4000000 in
theorem CLast_anyH (N K : Nat) (rv : Value) (L : List ARec) (c : Int) (w : World) (h : CRepH F tyH w N K rv L) (hn : L.length ≤ 100000) :
    Calls Tryz.prog 103 #[.pointer (some ⟨K, 0, none⟩), .int .i64 c] w fun e w' => e = .returned (.tuple #[(lastR L c).val, .bool (hasR L c)]) ∧ Below w.heap.size w w' := by
  obtain ⟨n, hnl⟩ : ∃ n, L.length = n := ⟨_, rfl⟩
  obtain ⟨ra, rcap, rfl⟩ := row_form h.row
  have HL := hide (recs_row h.row rfl)
  have hcan := h.can.1
  have hKl := h.ltK
  rw [hnl] at hcan hn HL
  have HAT := hide (fun k r h1 h2 h3 => lastR_at L c k r h1 h2 h3)
  have HYES := hide (fun k r (h1 : L[k]? = some r) h2 => hasR_yes (c := c) h1 h2)
  have HNO := hide (hasR_no (L := L) (c := c))
  obtain ⟨lr, hlr⟩ : ∃ r, r = lastR L c := ⟨_, rfl⟩
  obtain ⟨hr, hhr⟩ : ∃ r, r = hasR L c := ⟨_, rfl⟩
  rw [← hlr] at HAT HNO ⊢
  rw [← hhr] at HYES HNO ⊢
  have HR0 : Hid ((w.alloc (.cells #[.int .i64 0, .int .i64 0, .int .i64 0, .string ⟨#[]⟩, .string ⟨#[]⟩, .string ⟨#[]⟩, .int .i64 0, .string ⟨#[]⟩] 61)).heap[w.heap.size]? = some (.cells #[.int .i64 0, .int .i64 0, .int .i64 0, .string ⟨#[]⟩, .string ⟨#[]⟩, .string ⟨#[]⟩, .int .i64 0, .string ⟨#[]⟩] 61 (0, 0))) := heap_alloc_new w _
  have HB0 := hide ((Below.refl w.heap.size w).alloc (Nat.le_refl _) (.cells #[.int .i64 0, .int .i64 0, .int .i64 0, .string ⟨#[]⟩, .string ⟨#[]⟩, .string ⟨#[]⟩, .int .i64 0, .string ⟨#[]⟩] 61))
  obtain ⟨W0, hW0⟩ : ∃ W0, W0 = w.alloc (.cells #[.int .i64 0, .int .i64 0, .int .i64 0, .string ⟨#[]⟩, .string ⟨#[]⟩, .string ⟨#[]⟩, .int .i64 0, .string ⟨#[]⟩] 61) := ⟨_, rfl⟩
  rw [← hW0] at HR0 HB0
  clear h hlr hhr hnl
  go_enter Tryz.func103, Tryz.ntmps103
  go_wp2
  rw [← hW0]
  clear hW0
  go_loopw [6] (fun i wr => ∃ k : Nat, k ≤ n ∧ i = .int .i64 ((k : Int) - 1) ∧ wr = W0 ∧ Hid (∀ (j : Nat) (q : ARec), k ≤ j → L[j]? = some q → q.client ≠ c)) (fun i _ => (intOf i + 1).toNat)
  case atStart => exact ⟨n, Nat.le_refl _, rfl, rfl, hide (fun j q hj hq => by have := (List.getElem?_eq_some_iff.1 hq).1; rw [(unhide HL).1] at this; omega)⟩
  case round =>
    obtain ⟨k, hk, rfl, rfl, HJ⟩ := hrel
    have hcan2 := ((unhide HB0).cell (p := ⟨K, 0, none⟩) hKl).trans hcan
    by_cases hk0 : k = 0
    · subst hk0
      have HE := hide ((unhide HNO) (fun j q hq => (unhide HJ) j q (Nat.zero_le _) hq))
      obtain ⟨⟨z0, z1, z2, z3⟩, ⟨z4, z5, z6, z7⟩, fz⟩ := eight (unhide HR0)
      have hzz : w.heap.size < wr.heap.size := (Array.getElem?_eq_some_iff.1 (unhide HR0)).1
      go_wp2
      have hb8 := set8_blk (unhide HR0) (.int .i64 0) (.int .i64 0) (.int .i64 0) (.string ⟨#[]⟩) (.string ⟨#[]⟩) (.string ⟨#[]⟩) (.int .i64 0) (.string ⟨#[]⟩)
      have hk8 := set8_kept wr w.heap.size (.int .i64 0) (.int .i64 0) (.int .i64 0) (.string ⟨#[]⟩) (.string ⟨#[]⟩) (.string ⟨#[]⟩) (.int .i64 0) (.string ⟨#[]⟩)
      unfold set8 at hb8 hk8
      generalize hw8 : ((((((((wr.setCell ⟨w.heap.size, 0, none⟩ (.int .i64 0)).setCell ⟨w.heap.size, 1, none⟩ (.int .i64 0)).setCell ⟨w.heap.size, 2, none⟩ (.int .i64 0)).setCell ⟨w.heap.size, 3, none⟩ (.string ⟨#[]⟩)).setCell ⟨w.heap.size, 4, none⟩ (.string ⟨#[]⟩)).setCell ⟨w.heap.size, 5, none⟩ (.string ⟨#[]⟩)).setCell ⟨w.heap.size, 6, none⟩ (.int .i64 0)).setCell ⟨w.heap.size, 7, none⟩ (.string ⟨#[]⟩)) = w8 at hb8 hk8 ⊢
      obtain ⟨⟨q0, q1, q2, q3⟩, ⟨q4, q5, q6, q7⟩, _⟩ := eight hb8
      have bel : Below w.heap.size w w8 := (unhide HB0).trans (hk8.below (by have := (unhide HB0).size; omega) (by simp))
      refine bodyPost_ret (v := .tuple #[.agg #[.int .i64 0, .int .i64 0, .int .i64 0, .string ⟨#[]⟩, .string ⟨#[]⟩, .string ⟨#[]⟩, .int .i64 0, .string ⟨#[]⟩], .bool false]) (by simp [results, Tryz.results103, go_sem, q0, q1, q2, q3, q4, q5, q6, q7]) rfl ?_
      rw [(unhide HE).1, (unhide HE).2]
      exact ⟨rfl, bel⟩
    · obtain ⟨m, rfl⟩ : ∃ m, k = m + 1 := ⟨k - 1, by omega⟩
      have hm1 : (((m + 1 : Nat) : Int) - 1) = (m : Int) := by omega
      rw [hm1]
      have hmn : (m : Int) < (n : Int) := by omega
      obtain ⟨r, hr'⟩ : ∃ r, L[m]? = some r := ⟨_, List.getElem?_eq_getElem (by rw [(unhide HL).1]; omega)⟩
      obtain ⟨b, off, rfl, hx⟩ := ((unhide HL).below (unhide HB0)).2 (by omega)
      have hbl := (hx m r hr').lt
      obtain ⟨x0, x1, x2, x3, x4, x5, x6, x7⟩ := hx m r hr'
      have HRR := hide hr'
      clear hx hr' hm1
      by_cases hc : r.client = c
      · have HE1 := hide ((unhide HAT) m r (unhide HRR) hc (fun j q hj hq => (unhide HJ) j q (by omega) hq))
        have HE2 := hide ((unhide HYES) m r (unhide HRR) hc)
        have hbn : b ≠ w.heap.size := by
          obtain ⟨b', o', e, hx'⟩ := (unhide HL).2 (by omega)
          cases e
          have := (hx' m r (unhide HRR)).lt
          omega
        clear HRR
        obtain ⟨rc, rn, ⟨rk, ra, rb, rt⟩, rd, ru⟩ := r
        dsimp only at *
        subst hc
        obtain ⟨⟨z0, z1, z2, z3⟩, ⟨z4, z5, z6, z7⟩, fz⟩ := eight (unhide HR0)
        have hzz : w.heap.size < wr.heap.size := (Array.getElem?_eq_some_iff.1 (unhide HR0)).1
        go_wp2
        have hb8 := set8_blk (unhide HR0) (.int .i64 rc) (.int .i64 rn) (.int .i64 rk) (.string ra) (.string rb) (.string rt) (.int .i64 rd) (.string ru)
        have hk8 := set8_kept wr w.heap.size (.int .i64 rc) (.int .i64 rn) (.int .i64 rk) (.string ra) (.string rb) (.string rt) (.int .i64 rd) (.string ru)
        unfold set8 at hb8 hk8
        generalize hw8 : ((((((((wr.setCell ⟨w.heap.size, 0, none⟩ (.int .i64 rc)).setCell ⟨w.heap.size, 1, none⟩ (.int .i64 rn)).setCell ⟨w.heap.size, 2, none⟩ (.int .i64 rk)).setCell ⟨w.heap.size, 3, none⟩ (.string ra)).setCell ⟨w.heap.size, 4, none⟩ (.string rb)).setCell ⟨w.heap.size, 5, none⟩ (.string rt)).setCell ⟨w.heap.size, 6, none⟩ (.int .i64 rd)).setCell ⟨w.heap.size, 7, none⟩ (.string ru)) = w8 at hb8 hk8 ⊢
        obtain ⟨⟨q0, q1, q2, q3⟩, ⟨q4, q5, q6, q7⟩, _⟩ := eight hb8
        have bel : Below w.heap.size w w8 := (unhide HB0).trans (hk8.below (by have := (unhide HB0).size; omega) (by simp))
        refine bodyPost_ret (v := .tuple #[.agg #[.int .i64 rc, .int .i64 rn, .int .i64 rk, .string ra, .string rb, .string rt, .int .i64 rd, .string ru], .bool true]) (by simp [results, Tryz.results103, go_sem, q0, q1, q2, q3, q4, q5, q6, q7]) rfl ?_
        rw [HE1.out, HE2.out]
        exact ⟨rfl, bel⟩
      · have hcb : (r.client == c) = false := by simpa using hc
        go_wp2
        go_roundw
        case rel => exact ⟨m, by omega, by first | rfl | go_num, by trivial, hide (fun j q hj hq => by
          by_cases h1 : j = m
          · subst h1
            rw [unhide HRR] at hq
            cases hq
            exact hc
          · exact (unhide HJ) j q (by omega) hq)⟩
        case measure => simp [intOf]
variable {F : Value → Array Value} {tyH : TypeId}
def CTurnedH (F : Value → Array Value) (tyH : TypeId) (w : World) (N K : Nat) (rv : Value) (w' : World) (L' : List ARec) : Prop :=
  ∃ rv', CRepH F tyH w' N K rv' L' ∧ Kept (K :: rv.ownBlock.toList) w w' ∧ ∀ k, rv'.ownBlock = some k → rv.ownBlock = some k ∨ w.heap.size ≤ k
theorem CTurnedH.of_below {w w' : World} {N K : Nat} {rv : Value} {L : List ARec} (h : CRepH F tyH w N K rv L) (hb : Below w.heap.size w w') : CTurnedH F tyH w N K rv w' L :=
  ⟨rv, h.below hb, Kept.of_below hb, fun k hk => .inl hk⟩
def CCResH (F : Value → Array Value) (tyH : TypeId) (w : World) (N K : Nat) (rv : Value) (L : List ARec) (R : CRes) (e : Ending) (w' : World) : Prop :=
  e = .returned (.tuple #[.agg #[.int .i64 R.code, .string R.text], .int .i64 (((logB R.log).length : Int) - ((logB L).length : Int)), .int .i64 R.err]) ∧ CTurnedH F tyH w N K rv w' R.log
theorem CCResH.stay {w w' : World} {N K : Nat} {rv : Value} {L : List ARec} (h : CRepH F tyH w N K rv L) (hb : Below w.heap.size w w') (code : Int) (text : ByteArray) (err : Int) :
    CCResH F tyH w N K rv L ⟨code, text, err, L⟩ (.returned (.tuple #[.agg #[.int .i64 code, .string text], .int .i64 0, .int .i64 err])) w' :=
  ⟨by rw [Int.sub_self], CTurnedH.of_below h hb⟩
set_option maxRecDepth 100000 in
set_option maxHeartbeats 4000000 in
theorem CCall_rangeH (N K : Nat) (rv : Value) (L : List ARec) (client no k : Int) (a b t : ByteArray) (w : World) (h : CRepH F tyH w N K rv L) (hr : client < 0 ∨ 2 < client ∨ no < 1 ∨ 200 < no) :
    Calls Tryz.prog 78 #[.pointer (some ⟨K, 0, none⟩), .int .i64 client, .int .i64 no, .agg #[.int .i64 k, .string a, .string b, .string t]] w (CCResH F tyH w N K rv L (aCall L client no ⟨k, a, b, t⟩)) := by
  rw [aCall, if_pos hr]
  have HST := hide (fun w' hb => CCResH.stay (w' := w') h hb 0 ⟨#[]⟩ 9)
  have HBL := hide (((Below.refl w.heap.size w).alloc (Nat.le_refl _) (.cells #[.int .i64 k, .string a, .string b, .string t] 32)).alloc (by simp) (.cells #[.int .i64 0, .string ⟨#[]⟩] 59))
  clear h
  by_cases q1 : client < 0
  · go_enter Tryz.func78, Tryz.ntmps78
    go_wp2
    refine bodyPost_ret (v := .tuple #[.agg #[.int .i64 0, .string ⟨#[]⟩], .int .i64 0, .int .i64 9]) (by simp [results, Tryz.results78, go_sem]) rfl ?_
    exact (unhide HST) _ (unhide HBL)
  by_cases q2 : 3 ≤ client
  · go_enter Tryz.func78, Tryz.ntmps78
    go_wp2
    refine bodyPost_ret (v := .tuple #[.agg #[.int .i64 0, .string ⟨#[]⟩], .int .i64 0, .int .i64 9]) (by simp [results, Tryz.results78, go_sem]) rfl ?_
    exact (unhide HST) _ (unhide HBL)
  by_cases q3 : no < 1
  · go_enter Tryz.func78, Tryz.ntmps78
    go_wp2
    refine bodyPost_ret (v := .tuple #[.agg #[.int .i64 0, .string ⟨#[]⟩], .int .i64 0, .int .i64 9]) (by simp [results, Tryz.results78, go_sem]) rfl ?_
    exact (unhide HST) _ (unhide HBL)
  have q4 : 200 < no := by omega
  go_enter Tryz.func78, Tryz.ntmps78
  go_wp2
  refine bodyPost_ret (v := .tuple #[.agg #[.int .i64 0, .string ⟨#[]⟩], .int .i64 0, .int .i64 9]) (by simp [results, Tryz.results78, go_sem]) rfl ?_
  exact (unhide HST) _ (unhide HBL)
set_option maxRecDepth 100000 in
set_option maxHeartbeats 4000000 in
theorem CCall_codeH (N K : Nat) (rv : Value) (L : List ARec) (client no k : Int) (a b t : ByteArray) (w : World) (h : CRepH F tyH w N K rv L) (hr : ¬ (client < 0 ∨ 2 < client ∨ no < 1 ∨ 200 < no)) (hc : checkI ⟨k, a, b, t⟩ ≠ 0) (ha : a.size ≤ maxLen) (hb : b.size ≤ maxLen) (ht : t.size ≤ maxLen) :
    Calls Tryz.prog 78 #[.pointer (some ⟨K, 0, none⟩), .int .i64 client, .int .i64 no, .agg #[.int .i64 k, .string a, .string b, .string t]] w (CCResH F tyH w N K rv L (aCall L client no ⟨k, a, b, t⟩)) := by
  rw [aCall, if_neg hr, if_pos hc]
  have HCF := hide (fun W => CallFault_any k a b t W ha hb ht)
  generalize checkI ⟨k, a, b, t⟩ = code at hc HCF ⊢
  have HST := hide (fun w' hb => CCResH.stay (w' := w') h hb 0 ⟨#[]⟩ code)
  have HBL := hide (((Below.refl w.heap.size w).alloc (Nat.le_refl _) (.cells #[.int .i64 k, .string a, .string b, .string t] 32)).alloc (by simp) (.cells #[.int .i64 0, .string ⟨#[]⟩] 59))
  have q1 : ¬ (client < 0) := by omega
  have q2 : ¬ (3 ≤ client) := by omega
  have q3 : ¬ (no < 1) := by omega
  have q4 : ¬ (200 < no) := by omega
  have hA : ((w.alloc (.cells #[.int .i64 k, .string a, .string b, .string t] 32)).alloc (.cells #[.int .i64 0, .string ⟨#[]⟩] 59)).heap[w.heap.size + 1]? = some (.cells #[.int .i64 0, .string ⟨#[]⟩] 59 (0, 0)) := by
    have h := heap_alloc_new (w.alloc (.cells #[.int .i64 k, .string a, .string b, .string t] 32)) (.cells #[.int .i64 0, .string ⟨#[]⟩] 59)
    rw [show (w.alloc (.cells #[.int .i64 k, .string a, .string b, .string t] 32)).heap.size = w.heap.size + 1 by simp] at h
    exact h
  have HA := hide hA
  clear h hA hr
  go_enter Tryz.func78, Tryz.ntmps78
  go_wp2_with fail
  refine ((unhide HCF) _).mono ?_
  rintro e w1 ⟨rfl, b1⟩
  have HB1 := hide ((unhide HBL).trans (b1.mono (by simp; omega)))
  have HA1 := hide ((b1.block (w.heap.size + 1) (by simp)).trans (unhide HA))
  obtain ⟨⟨z0, z1⟩, fz⟩ := two (unhide HA1)
  have hzz : w.heap.size + 1 < w1.heap.size := (Array.getElem?_eq_some_iff.1 (unhide HA1)).1
  clear b1
  go_wp2
  have hb2 := set2_blk (unhide HA1) (.int .i64 0) (.string ⟨#[]⟩)
  have hk2 := set2_kept w1 (w.heap.size + 1) (.int .i64 0) (.string ⟨#[]⟩)
  unfold set2 at hb2 hk2
  generalize hw8 : ((w1.setCell ⟨w.heap.size + 1, 0, none⟩ (.int .i64 0)).setCell ⟨w.heap.size + 1, 1, none⟩ (.string ⟨#[]⟩)) = w8 at hb2 hk2 ⊢
  obtain ⟨⟨q0, q1'⟩, _⟩ := two hb2
  have bel : Below w.heap.size w w8 := (unhide HB1).trans (hk2.below (unhide HB1).size (by simp))
  refine bodyPost_ret (v := .tuple #[.agg #[.int .i64 0, .string ⟨#[]⟩], .int .i64 0, .int .i64 code]) (by simp [results, Tryz.results78, go_sem, q0, q1']) rfl ?_
  exact (unhide HST) _ bel
variable {F : Value → Array Value} {tyH : TypeId}
set_option maxRecDepth 100000 in
set_option maxHeartbeats 8000000 in
theorem CCall_againH (N K : Nat) (rv : Value) (L : List ARec) (client no k : Int) (a b t : ByteArray) (w : World) (h : CRepH F tyH w N K rv L) (hg : Good L) (hs : (logB L).length ≤ 2000) (hr : ¬ (client < 0 ∨ 2 < client ∨ no < 1 ∨ 200 < no)) (hc : checkI ⟨k, a, b, t⟩ = 0) (hch : changesB k = true) (ha : a.size ≤ maxLen) (hb : b.size ≤ maxLen) (ht : t.size ≤ maxLen) (hh : hasR L client = true) (hno : no = (lastR L client).no) (hcb : callB ⟨k, a, b, t⟩ (lastR L client).call = true) :
    Calls Tryz.prog 78 #[.pointer (some ⟨K, 0, none⟩), .int .i64 client, .int .i64 no, .agg #[.int .i64 k, .string a, .string b, .string t]] w (CCResH F tyH w N K rv L (aCall L client no ⟨k, a, b, t⟩)) := by
  have hnlt : ¬ (lastR L client).no < no := by omega
  rw [aCall, if_neg hr, if_neg (by simp [hc]), if_neg (by simp [hch]), if_neg hnlt, if_pos ⟨hno, hcb⟩]
  have HCF := hide (fun W => CallFault_any k a b t W ha hb ht)
  rw [hc] at HCF
  have HIC := hide (fun W => IsChange_any k W)
  rw [hch] at HIC
  have hnn : L.length ≤ 100000 := by have := hg.few; omega
  have HLA : Hid (∀ W, Below w.heap.size w W → Calls Tryz.prog 103 #[.pointer (some ⟨K, 0, none⟩), .int .i64 client] W fun e w' => e = .returned (.tuple #[(lastR L client).val, .bool (hasR L client)]) ∧ Below W.heap.size W w') := fun W hW => CLast_anyH N K rv L client W (h.below hW) hnn
  rw [hh] at HLA
  have HE := hide (fun W => eql32 ⟨k, a, b, t⟩ (lastR L client).call W)
  rw [hcb] at HE
  have HST := hide (fun w' hb => CCResH.stay (w' := w') h hb (lastR L client).code (lastR L client).ans 0)
  clear hcb hnlt
  generalize lastR L client = lr at *
  obtain ⟨lc, ln, ⟨lk, la, lb, lt⟩, ld, lu⟩ := lr
  dsimp only [ARec.val, callCells] at *
  have heqb : (no == ln) = true := by simpa using hno
  have hCA : ∀ W, Below (w.heap.size + 2) ((w.alloc (.cells #[.int .i64 k, .string a, .string b, .string t] 32)).alloc (.cells #[.int .i64 0, .string ⟨#[]⟩] 59)) W → W.heap[w.heap.size]? = some (.cells #[.int .i64 k, .string a, .string b, .string t] 32 (0, 0)) ∧ W.heap[w.heap.size + 1]? = some (.cells #[.int .i64 0, .string ⟨#[]⟩] 59 (0, 0)) ∧ w.heap.size + 2 ≤ W.heap.size ∧ Below w.heap.size w W := fun W hW => by
    have h1 := heap_alloc_new (w.alloc (.cells #[.int .i64 k, .string a, .string b, .string t] 32)) (.cells #[.int .i64 0, .string ⟨#[]⟩] 59)
    rw [show (w.alloc (.cells #[.int .i64 k, .string a, .string b, .string t] 32)).heap.size = w.heap.size + 1 by simp] at h1
    refine ⟨(hW.block w.heap.size (by omega)).trans ((Below.heap_alloc _ _ _ (by simp)).trans (heap_alloc_new w _)), (hW.block (w.heap.size + 1) (by omega)).trans h1, ?_, ?_⟩
    · have := hW.size; simp at this; omega
    · exact (((Below.refl w.heap.size w).alloc (Nat.le_refl _) _).alloc (by simp) _).trans (hW.mono (by omega))
  have HCA := hide hCA
  have q1 : ¬ (client < 0) := by omega
  have q2 : ¬ (3 ≤ client) := by omega
  have q3 : ¬ (no < 1) := by omega
  have q4 : ¬ (200 < no) := by omega
  clear h hr hCA hg hs hc hch ha hb ht hh hno
  go_enter Tryz.func78, Tryz.ntmps78
  go_wp2_with fail
  refine ((unhide HCF) _).mono ?_
  rintro e w1 ⟨rfl, b1⟩
  have hb0 : Below (w.heap.size + 2) ((w.alloc (.cells #[.int .i64 k, .string a, .string b, .string t] 32)).alloc (.cells #[.int .i64 0, .string ⟨#[]⟩] 59)) w1 := b1.mono (by simp)
  have HB1 := hide hb0
  obtain ⟨g1, g2, g3, g4⟩ := (unhide HCA) w1 hb0
  obtain ⟨⟨x0, x1, x2, x3⟩, _⟩ := four g1
  have HB1w := hide g4
  clear b1 hb0 g1 g2 g4
  go_wp2_with fail
  refine ((unhide HIC) _).mono ?_
  rintro e w2 ⟨rfl, rfl⟩
  go_wp2_with fail
  refine ((unhide HLA) _ (unhide HB1w)).mono ?_
  rintro e w3 ⟨rfl, b3⟩
  clear x0 x1 x2 x3
  have HB3 := hide ((unhide HB1).trans (b3.mono g3))
  clear b3
  obtain ⟨g1, g2, g3', g4⟩ := (unhide HCA) w3 (unhide HB3)
  have HC3 := hide g1
  have HA3 := hide g2
  have HB3w := hide g4
  clear g1 g2 g4
  have HBV : Hid (Below w.heap.size w (w3.alloc (.cells #[.int .i64 lc, .int .i64 ln, .int .i64 lk, .string la, .string lb, .string lt, .int .i64 ld, .string lu] 61))) := (unhide HB3w).alloc (unhide HB3w).size _
  have HAV : Hid ((w3.alloc (.cells #[.int .i64 lc, .int .i64 ln, .int .i64 lk, .string la, .string lb, .string lt, .int .i64 ld, .string lu] 61)).heap[w.heap.size + 1]? = some (.cells #[.int .i64 0, .string ⟨#[]⟩] 59 (0, 0))) := (Below.heap_alloc _ _ _ (by omega)).trans (unhide HA3)
  obtain ⟨⟨x0, x1, x2, x3⟩, _⟩ := four (unhide HC3)
  obtain ⟨⟨z0, z1⟩, fz⟩ := two (unhide HA3)
  have hzw : w.heap.size < w3.heap.size := by omega
  have hzw1 : w.heap.size + 1 < w3.heap.size := by omega
  have e32 := unhide HE
  go_wp2
  have hb2 := set2_blk (unhide HA3) (.int .i64 ld) (.string lu)
  have hk2 := set2_kept w3 (w.heap.size + 1) (.int .i64 ld) (.string lu)
  unfold set2 at hb2 hk2
  replace hb2 := (Below.heap_alloc _ (.cells #[.int .i64 lc, .int .i64 ln, .int .i64 lk, .string la, .string lb, .string lt, .int .i64 ld, .string lu] 61) (w.heap.size + 1) (Array.getElem?_eq_some_iff.1 hb2).1).trans hb2
  replace hk2 := hk2.trans (Kept.of_below (own := []) ((Below.refl _ _).alloc (Nat.le_refl _) (.cells #[.int .i64 lc, .int .i64 ln, .int .i64 lk, .string la, .string lb, .string lt, .int .i64 ld, .string lu] 61))) (by simp)
  generalize hw8 : (((w3.setCell ⟨w.heap.size + 1, 0, none⟩ (.int .i64 ld)).setCell ⟨w.heap.size + 1, 1, none⟩ (.string lu)).alloc (.cells #[.int .i64 lc, .int .i64 ln, .int .i64 lk, .string la, .string lb, .string lt, .int .i64 ld, .string lu] 61)) = w99 at hb2 hk2 ⊢
  obtain ⟨⟨p0, p1⟩, _⟩ := two hb2
  have bel : Below w.heap.size w w99 := (unhide HB3w).trans (hk2.below (unhide HB3w).size (by simp))
  refine bodyPost_ret (v := .tuple #[.agg #[.int .i64 ld, .string lu], .int .i64 0, .int .i64 0]) (by simp [results, Tryz.results78, go_sem, p0, p1]) rfl ?_
  exact (unhide HST) _ bel
set_option maxRecDepth 100000 in
set_option maxHeartbeats 8000000 in
theorem CCall_oldH (N K : Nat) (rv : Value) (L : List ARec) (client no k : Int) (a b t : ByteArray) (w : World) (h : CRepH F tyH w N K rv L) (hg : Good L) (hs : (logB L).length ≤ 2000) (hr : ¬ (client < 0 ∨ 2 < client ∨ no < 1 ∨ 200 < no)) (hc : checkI ⟨k, a, b, t⟩ = 0) (hch : changesB k = true) (ha : a.size ≤ maxLen) (hb : b.size ≤ maxLen) (ht : t.size ≤ maxLen) (hh : hasR L client = true) (hno : no ≤ (lastR L client).no) (hcb : ¬ (no = (lastR L client).no ∧ callB ⟨k, a, b, t⟩ (lastR L client).call = true)) :
    Calls Tryz.prog 78 #[.pointer (some ⟨K, 0, none⟩), .int .i64 client, .int .i64 no, .agg #[.int .i64 k, .string a, .string b, .string t]] w (CCResH F tyH w N K rv L (aCall L client no ⟨k, a, b, t⟩)) := by
  have hnlt : ¬ (lastR L client).no < no := by omega
  rw [aCall, if_neg hr, if_neg (by simp [hc]), if_neg (by simp [hch]), if_neg hnlt, if_neg hcb]
  have HCF := hide (fun W => CallFault_any k a b t W ha hb ht)
  rw [hc] at HCF
  have HIC := hide (fun W => IsChange_any k W)
  rw [hch] at HIC
  have hnn : L.length ≤ 100000 := by have := hg.few; omega
  have HLA : Hid (∀ W, Below w.heap.size w W → Calls Tryz.prog 103 #[.pointer (some ⟨K, 0, none⟩), .int .i64 client] W fun e w' => e = .returned (.tuple #[(lastR L client).val, .bool (hasR L client)]) ∧ Below W.heap.size W w') := fun W hW => CLast_anyH N K rv L client W (h.below hW) hnn
  rw [hh] at HLA
  have HE := hide (fun W => eql32 ⟨k, a, b, t⟩ (lastR L client).call W)
  have HST := hide (fun w' hb => CCResH.stay (w' := w') h hb 0 ⟨#[]⟩ 10)
  generalize hcbe : callB ⟨k, a, b, t⟩ (lastR L client).call = cb at hcb HE
  generalize lastR L client = lr at *
  obtain ⟨lc, ln, ⟨lk, la, lb, lt⟩, ld, lu⟩ := lr
  dsimp only [ARec.val, callCells] at *
  have hCA : ∀ W, Below (w.heap.size + 2) ((w.alloc (.cells #[.int .i64 k, .string a, .string b, .string t] 32)).alloc (.cells #[.int .i64 0, .string ⟨#[]⟩] 59)) W → W.heap[w.heap.size]? = some (.cells #[.int .i64 k, .string a, .string b, .string t] 32 (0, 0)) ∧ W.heap[w.heap.size + 1]? = some (.cells #[.int .i64 0, .string ⟨#[]⟩] 59 (0, 0)) ∧ w.heap.size + 2 ≤ W.heap.size ∧ Below w.heap.size w W := fun W hW => by
    have h1 := heap_alloc_new (w.alloc (.cells #[.int .i64 k, .string a, .string b, .string t] 32)) (.cells #[.int .i64 0, .string ⟨#[]⟩] 59)
    rw [show (w.alloc (.cells #[.int .i64 k, .string a, .string b, .string t] 32)).heap.size = w.heap.size + 1 by simp] at h1
    refine ⟨(hW.block w.heap.size (by omega)).trans ((Below.heap_alloc _ _ _ (by simp)).trans (heap_alloc_new w _)), (hW.block (w.heap.size + 1) (by omega)).trans h1, ?_, ?_⟩
    · have := hW.size; simp at this; omega
    · exact (((Below.refl w.heap.size w).alloc (Nat.le_refl _) _).alloc (by simp) _).trans (hW.mono (by omega))
  have HCA := hide hCA
  have q1 : ¬ (client < 0) := by omega
  have q2 : ¬ (3 ≤ client) := by omega
  have q3 : ¬ (no < 1) := by omega
  have q4 : ¬ (200 < no) := by omega
  clear h hr hCA hg hs hc hch ha hb ht hh hcbe
  go_enter Tryz.func78, Tryz.ntmps78
  go_wp2_with fail
  refine ((unhide HCF) _).mono ?_
  rintro e w1 ⟨rfl, b1⟩
  have hb0 : Below (w.heap.size + 2) ((w.alloc (.cells #[.int .i64 k, .string a, .string b, .string t] 32)).alloc (.cells #[.int .i64 0, .string ⟨#[]⟩] 59)) w1 := b1.mono (by simp)
  have HB1 := hide hb0
  obtain ⟨g1, g2, g3, g4⟩ := (unhide HCA) w1 hb0
  obtain ⟨⟨x0, x1, x2, x3⟩, _⟩ := four g1
  have HB1w := hide g4
  clear b1 hb0 g1 g2 g4
  go_wp2_with fail
  refine ((unhide HIC) _).mono ?_
  rintro e w2 ⟨rfl, rfl⟩
  go_wp2_with fail
  refine ((unhide HLA) _ (unhide HB1w)).mono ?_
  rintro e w3 ⟨rfl, b3⟩
  clear x0 x1 x2 x3
  have HB3 := hide ((unhide HB1).trans (b3.mono g3))
  clear b3
  obtain ⟨g1, g2, g3', g4⟩ := (unhide HCA) w3 (unhide HB3)
  have HC3 := hide g1
  have HA3 := hide g2
  have HB3w := hide g4
  clear g1 g2 g4
  have HBV : Hid (Below w.heap.size w (w3.alloc (.cells #[.int .i64 lc, .int .i64 ln, .int .i64 lk, .string la, .string lb, .string lt, .int .i64 ld, .string lu] 61))) := (unhide HB3w).alloc (unhide HB3w).size _
  have HAV : Hid ((w3.alloc (.cells #[.int .i64 lc, .int .i64 ln, .int .i64 lk, .string la, .string lb, .string lt, .int .i64 ld, .string lu] 61)).heap[w.heap.size + 1]? = some (.cells #[.int .i64 0, .string ⟨#[]⟩] 59 (0, 0))) := (Below.heap_alloc _ _ _ (by omega)).trans (unhide HA3)
  obtain ⟨⟨x0, x1, x2, x3⟩, _⟩ := four (unhide HC3)
  obtain ⟨⟨z0, z1⟩, fz⟩ := two (unhide HA3)
  have hzw : w.heap.size < w3.heap.size := by omega
  have hzw1 : w.heap.size + 1 < w3.heap.size := by omega
  by_cases heq : no = ln
  · have hcf : cb = false := by cases cb <;> simp_all
    subst hcf
    have heqb : (no == ln) = true := by simpa using heq
    have e32 := unhide HE
    have hle : no ≤ ln := hno
    clear hcb hnlt heq hno
    go_wp2
    have hb2 := set2_blk (unhide HA3) (.int .i64 0) (.string ⟨#[]⟩)
    have hk2 := set2_kept w3 (w.heap.size + 1) (.int .i64 0) (.string ⟨#[]⟩)
    unfold set2 at hb2 hk2
    replace hb2 := (Below.heap_alloc _ (.cells #[.int .i64 lc, .int .i64 ln, .int .i64 lk, .string la, .string lb, .string lt, .int .i64 ld, .string lu] 61) (w.heap.size + 1) (Array.getElem?_eq_some_iff.1 hb2).1).trans hb2
    replace hk2 := hk2.trans (Kept.of_below (own := []) ((Below.refl _ _).alloc (Nat.le_refl _) (.cells #[.int .i64 lc, .int .i64 ln, .int .i64 lk, .string la, .string lb, .string lt, .int .i64 ld, .string lu] 61))) (by simp)
    generalize hw8 : (((w3.setCell ⟨w.heap.size + 1, 0, none⟩ (.int .i64 0)).setCell ⟨w.heap.size + 1, 1, none⟩ (.string ⟨#[]⟩)).alloc (.cells #[.int .i64 lc, .int .i64 ln, .int .i64 lk, .string la, .string lb, .string lt, .int .i64 ld, .string lu] 61)) = w99 at hb2 hk2 ⊢
    obtain ⟨⟨p0, p1⟩, _⟩ := two hb2
    have bel : Below w.heap.size w w99 := (unhide HB3w).trans (hk2.below (unhide HB3w).size (by simp))
    refine bodyPost_ret (v := .tuple #[.agg #[.int .i64 0, .string ⟨#[]⟩], .int .i64 0, .int .i64 10]) (by simp [results, Tryz.results78, go_sem, p0, p1]) rfl ?_
    exact (unhide HST) _ bel
  · have hneq : (no == ln) = false := by simpa using heq
    have hle : no ≤ ln := hno
    clear hcb hnlt heq hno
    go_wp2
    have hb2 := set2_blk (unhide HA3) (.int .i64 0) (.string ⟨#[]⟩)
    have hk2 := set2_kept w3 (w.heap.size + 1) (.int .i64 0) (.string ⟨#[]⟩)
    unfold set2 at hb2 hk2
    replace hb2 := (Below.heap_alloc _ (.cells #[.int .i64 lc, .int .i64 ln, .int .i64 lk, .string la, .string lb, .string lt, .int .i64 ld, .string lu] 61) (w.heap.size + 1) (Array.getElem?_eq_some_iff.1 hb2).1).trans hb2
    replace hk2 := hk2.trans (Kept.of_below (own := []) ((Below.refl _ _).alloc (Nat.le_refl _) (.cells #[.int .i64 lc, .int .i64 ln, .int .i64 lk, .string la, .string lb, .string lt, .int .i64 ld, .string lu] 61))) (by simp)
    generalize hw8 : (((w3.setCell ⟨w.heap.size + 1, 0, none⟩ (.int .i64 0)).setCell ⟨w.heap.size + 1, 1, none⟩ (.string ⟨#[]⟩)).alloc (.cells #[.int .i64 lc, .int .i64 ln, .int .i64 lk, .string la, .string lb, .string lt, .int .i64 ld, .string lu] 61)) = w99 at hb2 hk2 ⊢
    obtain ⟨⟨p0, p1⟩, _⟩ := two hb2
    have bel : Below w.heap.size w w99 := (unhide HB3w).trans (hk2.below (unhide HB3w).size (by simp))
    refine bodyPost_ret (v := .tuple #[.agg #[.int .i64 0, .string ⟨#[]⟩], .int .i64 0, .int .i64 10]) (by simp [results, Tryz.results78, go_sem, p0, p1]) rfl ?_
    exact (unhide HST) _ bel
variable {F : Value → Array Value} {tyH : TypeId}
theorem CTurnedH.blk {w w' : World} {N K : Nat} {rv : Value} {L' : List ARec} (h : CTurnedH F tyH w N K rv w' L') {b : Nat} {o : Obj} (hc : w.heap[b]? = some o) (h1 : b ≠ K) (h2 : rv.ownBlock ≠ some b) : w'.heap[b]? = some o := by
  obtain ⟨v', _, hk, _⟩ := h
  have hn : b ∉ K :: rv.ownBlock.toList := by simp [h1, h2]
  exact (hk.block b (Array.getElem?_eq_some_iff.1 hc).1 hn).trans hc
theorem CTurnedH.store {w W w1 w2 : World} {N K : Nat} {rv : Value} {L L' : List ARec} (h0 : CRepH F tyH w N K rv L) (hb0 : Below w.heap.size w W) (hT : CTurnedH F tyH W N K rv w1 L') {b : Nat} (hb : w.heap.size ≤ b) (hb2 : b < W.heap.size) (hk : Kept [b] w1 w2) :
    CTurnedH F tyH w N K rv w2 L' := by
  obtain ⟨v', hr, hk1, hn⟩ := hT
  have hlt : ∀ k, rv.ownBlock = some k → k < w.heap.size := fun k e => (h0.row.lt k e).2
  have hD := h0.ltK
  refine ⟨v', hr.kept hk (by simp; omega) (fun k e hm => ?_), ?_, fun k e => ?_⟩
  · have hkb : k = b := by simpa using hm
    rcases hn k e with h | h
    · have := hlt k h; omega
    · omega
  · exact ((Kept.of_below hb0).trans hk1 (fun x hx => .inl hx)).trans hk (fun x hx => .inr (by rw [List.mem_singleton.1 hx]; exact hb))
  · rcases hn k e with h | h
    · exact .inl h
    · right; have := hb0.size; omega
theorem CRepH.lay {w2 w4 : World} {N K : Nat} {v v' : Value} {L L' : List ARec} (h : CRepH F tyH w2 N K v L) (hk : Kept v.ownBlock.toList w2 w4) (hrow : w4.ownsRow N 61 8 v' L'.length (L'.flatMap rcells)) (hat : ∀ k, v'.ownBlock = some k → v.ownBlock = some k ∨ w2.heap.size ≤ k) : CTurnedH F tyH w2 N K v (w4.setCell ⟨K, 0, none⟩ v') L' := by
  have hK : K ∉ v.ownBlock.toList := by simpa using h.nd
  have hb4 : w4.heap[K]? = some (.cells (F v) tyH (0, 0)) := (hk.block K h.ltK hK).trans h.blk
  have hne : v'.ownBlock ≠ some K := fun e => by
    rcases hat K e with h1 | h1
    · exact h.nd h1
    · have := h.ltK; omega
  have hs := heap_setCell_same hb4 (o := 0) v'
  rw [(h.hold v v').2] at hs
  have hk2 := kept_setCell [K] w4 K 0 v' (by simp)
  refine ⟨v', ⟨h.new, hs, ownsRow_same hrow (fun j hj => hk2.block j (hrow.lt j hj).2 (fun hm => hne (by rw [List.mem_singleton.1 hm] at hj; exact hj))), hne, h.hold⟩, ?_, hat⟩
  exact (hk.mono_own (fun x hx => List.mem_cons_of_mem _ hx)).trans (hk2.mono_own (fun x hx => by rw [List.mem_singleton.1 hx]; exact List.mem_cons_self)) (fun x hx => .inl hx)
set_option maxRecDepth 100000 in
set_option maxHeartbeats 8000000 in
theorem CCall_newH (N K : Nat) (rv : Value) (L : List ARec) (client no k : Int) (a b t : ByteArray) (w : World) (h : CRepH F tyH w N K rv L) (hg : Good L) (hs : (logB L).length ≤ 2000) (hr : ¬ (client < 0 ∨ 2 < client ∨ no < 1 ∨ 200 < no)) (hc : checkI ⟨k, a, b, t⟩ = 0) (hch : changesB k = true) (ha : a.size ≤ maxLen) (hb : b.size ≤ maxLen) (ht : t.size ≤ maxLen) (hnew : hasR L client = false ∨ hasR L client = true ∧ (lastR L client).no < no) :
    Calls Tryz.prog 78 #[.pointer (some ⟨K, 0, none⟩), .int .i64 client, .int .i64 no, .agg #[.int .i64 k, .string a, .string b, .string t]] w (CCResH F tyH w N K rv L (aCall L client no ⟨k, a, b, t⟩)) := by
  have hlt : (lastR L client).no < no := by
    rcases hnew with h1 | ⟨_, h1⟩
    · have h2 : lastR L client = zeroRec := by
        rcases lastR_or L client with ⟨h2, _⟩ | ⟨h2, h3⟩
        · exact h2
        · have : hasR L client = true := List.any_eq_true.2 ⟨_, h2, by simp [h3]⟩
          rw [h1] at this; cases this
      rw [h2]
      show (0 : Int) < no
      omega
    · exact h1
  rw [aCall, if_neg hr, if_neg (by simp [hc]), if_neg (by simp [hch]), if_pos hlt]
  obtain ⟨ok0, ok1, ok2⟩ := new_ok hr hc hch (behind L)
  have HCF := hide (fun W => CallFault_any k a b t W ha hb ht)
  rw [hc] at HCF
  have HIC := hide (fun W => IsChange_any k W)
  rw [hch] at HIC
  have hnn : L.length ≤ 100000 := by have := hg.few; omega
  have HLA : Hid (∀ W, Below w.heap.size w W → Calls Tryz.prog 103 #[.pointer (some ⟨K, 0, none⟩), .int .i64 client] W fun e w' => e = .returned (.tuple #[(lastR L client).val, .bool (hasR L client)]) ∧ Below W.heap.size W w') := fun W hW => CLast_anyH N K rv L client W (h.below hW) hnn
  obtain ⟨nE, hnE⟩ : ∃ n, (encL ⟨client, no, ⟨k, a, b, t⟩, 0, ⟨#[]⟩⟩).length = n := ⟨_, rfl⟩
  obtain ⟨T, hT⟩ : ∃ n, (logB L).length = n := ⟨_, rfl⟩
  have hnE255 : nE ≤ 255 := by rw [← hnE]; exact (encL_le ok0).2
  have HBY : Hid (∀ W, Calls Tryz.prog 41 #[.agg #[.int .i64 client, .int .i64 no, .int .i64 k, .string a, .string b, .string t, .int .i64 0, .string ⟨#[]⟩]] W fun e w' => ∃ g cap, e = .returned (.slice (some ⟨g, 0, none⟩) nE cap) ∧ Below W.heap.size W w') := fun W => by
    refine (BytesOf_any ⟨client, no, ⟨k, a, b, t⟩, 0, ⟨#[]⟩⟩ W nE _ rfl hnE ok0).mono ?_
    rintro e w' ⟨g, cap, rfl, _, hb⟩
    exact ⟨g, cap, rfl, hb⟩
  have HBS : Hid (∀ W, Below w.heap.size w W → Calls Tryz.prog 19 #[.pointer (some ⟨K, 0, none⟩)] W fun e w' => ∃ a c, e = .returned (.slice a T c) ∧ Below W.heap.size W w') := fun W hW => by
    refine (Bytes_anyH N K rv L W (h.below hW) hg (by omega) hnn).mono ?_
    rintro e w' ⟨a, c, rfl, _, hb⟩
    exact ⟨a, c, by rw [hT], hb⟩
  obtain ⟨n, hnl⟩ : ∃ n, L.length = n := ⟨_, rfl⟩
  obtain ⟨ra, rcap, rfl⟩ := row_form h.row
  have hRA := recs_row h.row rfl
  have HBE : Hid (∀ W, Below w.heap.size w W → Calls Tryz.prog 24 #[.slice ra n rcap] W fun e w' => ∃ D v, e = .returned (.pointer (some ⟨D, 0, none⟩)) ∧ DRep w' W.heap.size D v (behind L) ∧ Below W.heap.size W w') := fun W hW => by
    rw [← hnl]
    exact Behind_any ra L.length rcap L W (hRA.below hW) hg.small (by omega)
  have HDo : Hid (∀ M D v W, DRep W M D v (behind L) → Calls Tryz.prog 32 #[.pointer (some ⟨D, 0, none⟩), .agg #[.int .i64 k, .string a, .string b, .string t]] W fun e w' => e = .returned (.agg #[.int .i64 (aDo (behind L) ⟨k, a, b, t⟩).code, .string (aDo (behind L) ⟨k, a, b, t⟩).text]) ∧ DTurned W M D v w' (aDo (behind L) ⟨k, a, b, t⟩).st) := fun M D v W hW => dDo_any ⟨k, a, b, t⟩ M D v (behind L) W hW (behind_inv _) ha hb ht
  have HCR := hide h
  rw [hnl] at HCR
  have HNL := hide hnl
  obtain ⟨i0, hi0, hz0, hz1, hz2⟩ := info_parts info61
  have hKl := h.ltK
  have HST := hide (fun w' hb => CCResH.stay (w' := w') h hb 0 ⟨#[]⟩ 7)
  rw [hnl] at HST ⊢
  rw [hnE, hT]
  generalize hadd : aDo (behind L) ⟨k, a, b, t⟩ = ad at HDo ok1 ok2 ⊢
  obtain ⟨dcode, dtext, dst⟩ := ad
  dsimp only at HDo ok1 ok2 ⊢
  have HCM : Hid (((logB (L ++ [⟨client, no, ⟨k, a, b, t⟩, dcode, dtext⟩])).length : Int) - ((logB L).length : Int) = (nE : Int)) := by
    show _ = _
    rw [logB_snoc, List.length_append, ok2, hnE]
    omega
  obtain ⟨RR, hRR⟩ : ∃ R : CRes, R = (if 2000 < T + nE then ⟨0, ⟨#[]⟩, 7, L⟩ else ⟨dcode, dtext, 0, L ++ [⟨client, no, ⟨k, a, b, t⟩, dcode, dtext⟩]⟩) := ⟨_, rfl⟩
  rw [← hRR]
  have HRR := hide hRR
  clear hRR
  generalize hasR L client = hR at HLA hnew
  generalize lastR L client = lr at *
  obtain ⟨lc, ln, ⟨lk, la, lb, lt⟩, ld, lu⟩ := lr
  dsimp only [ARec.val] at *
  have hCA : ∀ W, Below (w.heap.size + 2) ((w.alloc (.cells #[.int .i64 k, .string a, .string b, .string t] 32)).alloc (.cells #[.int .i64 0, .string ⟨#[]⟩] 59)) W → W.heap[w.heap.size]? = some (.cells #[.int .i64 k, .string a, .string b, .string t] 32 (0, 0)) ∧ W.heap[w.heap.size + 1]? = some (.cells #[.int .i64 0, .string ⟨#[]⟩] 59 (0, 0)) ∧ w.heap.size + 2 ≤ W.heap.size ∧ Below w.heap.size w W := fun W hW => by
    have h1 := heap_alloc_new (w.alloc (.cells #[.int .i64 k, .string a, .string b, .string t] 32)) (.cells #[.int .i64 0, .string ⟨#[]⟩] 59)
    rw [show (w.alloc (.cells #[.int .i64 k, .string a, .string b, .string t] 32)).heap.size = w.heap.size + 1 by simp] at h1
    refine ⟨(hW.block w.heap.size (by omega)).trans ((Below.heap_alloc _ _ _ (by simp)).trans (heap_alloc_new w _)), (hW.block (w.heap.size + 1) (by omega)).trans h1, ?_, ?_⟩
    · have := hW.size; simp at this; omega
    · exact (((Below.refl w.heap.size w).alloc (Nat.le_refl _) _).alloc (by simp) _).trans (hW.mono (by omega))
  have HCA := hide hCA
  have q1 : ¬ (client < 0) := by omega
  have q2 : ¬ (3 ≤ client) := by omega
  have q3 : ¬ (no < 1) := by omega
  have q4 : ¬ (200 < no) := by omega
  have hneq : (no == ln) = false := by simp; omega
  have hnle : ¬ (no ≤ ln) := by omega
  have hTn : T ≤ 2000 := by omega
  have hn5 : n ≤ 100000 := by omega
  clear h hr hCA hg hs hc hch ha hb ht hRA hnn hnl ok0 ok1 ok2 hadd hT hnE hlt
  go_enter Tryz.func78, Tryz.ntmps78
  go_wp2_with fail
  refine ((unhide HCF) _).mono ?_
  rintro e w1 ⟨rfl, b1⟩
  have hb0 : Below (w.heap.size + 2) ((w.alloc (.cells #[.int .i64 k, .string a, .string b, .string t] 32)).alloc (.cells #[.int .i64 0, .string ⟨#[]⟩] 59)) w1 := b1.mono (by simp)
  have HB1 := hide hb0
  obtain ⟨g1, g2, g3, g4⟩ := (unhide HCA) w1 hb0
  obtain ⟨⟨x0, x1, x2, x3⟩, _⟩ := four g1
  have HB1w := hide g4
  clear b1 hb0 g1 g2 g4
  go_wp2_with fail
  refine ((unhide HIC) _).mono ?_
  rintro e w2 ⟨rfl, rfl⟩
  go_wp2_with fail
  refine ((unhide HLA) _ (unhide HB1w)).mono ?_
  rintro e w3 ⟨rfl, b3⟩
  clear x0 x1 x2 x3
  have HB3 := hide ((unhide HB1).trans (b3.mono g3))
  clear b3
  obtain ⟨g1, g2, g3', g4⟩ := (unhide HCA) w3 (unhide HB3)
  have HC3 := hide g1
  have HA3 := hide g2
  have HB3w := hide g4
  clear g1 g2 g4
  obtain ⟨⟨x0, x1, x2, x3⟩, _⟩ := four (unhide HC3)
  have hzw : w.heap.size < w3.heap.size := by omega
  obtain ⟨V, hV⟩ : ∃ V, V = ((w3.alloc (.cells #[.int .i64 lc, .int .i64 ln, .int .i64 lk, .string la, .string lb, .string lt, .int .i64 ld, .string lu] 61)).alloc (.cells #[.int .i64 client, .int .i64 no, .int .i64 k, .string a, .string b, .string t, .int .i64 0, .string ⟨#[]⟩] 61)) := ⟨_, rfl⟩
  have hVK : ∀ W, Below V.heap.size V W → W.heap[w.heap.size]? = some (.cells #[.int .i64 k, .string a, .string b, .string t] 32 (0, 0)) ∧ W.heap[w.heap.size + 1]? = some (.cells #[.int .i64 0, .string ⟨#[]⟩] 59 (0, 0)) ∧ W.heap[w3.heap.size + 1]? = some (.cells #[.int .i64 client, .int .i64 no, .int .i64 k, .string a, .string b, .string t, .int .i64 0, .string ⟨#[]⟩] 61 (0, 0)) ∧ Below w.heap.size w W ∧ w3.heap.size + 2 ≤ W.heap.size := fun W hW => by
    have hzV : V.heap.size = w3.heap.size + 2 := by rw [hV]; simp
    have c1 : V.heap[w.heap.size]? = some (.cells #[.int .i64 k, .string a, .string b, .string t] 32 (0, 0)) := by rw [hV]; exact (Below.heap_alloc _ _ _ (by simp; omega)).trans ((Below.heap_alloc _ _ _ (by omega)).trans (unhide HC3))
    have c2 : V.heap[w.heap.size + 1]? = some (.cells #[.int .i64 0, .string ⟨#[]⟩] 59 (0, 0)) := by rw [hV]; exact (Below.heap_alloc _ _ _ (by simp; omega)).trans ((Below.heap_alloc _ _ _ (by omega)).trans (unhide HA3))
    have c3 : V.heap[w3.heap.size + 1]? = some (.cells #[.int .i64 client, .int .i64 no, .int .i64 k, .string a, .string b, .string t, .int .i64 0, .string ⟨#[]⟩] 61 (0, 0)) := by
      rw [hV]
      have h := heap_alloc_new (w3.alloc (.cells #[.int .i64 lc, .int .i64 ln, .int .i64 lk, .string la, .string lb, .string lt, .int .i64 ld, .string lu] 61)) (.cells #[.int .i64 client, .int .i64 no, .int .i64 k, .string a, .string b, .string t, .int .i64 0, .string ⟨#[]⟩] 61)
      rw [show (w3.alloc (.cells #[.int .i64 lc, .int .i64 ln, .int .i64 lk, .string la, .string lb, .string lt, .int .i64 ld, .string lu] 61)).heap.size = w3.heap.size + 1 by simp] at h
      exact h
    have c4 : Below w.heap.size w V := by rw [hV]; exact ((unhide HB3w).alloc (unhide HB3w).size _).alloc (by have := (unhide HB3w).size; simp; omega) _
    exact ⟨(hW.block _ (by omega)).trans c1, (hW.block _ (by omega)).trans c2, (hW.block _ (by omega)).trans c3, c4.trans (hW.mono (by omega)), by have := hW.size; omega⟩
  have HVK := hide hVK
  have HV := hide hV
  clear hVK hV
  have key : Calls Tryz.prog 41 #[.agg #[.int .i64 client, .int .i64 no, .int .i64 k, .string a, .string b, .string t, .int .i64 0, .string ⟨#[]⟩]] V fun e w' => ∃ g cap, e = .returned (.slice (some ⟨g, 0, none⟩) nE cap) ∧ Below V.heap.size V w' := (unhide HBY) V
  have HKEY := hide key
  clear key
  rcases hnew with rfl | ⟨rfl, _⟩
  all_goals
    go_wp2_with fail
    rw [← unhide HV]
    refine (unhide HKEY).mono ?_
    rintro e w5 ⟨gx, cx, rfl, b5⟩
    have HB5 := hide b5
    clear b5
    have h5 := (unhide HVK) w5 (unhide HB5)
    have HB5w := hide h5.2.2.2.1
    have hz5 := h5.2.2.2.2
    clear h5
    go_wp2_with fail
    refine ((unhide HBS) _ (unhide HB5w)).mono ?_
    rintro e w6 ⟨ga, ca, rfl, b6⟩
    have HB6 := hide ((unhide HB5).trans (b6.mono (unhide HB5).size))
    clear b6
    have h6 := (unhide HVK) w6 (unhide HB6)
    have HA6 := hide h6.2.1
    have HB6w := hide h6.2.2.2.1
    have hz6 := h6.2.2.2.2
    obtain ⟨⟨z0, z1⟩, fz⟩ := two h6.2.1
    obtain ⟨⟨v0, v1, v2, v3⟩, _⟩ := four h6.1
    clear h6 x0 x1 x2 x3
    by_cases hfull : (2000 : Int) < (T : Int) + (nE : Int)
    · have HRF := hide ((unhide HRR).trans (if_pos (by omega)))
      go_wp2
      have hb2 := set2_blk (unhide HA6) (.int .i64 0) (.string ⟨#[]⟩)
      have hk2 := set2_kept w6 (w.heap.size + 1) (.int .i64 0) (.string ⟨#[]⟩)
      unfold set2 at hb2 hk2
      generalize hw8 : ((w6.setCell ⟨w.heap.size + 1, 0, none⟩ (.int .i64 0)).setCell ⟨w.heap.size + 1, 1, none⟩ (.string ⟨#[]⟩)) = w99 at hb2 hk2 ⊢
      obtain ⟨⟨p0, p1⟩, _⟩ := two hb2
      have bel : Below w.heap.size w w99 := (unhide HB6w).trans (hk2.below (unhide HB6w).size (by simp))
      refine bodyPost_ret (v := .tuple #[.agg #[.int .i64 0, .string ⟨#[]⟩], .int .i64 0, .int .i64 7]) (by simp [results, Tryz.results78, go_sem, p0, p1]) rfl ?_
      rw [HRF.out]
      exact (unhide HST) _ bel
    · have HRF := hide ((unhide HRR).trans (if_neg (by omega)))
      have hcan6 := ((unhide HB6w).cell (p := ⟨K, 0, none⟩) hKl).trans (unhide HCR).can.1
      go_wp2_with fail
      go_region_law (first | (go_simp; go_at_call 24; refine ((unhide HBE) _ (unhide HB6w).drew).mono ?_; rintro e w7 ⟨D, v, rfl, hd7, b7⟩; have HD7 := hide (hd7.base (N := V.heap.size) (unhide HB6).size); have HB7 := hide ((unhide HB6).drew.trans (b7.mono (unhide HB6).size)); clear hd7 b7; have h7 := (unhide HVK) w7 (unhide HB7); obtain ⟨⟨u0, u1, u2, u3⟩, _⟩ := four h7.1; clear h7) | (go_simp; go_at_call 32; refine ((unhide HDo) V.heap.size D v _ (unhide HD7)).mono ?_; rintro e w8 ⟨rfl, hT8⟩; have HB8 := hide ((unhide HB7).trans ((hT8.below (unhide HD7) (unhide HB7).size))); clear hT8; have h8 := (unhide HVK) w8 (unhide HB8); have HR8 := hide h8.2.2.1; have HA8 := hide h8.2.1; have HB8w := hide h8.2.2.2.1; have hz8 := h8.2.2.2.2; obtain ⟨⟨r0, r1, r2, r3⟩, ⟨r4, r5, r6, r7⟩, fr⟩ := eight h8.2.2.1; clear h8) | fail)
      all_goals
        have s6 := heap_setCell_same (unhide HR8) (o := 6) (.int .i64 dcode)
        simp only [List.setIfInBounds_toArray, List.set_cons_zero, List.set_cons_succ] at s6
        have s7 := heap_setCell_same s6 (o := 7) (.string dtext)
        simp only [List.setIfInBounds_toArray, List.set_cons_zero, List.set_cons_succ] at s7
        have k6 := kept_setCell [w3.heap.size + 1] w8 (w3.heap.size + 1) 6 (.int .i64 dcode) (by simp)
        have k7 := kept_setCell [w3.heap.size + 1] (w8.setCell ⟨w3.heap.size + 1, 6, none⟩ (.int .i64 dcode)) (w3.heap.size + 1) 7 (.string dtext) (by simp)
        have hk9 := k6.trans k7 (fun x hx => .inl hx)
        clear s6 k6 k7 r0 r1 r2 r3 r4 r5 r6 r7
        generalize hw9 : ((w8.setCell ⟨w3.heap.size + 1, 6, none⟩ (.int .i64 dcode)).setCell ⟨w3.heap.size + 1, 7, none⟩ (.string dtext)) = w9 at s7 hk9 ⊢
        have hb9 : Below w.heap.size w w9 := (unhide HB8w).trans (hk9.below (unhide HB8w).size (by simp; omega))
        have hc9 := (unhide HCR).below hb9
        have HA9 := hide ((hk9.block (w.heap.size + 1) (by omega) (by simp; omega)).trans (unhide HA8))
        have HR9 := hide s7
        have HB9 := hide hb9
        have HC9 := hide hc9
        have hz9 : w3.heap.size + 2 ≤ w9.heap.size := by have := hk9.size; omega
        obtain ⟨⟨r0, r1, r2, r3⟩, ⟨r4, r5, r6, r7⟩, fr'⟩ := eight s7
        have cD2 := hc9.can.1
        have cDa := (hc9.can.alloc (.cells #[.int .i64 client, .int .i64 no, .int .i64 k, .string a, .string b, .string t, .int .i64 dcode, .string dtext] 61)).1
        have hrow9 := hc9.row
        rw [unhide HNL] at hrow9
        have HRow : Hid ((w9.alloc (.cells #[.int .i64 client, .int .i64 no, .int .i64 k, .string a, .string b, .string t, .int .i64 dcode, .string dtext] 61)).drew.ownsRow N 61 8 (.slice ra n rcap) n (L.flatMap rcells)) := (hrow9.alloc _).drew
        have HLs : Hid (Lies (w9.alloc (.cells #[.int .i64 client, .int .i64 no, .int .i64 k, .string a, .string b, .string t, .int .i64 dcode, .string dtext] 61)).drew (.slice (some ⟨w9.heap.size, 0, none⟩) 1 1) 1 [.int .i64 client, .int .i64 no, .int .i64 k, .string a, .string b, .string t, .int .i64 dcode, .string dtext]) := lies_block (alloc_drew_new w9 _) 1 1
        have HNs : Hid (N ≤ (w9.alloc (.cells #[.int .i64 client, .int .i64 no, .int .i64 k, .string a, .string b, .string t, .int .i64 dcode, .string dtext] 61)).drew.heap.size) := by have := hc9.ltK; have := hc9.new; show N ≤ (w9.alloc _).heap.size; rw [al_size]; omega
        have HCa : Hid (Can (w9.alloc (.cells #[.int .i64 client, .int .i64 no, .int .i64 k, .string a, .string b, .string t, .int .i64 dcode, .string dtext] 61)).drew K 0 (.slice ra n rcap)) := (hc9.can.alloc _).drew
        have hnd := hc9.nd
        have hK9 := hc9.ltK
        clear hk9 hb9 hc9 s7 hrow9 hw9
        go_wp2_with fail
        go_region_law (first | (refine step_app (by rfl) (.tmp 98) (.tmp 100) 33 (by rfl) N 61 i0 _ 8 96 Tryz.underlying33 hi0 hz0 hz1 hz2 rfl (by omega) (.slice ra n rcap) n (L.flatMap rcells) (by simp [Act.eval, Act.put]) (unhide HRow) (.slice (some ⟨w9.heap.size, 0, none⟩) 1 1) 1 [.int .i64 client, .int .i64 no, .int .i64 k, .string a, .string b, .string t, .int .i64 dcode, .string dtext] (by simp [Act.eval, Act.put]) (unhide HLs) (by rfl) (by simp [Value.oneCell']) (by unfold maxLen; omega) (by omega) (unhide HNs) ?_; intro ad c10 w10 hown10 hgrow10 hat10; have hD := (unhide HCa).grown hgrow10 hnd; have hD0 := hD.1; have hD1 := hD.2; have HO10 := hide hown10; have HG10 := hide hgrow10; have HAT := hide hat10; clear hown10 hgrow10 hat10 hD) | fail)
        all_goals
          have bA : Below w9.heap.size w9 (w9.alloc (.cells #[.int .i64 client, .int .i64 no, .int .i64 k, .string a, .string b, .string t, .int .i64 dcode, .string dtext] 61)).drew := below_alloc_drew w9 _
          have hk4 : Kept (Value.slice ra n rcap).ownBlock.toList w9 w10 := by
            have hg := unhide HG10
            refine ⟨hg.os.trans bA.os, hg.tape.trans bA.tape, hg.output.trans bA.output, Nat.le_trans bA.size hg.size, fun j hlt hn => ?_⟩
            rw [hg.block j (Nat.lt_of_lt_of_le hlt bA.size) (fun e => hn (by rw [← e]; simp)), bA.block j hlt]
          obtain ⟨w11, hw11⟩ : ∃ w11, w11 = w10.setCell ⟨K, 0, none⟩ (.slice ad (n + 1) c10) := ⟨_, rfl⟩
          rw [← hw11]
          have hT : CTurnedH F tyH w9 N K (.slice ra n rcap) w11 (L ++ [⟨client, no, ⟨k, a, b, t⟩, dcode, dtext⟩]) := by
            rw [hw11]
            refine (unhide HC9).lay hk4 ?_ (fun j e => ?_)
            · rw [flat_snoc, List.length_append, unhide HNL]
              exact unhide HO10
            · rcases unhide HAT with h | h
              · exact .inl (by rw [← h]; exact e)
              · right
                rw [h] at e
                have : (w9.alloc (.cells #[.int .i64 client, .int .i64 no, .int .i64 k, .string a, .string b, .string t, .int .i64 dcode, .string dtext] 61)).drew.heap.size = j := by simpa using e
                rw [← this]
                exact bA.size
          have hrl : ∀ j, w.heap.size ≤ j → (Value.slice ra n rcap).ownBlock ≠ some j := fun j hj e => by have := ((unhide HCR).row.lt j e).2; omega
          have HR11 := hide (hT.blk (unhide HR9) (by omega) (hrl _ (by omega)))
          have HA11 := hide (hT.blk (unhide HA9) (by omega) (hrl _ (by omega)))
          have HT11 := hide hT
          clear bA hk4 hw11 hT hrl r0 r1 r2 r3 r4 r5 r6 r7 hD0 hD1 cD2 cDa
          obtain ⟨⟨r0, r1, r2, r3⟩, ⟨r4, r5, r6, r7⟩, _⟩ := eight (unhide HR11)
          obtain ⟨⟨y0, y1⟩, fy⟩ := two (unhide HA11)
          have hzR : w3.heap.size + 1 < w11.heap.size := (Array.getElem?_eq_some_iff.1 (unhide HR11)).1
          go_wp2
          have hb2 := set2_blk (unhide HA11) (.int .i64 dcode) (.string dtext)
          have hk2 := set2_kept w11 (w.heap.size + 1) (.int .i64 dcode) (.string dtext)
          unfold set2 at hb2 hk2
          generalize hw8 : ((w11.setCell ⟨w.heap.size + 1, 0, none⟩ (.int .i64 dcode)).setCell ⟨w.heap.size + 1, 1, none⟩ (.string dtext)) = w99 at hb2 hk2 ⊢
          obtain ⟨⟨p0, p1⟩, _⟩ := two hb2
          refine bodyPost_ret (v := .tuple #[.agg #[.int .i64 dcode, .string dtext], .int .i64 (nE : Int), .int .i64 0]) (by simp [results, Tryz.results78, go_sem, p0, p1]) rfl ?_
          rw [HRF.out]
          exact ⟨by rw [unhide HCM], (unhide HT11).store (unhide HCR) (unhide HB9) (by omega) (by omega) hk2⟩
variable {F : Value → Array Value} {tyH : TypeId}
set_option maxRecDepth 100000 in
set_option maxHeartbeats 4000000 in
theorem CCall_askH (N K : Nat) (rv : Value) (L : List ARec) (client no k : Int) (a b t : ByteArray) (w : World) (h : CRepH F tyH w N K rv L) (hg : Good L) (hs : (logB L).length ≤ 2000) (hr : ¬ (client < 0 ∨ 2 < client ∨ no < 1 ∨ 200 < no)) (hc : checkI ⟨k, a, b, t⟩ = 0) (hch : changesB k = false) (ha : a.size ≤ maxLen) (hb : b.size ≤ maxLen) (ht : t.size ≤ maxLen) :
    Calls Tryz.prog 78 #[.pointer (some ⟨K, 0, none⟩), .int .i64 client, .int .i64 no, .agg #[.int .i64 k, .string a, .string b, .string t]] w (CCResH F tyH w N K rv L (aCall L client no ⟨k, a, b, t⟩)) := by
  rw [aCall, if_neg hr, if_neg (by simp [hc]), if_pos hch]
  have HCF := hide (fun W => CallFault_any k a b t W ha hb ht)
  rw [hc] at HCF
  have HIC := hide (fun W => IsChange_any k W)
  rw [hch] at HIC
  obtain ⟨n, hnl⟩ : ∃ n, L.length = n := ⟨_, rfl⟩
  obtain ⟨ra, rcap, rfl⟩ := row_form h.row
  have hRA := recs_row h.row rfl
  have hn : L.length ≤ 1000000 := by have := hg.few; omega
  have HBE : Hid (∀ W, Below w.heap.size w W → Calls Tryz.prog 24 #[.slice ra n rcap] W fun e w' => ∃ D v, e = .returned (.pointer (some ⟨D, 0, none⟩)) ∧ DRep w' W.heap.size D v (behind L) ∧ Below W.heap.size W w') := fun W hW => by
    rw [← hnl]
    exact Behind_any ra L.length rcap L W (hRA.below hW) hg.small hn
  have HDo : Hid (∀ D v W, DRep W (w.heap.size + 2) D v (behind L) → Calls Tryz.prog 32 #[.pointer (some ⟨D, 0, none⟩), .agg #[.int .i64 k, .string a, .string b, .string t]] W fun e w' => e = .returned (.agg #[.int .i64 (aDo (behind L) ⟨k, a, b, t⟩).code, .string (aDo (behind L) ⟨k, a, b, t⟩).text]) ∧ DTurned W (w.heap.size + 2) D v w' (aDo (behind L) ⟨k, a, b, t⟩).st) := fun D v W hW => dDo_any ⟨k, a, b, t⟩ (w.heap.size + 2) D v (behind L) W hW (behind_inv _) ha hb ht
  have hcan := h.can.1
  have hKl := h.ltK
  rw [hnl] at hcan
  have HST := hide (fun w' hb d u => CCResH.stay (w' := w') h hb d u 0)
  rw [hnl] at HST ⊢
  generalize aDo (behind L) ⟨k, a, b, t⟩ = ad at HDo ⊢
  obtain ⟨dcode, dtext, dst⟩ := ad
  dsimp only at HDo ⊢
  have hCA : ∀ W, Below (w.heap.size + 2) ((w.alloc (.cells #[.int .i64 k, .string a, .string b, .string t] 32)).alloc (.cells #[.int .i64 0, .string ⟨#[]⟩] 59)) W → W.heap[w.heap.size]? = some (.cells #[.int .i64 k, .string a, .string b, .string t] 32 (0, 0)) ∧ W.heap[w.heap.size + 1]? = some (.cells #[.int .i64 0, .string ⟨#[]⟩] 59 (0, 0)) ∧ w.heap.size + 2 ≤ W.heap.size ∧ Below w.heap.size w W := fun W hW => by
    have h1 := heap_alloc_new (w.alloc (.cells #[.int .i64 k, .string a, .string b, .string t] 32)) (.cells #[.int .i64 0, .string ⟨#[]⟩] 59)
    rw [show (w.alloc (.cells #[.int .i64 k, .string a, .string b, .string t] 32)).heap.size = w.heap.size + 1 by simp] at h1
    refine ⟨(hW.block w.heap.size (by omega)).trans ((Below.heap_alloc _ _ _ (by simp)).trans (heap_alloc_new w _)), (hW.block (w.heap.size + 1) (by omega)).trans h1, ?_, ?_⟩
    · have := hW.size; simp at this; omega
    · exact (((Below.refl w.heap.size w).alloc (Nat.le_refl _) _).alloc (by simp) _).trans (hW.mono (by omega))
  have HCA := hide hCA
  have q1 : ¬ (client < 0) := by omega
  have q2 : ¬ (3 ≤ client) := by omega
  have q3 : ¬ (no < 1) := by omega
  have q4 : ¬ (200 < no) := by omega
  clear h hr hCA hRA hg hs hn hc hch ha hb ht hnl
  go_enter Tryz.func78, Tryz.ntmps78
  go_wp2_with fail
  refine ((unhide HCF) _).mono ?_
  rintro e w1 ⟨rfl, b1⟩
  have hb0 : Below (w.heap.size + 2) ((w.alloc (.cells #[.int .i64 k, .string a, .string b, .string t] 32)).alloc (.cells #[.int .i64 0, .string ⟨#[]⟩] 59)) w1 := b1.mono (by simp)
  have HB1 := hide hb0
  obtain ⟨g1, g2, g3, g4⟩ := (unhide HCA) w1 hb0
  obtain ⟨⟨x0, x1, x2, x3⟩, _⟩ := four g1
  have HB1w := hide g4
  clear b1 hb0 g1 g2 g4
  go_wp2_with fail
  refine ((unhide HIC) _).mono ?_
  rintro e w2 ⟨rfl, rfl⟩
  have hcan1 := ((unhide HB1w).cell (p := ⟨K, 0, none⟩) hKl).trans hcan
  obtain ⟨g1, g2, _, _⟩ := (unhide HCA) w2 (unhide HB1)
  obtain ⟨⟨z0, z1⟩, fz⟩ := two g2
  clear g1 g2
  go_wp2_with fail
  go_region_law (first | (go_simp; go_at_call 24; refine ((unhide HBE) _ (unhide HB1w).drew).mono ?_; rintro e w3 ⟨D, v, rfl, hd3, b3⟩; have HD3 := hide (hd3.base (N := w.heap.size + 2) g3); have HB3 := hide ((unhide HB1).drew.trans (b3.mono g3)); clear hd3 b3; have h3 := (unhide HCA) w3 (unhide HB3); obtain ⟨⟨x0', x1', x2', x3'⟩, _⟩ := four h3.1; have hz3 := h3.2.2.1; clear h3) | (go_simp; go_at_call 32; refine ((unhide HDo) D v _ (unhide HD3)).mono ?_; rintro e w4 ⟨rfl, hT⟩; have HB4 := hide ((unhide HB3).trans ((hT.below (unhide HD3) hz3))); clear hT; have h4 := (unhide HCA) w4 (unhide HB4); have HA4 := hide h4.2.1; have HW4 := hide h4.2.2.2; obtain ⟨⟨y0, y1⟩, fy⟩ := two h4.2.1; clear h4) | fail)
  all_goals
    go_wp2
    have hb2 := set2_blk (unhide HA4) (.int .i64 dcode) (.string dtext)
    have hk2 := set2_kept w4 (w.heap.size + 1) (.int .i64 dcode) (.string dtext)
    unfold set2 at hb2 hk2
    generalize hw8 : ((w4.setCell ⟨w.heap.size + 1, 0, none⟩ (.int .i64 dcode)).setCell ⟨w.heap.size + 1, 1, none⟩ (.string dtext)) = w8 at hb2 hk2 ⊢
    obtain ⟨⟨p0, p1⟩, _⟩ := two hb2
    have bel : Below w.heap.size w w8 := (unhide HW4).trans (hk2.below (unhide HW4).size (by simp))
    refine bodyPost_ret (v := .tuple #[.agg #[.int .i64 dcode, .string dtext], .int .i64 0, .int .i64 0]) (by simp [results, Tryz.results78, go_sem, p0, p1]) rfl ?_
    exact (unhide HST) _ bel _ _
end Go.Proofs.YtmbhbnoifimeaabGreat
