/- Packets compared; New, Len, full, round, at, clone. -/
import Derived.Test.YtfpommjolbipmabPa
import Derived.Laws.StructEq
import Derived.BigQuiet
namespace Go.Proofs.Ytfpommjolbipmab
open Go.RowKit
set_option linter.unusedSimpArgs false
set_option linter.unusedVariables false

theorem fields5 {l : List Field} {x0 x1 x2 x3 x4 : String × Nat × Nat} (h : l.map (fun f => (f.name, f.type, f.offset)) = [x0, x1, x2, x3, x4]) :
    ∃ f0 f1 f2 f3 f4, l = [f0, f1, f2, f3, f4] ∧ (f0.name, f0.type, f0.offset) = x0 ∧ (f1.name, f1.type, f1.offset) = x1 ∧ (f2.name, f2.type, f2.offset) = x2 ∧ (f3.name, f3.type, f3.offset) = x3 ∧ (f4.name, f4.type, f4.offset) = x4 := by
  match l, h with
  | [f0, f1, f2, f3, f4], h => simp at h; exact ⟨f0, f1, f2, f3, f4, rfl, by simp [h.1], by simp [h.2.1], by simp [h.2.2.1], by simp [h.2.2.2.1], by simp [h.2.2.2.2]⟩
  | [], h => simp at h
  | [_], h => simp at h
  | [_, _], h => simp at h
  | [_, _, _], h => simp at h
  | [_, _, _, _], h => simp at h
  | _ :: _ :: _ :: _ :: _ :: _ :: _, h => simp at h
theorem fields4 {l : List Field} {x0 x1 x2 x3 : String × Nat × Nat} (h : l.map (fun f => (f.name, f.type, f.offset)) = [x0, x1, x2, x3]) :
    ∃ f0 f1 f2 f3, l = [f0, f1, f2, f3] ∧ (f0.name, f0.type, f0.offset) = x0 ∧ (f1.name, f1.type, f1.offset) = x1 ∧ (f2.name, f2.type, f2.offset) = x2 ∧ (f3.name, f3.type, f3.offset) = x3 := by
  match l, h with
  | [f0, f1, f2, f3], h => simp at h; exact ⟨f0, f1, f2, f3, rfl, by simp [h.1], by simp [h.2.1], by simp [h.2.2.1], by simp [h.2.2.2]⟩
  | [], h => simp at h
  | [_], h => simp at h
  | [_, _], h => simp at h
  | [_, _, _], h => simp at h
  | _ :: _ :: _ :: _ :: _ :: _, h => simp at h
theorem fields2 {l : List Field} {x0 x1 : String × Nat × Nat} (h : l.map (fun f => (f.name, f.type, f.offset)) = [x0, x1]) :
    ∃ f0 f1, l = [f0, f1] ∧ (f0.name, f0.type, f0.offset) = x0 ∧ (f1.name, f1.type, f1.offset) = x1 := by
  match l, h with
  | [f0, f1], h => simp at h; exact ⟨f0, f1, rfl, by simp [h.1], by simp [h.2]⟩
  | [], h => simp at h
  | [_], h => simp at h
  | _ :: _ :: _ :: _, h => simp at h

def callCells (c : ACall) : Array Value := #[.int .i64 c.kind, .string c.name, .string c.dst, .string c.text]
def ansCells (d : Int) (u : ByteArray) : Array Value := #[.int .i64 d, .string u]

theorem equal32 (n : Nat) (c c' : ACall) (w : World) : (Op.equalIn (n + 2) 29 (.agg (callCells c)) (.agg (callCells c'))).run Try.prog w = .ok (c.kind == c'.kind && c.name.toList == c'.name.toList && c.dst.toList == c'.dst.toList && c.text.toList == c'.text.toList) w := by
  rw [run_equalIn_agg w (n + 1) 29 _ _ (by kernel_rfl) (by kernel_rfl)]
  obtain ⟨f0, f1, f2, f3, hf, e0, e1, e2, e3⟩ := fields4 (l := (Try.prog.fieldsOf 29).toList) (x0 := ("Kind", 3, 0)) (x1 := ("Name", 9, 1)) (x2 := ("To", 9, 2)) (x3 := ("Text", 9, 3)) (by kernel_rfl)
  simp only [Prod.mk.injEq] at e0 e1 e2 e3
  obtain ⟨⟨a0, a1, a2⟩, ⟨b0, b1, b2⟩, ⟨c0, c1, c2⟩, ⟨d0, d1, d2⟩⟩ := And.intro e0 (And.intro e1 (And.intro e2 e3))
  have p0 : ∀ c : ACall, (part 3 (callCells c) 0).run Try.prog w = .ok (.int .i64 c.kind) w := fun c => by kernel_rfl
  have p1 : ∀ c : ACall, (part 9 (callCells c) 1).run Try.prog w = .ok (.string c.name) w := fun c => by kernel_rfl
  have p2 : ∀ c : ACall, (part 9 (callCells c) 2).run Try.prog w = .ok (.string c.dst) w := fun c => by kernel_rfl
  have p3 : ∀ c : ACall, (part 9 (callCells c) 3).run Try.prog w = .ok (.string c.text) w := fun c => by kernel_rfl
  have q0 := run_equalIn_int w n 3 .i64 .i64 c.kind c'.kind Try.underlying3
  have q1 := run_equalIn_string w n 9 c.name c'.name Try.underlying9
  have q2 := run_equalIn_string w n 9 c.dst c'.dst Try.underlying9
  have q3 := run_equalIn_string w n 9 c.text c'.text Try.underlying9
  rw [hf]
  simp only [Op.eqFields, a0, a1, a2, b0, b1, b2, c0, c1, c2, d0, d1, d2, p0, p1, p2, p3, q0, q1, q2, q3, Sem.run_bind, Result.andThen_ok, Sem.run_ite, Sem.run_pure]
  cases (c.kind == c'.kind) <;> cases (c.name.toList == c'.name.toList) <;> cases (c.dst.toList == c'.dst.toList) <;> cases (c.text.toList == c'.text.toList) <;> simp [q1, q2, q3, p1, p2, p3]

theorem equal34 (n : Nat) (d d' : Int) (u u' : ByteArray) (w : World) : (Op.equalIn (n + 2) 31 (.agg (ansCells d u)) (.agg (ansCells d' u'))).run Try.prog w = .ok (d == d' && u.toList == u'.toList) w := by
  rw [run_equalIn_agg w (n + 1) 31 _ _ (by kernel_rfl) (by kernel_rfl)]
  obtain ⟨f0, f1, hf, e0, e1⟩ := fields2 (l := (Try.prog.fieldsOf 31).toList) (x0 := ("Code", 3, 0)) (x1 := ("Text", 9, 1)) (by kernel_rfl)
  simp only [Prod.mk.injEq] at e0 e1
  obtain ⟨⟨a0, a1, a2⟩, ⟨b0, b1, b2⟩⟩ := And.intro e0 e1
  have p0 : ∀ d u, (part 3 (ansCells d u) 0).run Try.prog w = .ok (.int .i64 d) w := fun d u => by kernel_rfl
  have p1 : ∀ d u, (part 9 (ansCells d u) 1).run Try.prog w = .ok (.string u) w := fun d u => by kernel_rfl
  have q0 := run_equalIn_int w n 3 .i64 .i64 d d' Try.underlying3
  have q1 := run_equalIn_string w n 9 u u' Try.underlying9
  rw [hf]
  simp only [Op.eqFields, a0, a1, a2, b0, b1, b2, p0, p1, q0, q1, Sem.run_bind, Result.andThen_ok, Sem.run_ite, Sem.run_pure]
  cases (d == d') <;> cases (u.toList == u'.toList) <;> simp [q1, p1]


def pktB (r q : APkt) : Bool := (r.reply == q.reply) && r.client == q.client && r.no == q.no && (r.call.kind == q.call.kind && r.call.name.toList == q.call.name.toList && r.call.dst.toList == q.call.dst.toList && r.call.text.toList == q.call.text.toList) && (r.code == q.code && r.ans.toList == q.ans.toList)
theorem pktB_iff (r q : APkt) : pktB r q = true ↔ r = q := by
  obtain ⟨y, c, n, ⟨k, a, b, t⟩, d, u⟩ := r
  obtain ⟨y', c', n', ⟨k', a', b', t'⟩, d', u'⟩ := q
  unfold pktB
  simp only [eqB]
  simp
  constructor
  · rintro ⟨⟨⟨⟨h0, h1⟩, h2⟩, ⟨⟨h3, h4⟩, h5⟩, h6⟩, h7, h8⟩
    exact ⟨h0, h1, h2, ⟨h3, h4, h5, h6⟩, h7, h8⟩
  · rintro ⟨h0, h1, h2, ⟨h3, h4, h5, h6⟩, h7, h8⟩
    exact ⟨⟨⟨⟨h0, h1⟩, h2⟩, ⟨⟨h3, h4⟩, h5⟩, h6⟩, h7, h8⟩
theorem pktB_self (r : APkt) : pktB r r = true := (pktB_iff r r).2 rfl
theorem pktB_ne {r q : APkt} (h : r ≠ q) : pktB r q = false := by
  cases hb : pktB r q
  · rfl
  · exact absurd ((pktB_iff r q).1 hb) h

def pArr (r : APkt) : Array Value := #[.bool r.reply, .int .i64 r.client, .int .i64 r.no, .int .i64 r.call.kind, .string r.call.name, .string r.call.dst, .string r.call.text, .int .i64 r.code, .string r.ans]
theorem equalP (r q : APkt) (w : World) : (Op.equalIn 10000 33 r.val q.val).run Try.prog w = .ok (pktB r q) w := by
  show (Op.equalIn 10000 33 (.agg (pArr r)) (.agg (pArr q))).run Try.prog w = _
  rw [run_equalIn_agg w 9999 33 _ _ (by kernel_rfl) (by kernel_rfl)]
  obtain ⟨f0, f1, f2, f3, f4, hf, e0, e1, e2, e3, e4⟩ := fields5 (l := (Try.prog.fieldsOf 33).toList) (x0 := ("Reply", 4, 0)) (x1 := ("Client", 3, 1)) (x2 := ("No", 3, 2)) (x3 := ("Call", 29, 3)) (x4 := ("Answer", 31, 7)) (by kernel_rfl)
  simp only [Prod.mk.injEq] at e0 e1 e2 e3 e4
  obtain ⟨⟨z0, z1, z2⟩, ⟨a0, a1, a2⟩, ⟨b0, b1, b2⟩, ⟨c0, c1, c2⟩, ⟨d0, d1, d2⟩⟩ := And.intro e0 (And.intro e1 (And.intro e2 (And.intro e3 e4)))
  have pz : ∀ r : APkt, (part 4 (pArr r) 0).run Try.prog w = .ok (.bool r.reply) w := fun c => by kernel_rfl
  have p0 : ∀ r : APkt, (part 3 (pArr r) 1).run Try.prog w = .ok (.int .i64 r.client) w := fun c => by kernel_rfl
  have p1 : ∀ r : APkt, (part 3 (pArr r) 2).run Try.prog w = .ok (.int .i64 r.no) w := fun c => by kernel_rfl
  have p2 : ∀ r : APkt, (part 29 (pArr r) 3).run Try.prog w = .ok (.agg (callCells r.call)) w := fun c => by kernel_rfl
  have p3 : ∀ r : APkt, (part 31 (pArr r) 7).run Try.prog w = .ok (.agg (ansCells r.code r.ans)) w := fun c => by kernel_rfl
  have qz := run_equalIn_bool w 9998 4 r.reply q.reply Try.underlying4
  have q0 := run_equalIn_int w 9998 3 .i64 .i64 r.client q.client Try.underlying3
  have q1 := run_equalIn_int w 9998 3 .i64 .i64 r.no q.no Try.underlying3
  have q2 := equal32 9997 r.call q.call w
  have q3 := equal34 9997 r.code q.code r.ans q.ans w
  rw [hf]
  unfold pktB
  generalize hA : (r.call.kind == q.call.kind && r.call.name.toList == q.call.name.toList && r.call.dst.toList == q.call.dst.toList && r.call.text.toList == q.call.text.toList) = A at q2
  generalize hB : (r.code == q.code && r.ans.toList == q.ans.toList) = B at q3
  simp only [Op.eqFields, z0, z1, z2, a0, a1, a2, b0, b1, b2, c0, c1, c2, d0, d1, d2, pz, p0, p1, p2, p3, qz, q0, q1, q2, q3, Sem.run_bind, Result.andThen_ok, Sem.run_ite, Sem.run_pure]
  cases (r.reply == q.reply) <;> cases (r.client == q.client) <;> cases (r.no == q.no) <;> cases A <;> cases B <;> simp [q0, q1, q2, q3, p0, p1, p2, p3]
theorem eqlP (r q : APkt) (w : World) : (binOp .eql 33 r.val q.val).run Try.prog w = .ok (.bool (pktB r q)) w := by
  have h := equalP r q w
  unfold APkt.val at h ⊢
  rw [run_eql_struct, h]
  rfl
theorem neqP (r q : APkt) (w : World) : (binOp .neq 33 r.val q.val).run Try.prog w = .ok (.bool (!(pktB r q))) w := by
  have h := equalP r q w
  unfold APkt.val at h ⊢
  rw [run_neq_struct, h]
  rfl

set_option maxHeartbeats 400000 in
theorem SClone_any (s : ByteArray) (w : World) (hs : s.size ≤ 281474976710656) :
    Calls Try.prog 44 #[.string s] w fun e w' => e = .returned (.string s) ∧ Below w.heap.size w w' := by
  have hcon := Try.stringslite_Clone s w (by omega)
  go_enter Try.func44, Try.ntmps44
  go_wp2_with (go_at_call 49; refine hcon.mono ?_; rintro e w' ⟨rfl, hb'⟩)
  go_ret
  exact ⟨rfl, hb'⟩

theorem New_P (w : World) : Calls Try.prog 10 #[] w fun e w' => e = .returned (.pointer (some ⟨w.heap.size, 0, none⟩)) ∧ w' = w.alloc (.cells #[.slice none 0 0] 67) := by
  go_enter Try.func10, Try.ntmps10
  go_wp2
  go_ret
  exact ⟨rfl, rfl⟩
theorem PRep.start (t : TypeId) (w : World) : PRep t w.heap.size (w.alloc (.cells #[.slice none 0 0] t)) w.heap.size (.slice none 0 0) [] :=
  ⟨Nat.le_refl _, heap_alloc_new w _, World.ownsRow_nil _ _ _ _, by simp [Value.ownBlock], by simp, by simp⟩

theorem Len_P {N : Nat} {w : World} {P : Nat} {v : Value} {ms : List APkt} (h : PRep 67 N w P v ms) {k : Nat} (hk : ms.length = k) : Calls Try.prog 17 #[.pointer (some ⟨P, 0, none⟩)] w fun e w' => e = .returned (.int .i64 (k : Int)) ∧ w' = w := by
  obtain ⟨a, c, rfl⟩ := h.form
  have hc := h.can.1
  rw [hk] at hc
  clear h
  go_enter Try.func17, Try.ntmps17
  go_wp2
  go_ret
  exact ⟨rfl, rfl⟩
theorem full_P {N : Nat} {w : World} {P : Nat} {v : Value} {ms : List APkt} (h : PRep 67 N w P v ms) {k : Nat} (hk : ms.length = k) : Calls Try.prog 32 #[.pointer (some ⟨P, 0, none⟩)] w fun e w' => e = .returned (.bool (decide (40 ≤ k))) ∧ w' = w := by
  obtain ⟨a, c, rfl⟩ := h.form
  have hc := h.can.1
  rw [hk] at hc
  clear h
  have hd : decide ((40 : Int) ≤ (k : Int)) = decide (40 ≤ k) := by by_cases h : 40 ≤ k <;> simp [h] <;> omega
  go_enter Try.func32, Try.ntmps32
  go_wp2
  go_ret
  exact ⟨rfl, rfl⟩
theorem wrap_u (n : Int) : IntKind.u64.wrap n = n % 18446744073709551616 := by simp [IntKind.wrap, IntKind.bits, IntKind.signed]
theorem rnd_val (n : Int) {k : Nat} (hk : 0 < k) (h40 : k ≤ 40) : wrap64 (Int.tmod (IntKind.u64.wrap n) (IntKind.u64.wrap (k : Int))) = (rnd n k : Int) := by
  have h1 : IntKind.u64.wrap (k : Int) = k := by rw [wrap_u]; omega
  have h0 : 0 ≤ IntKind.u64.wrap n := by rw [wrap_u]; omega
  have hm : Int.tmod (IntKind.u64.wrap n) (k : Int) = (rnd n k : Int) := by
    rw [Int.tmod_eq_emod_of_nonneg h0]
    unfold rnd
    have : (0 : Int) ≤ IntKind.u64.wrap n % (k : Int) := Int.emod_nonneg _ (by omega)
    omega
  have hlt := rnd_lt n hk
  rw [h1, hm]
  unfold wrap64
  omega

end Go.Proofs.Ytfpommjolbipmab
