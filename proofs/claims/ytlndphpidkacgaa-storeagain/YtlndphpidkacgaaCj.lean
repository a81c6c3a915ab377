/- codecBegun, greatRecord; two records compared. -/
import Derived.Test.YtlndphpidkacgaaCi
import Derived.Test.YtlndphpidkacgaaWn
import Derived.Laws.StructEq
namespace Go.Proofs.Ytlndphpidkacgaa
open Go.RowKit
set_option linter.unusedSimpArgs false
set_option linter.unusedVariables false

theorem eqB' {a b : ByteArray} : (a.toList == b.toList) = decide (a = b) := eqB

theorem fields4 {l : List Field} {x0 x1 x2 x3 : String × Nat × Nat} (h : l.map (fun f => (f.name, f.type, f.offset)) = [x0, x1, x2, x3]) :
    ∃ f0 f1 f2 f3, l = [f0, f1, f2, f3] ∧ (f0.name, f0.type, f0.offset) = x0 ∧ (f1.name, f1.type, f1.offset) = x1 ∧ (f2.name, f2.type, f2.offset) = x2 ∧ (f3.name, f3.type, f3.offset) = x3 := by
  match l, h with
  | [f0, f1, f2, f3], h => simp at h; exact ⟨f0, f1, f2, f3, rfl, by simp [h.1], by simp [h.2.1], by simp [h.2.2.1], by simp [h.2.2.2]⟩
  | [], h => simp at h
  | [_], h => simp at h
  | [_, _], h => simp at h
  | [_, _, _], h => simp at h
  | _ :: _ :: _ :: _ :: _ :: _, h => simp at h
theorem fields2 {l : List Field} {x0 x1 : String × Nat × Nat} (h : l.map (fun f => (f.name, f.type, f.offset)) = [x0, x1]) :
    ∃ f0 f1, l = [f0, f1] ∧ (f0.name, f0.type, f0.offset) = x0 ∧ (f1.name, f1.type, f1.offset) = x1 := by
  match l, h with
  | [f0, f1], h => simp at h; exact ⟨f0, f1, rfl, by simp [h.1], by simp [h.2]⟩
  | [], h => simp at h
  | [_], h => simp at h
  | _ :: _ :: _ :: _, h => simp at h

def callCells (c : ACall) : Array Value := #[.int .i64 c.kind, .string c.name, .string c.dst, .string c.text]
def ansCells (d : Int) (u : ByteArray) : Array Value := #[.int .i64 d, .string u]

theorem equal32 (n : Nat) (c c' : ACall) (w : World) : (Op.equalIn (n + 2) 32 (.agg (callCells c)) (.agg (callCells c'))).run Try.prog w = .ok (c.kind == c'.kind && c.name.toList == c'.name.toList && c.dst.toList == c'.dst.toList && c.text.toList == c'.text.toList) w := by
  rw [run_equalIn_agg w (n + 1) 32 _ _ (by kernel_rfl) (by kernel_rfl)]
  obtain ⟨f0, f1, f2, f3, hf, e0, e1, e2, e3⟩ := fields4 (l := (Try.prog.fieldsOf 32).toList) (x0 := ("Kind", 3, 0)) (x1 := ("Name", 9, 1)) (x2 := ("To", 9, 2)) (x3 := ("Text", 9, 3)) (by kernel_rfl)
  simp only [Prod.mk.injEq] at e0 e1 e2 e3
  obtain ⟨⟨a0, a1, a2⟩, ⟨b0, b1, b2⟩, ⟨c0, c1, c2⟩, ⟨d0, d1, d2⟩⟩ := And.intro e0 (And.intro e1 (And.intro e2 e3))
  have p0 : ∀ c : ACall, (part 3 (callCells c) 0).run Try.prog w = .ok (.int .i64 c.kind) w := fun c => by kernel_rfl
  have p1 : ∀ c : ACall, (part 9 (callCells c) 1).run Try.prog w = .ok (.string c.name) w := fun c => by kernel_rfl
  have p2 : ∀ c : ACall, (part 9 (callCells c) 2).run Try.prog w = .ok (.string c.dst) w := fun c => by kernel_rfl
  have p3 : ∀ c : ACall, (part 9 (callCells c) 3).run Try.prog w = .ok (.string c.text) w := fun c => by kernel_rfl
  have q0 := run_equalIn_int w n 3 .i64 .i64 c.kind c'.kind Try.underlying3
  have q1 := run_equalIn_string w n 9 c.name c'.name Try.underlying9
  have q2 := run_equalIn_string w n 9 c.dst c'.dst Try.underlying9
  have q3 := run_equalIn_string w n 9 c.text c'.text Try.underlying9
  rw [hf]
  simp only [Op.eqFields, a0, a1, a2, b0, b1, b2, c0, c1, c2, d0, d1, d2, p0, p1, p2, p3, q0, q1, q2, q3, Sem.run_bind, Result.andThen_ok, Sem.run_ite, Sem.run_pure]
  cases (c.kind == c'.kind) <;> cases (c.name.toList == c'.name.toList) <;> cases (c.dst.toList == c'.dst.toList) <;> cases (c.text.toList == c'.text.toList) <;> simp [q1, q2, q3, p1, p2, p3]

theorem equal34 (n : Nat) (d d' : Int) (u u' : ByteArray) (w : World) : (Op.equalIn (n + 2) 34 (.agg (ansCells d u)) (.agg (ansCells d' u'))).run Try.prog w = .ok (d == d' && u.toList == u'.toList) w := by
  rw [run_equalIn_agg w (n + 1) 34 _ _ (by kernel_rfl) (by kernel_rfl)]
  obtain ⟨f0, f1, hf, e0, e1⟩ := fields2 (l := (Try.prog.fieldsOf 34).toList) (x0 := ("Code", 3, 0)) (x1 := ("Text", 9, 1)) (by kernel_rfl)
  simp only [Prod.mk.injEq] at e0 e1
  obtain ⟨⟨a0, a1, a2⟩, ⟨b0, b1, b2⟩⟩ := And.intro e0 e1
  have p0 : ∀ d u, (part 3 (ansCells d u) 0).run Try.prog w = .ok (.int .i64 d) w := fun d u => by kernel_rfl
  have p1 : ∀ d u, (part 9 (ansCells d u) 1).run Try.prog w = .ok (.string u) w := fun d u => by kernel_rfl
  have q0 := run_equalIn_int w n 3 .i64 .i64 d d' Try.underlying3
  have q1 := run_equalIn_string w n 9 u u' Try.underlying9
  rw [hf]
  simp only [Op.eqFields, a0, a1, a2, b0, b1, b2, p0, p1, q0, q1, Sem.run_bind, Result.andThen_ok, Sem.run_ite, Sem.run_pure]
  cases (d == d') <;> cases (u.toList == u'.toList) <;> simp [q1, p1]

def recB (r q : ARec) : Bool := r.client == q.client && r.no == q.no && (r.call.kind == q.call.kind && r.call.name.toList == q.call.name.toList && r.call.dst.toList == q.call.dst.toList && r.call.text.toList == q.call.text.toList) && (r.code == q.code && r.ans.toList == q.ans.toList)
theorem recB_iff (r q : ARec) : recB r q = true ↔ r = q := by
  obtain ⟨c, n, ⟨k, a, b, t⟩, d, u⟩ := r
  obtain ⟨c', n', ⟨k', a', b', t'⟩, d', u'⟩ := q
  unfold recB
  simp only [eqB]
  simp
  constructor
  · rintro ⟨⟨⟨h1, h2⟩, ⟨⟨h3, h4⟩, h5⟩, h6⟩, h7, h8⟩
    exact ⟨h1, h2, ⟨h3, h4, h5, h6⟩, h7, h8⟩
  · rintro ⟨h1, h2, ⟨h3, h4, h5, h6⟩, h7, h8⟩
    exact ⟨⟨⟨h1, h2⟩, ⟨⟨h3, h4⟩, h5⟩, h6⟩, h7, h8⟩
theorem recB_self (r : ARec) : recB r r = true := (recB_iff r r).2 rfl

theorem equal47 (r q : ARec) (w : World) : (Op.equalIn 10000 47 r.val q.val).run Try.prog w = .ok (recB r q) w := by
  unfold ARec.val
  rw [run_equalIn_agg w 9999 47 _ _ (by kernel_rfl) (by kernel_rfl)]
  obtain ⟨f0, f1, f2, f3, hf, e0, e1, e2, e3⟩ := fields4 (l := (Try.prog.fieldsOf 47).toList) (x0 := ("Client", 3, 0)) (x1 := ("No", 3, 1)) (x2 := ("Call", 32, 2)) (x3 := ("Answer", 34, 6)) (by kernel_rfl)
  simp only [Prod.mk.injEq] at e0 e1 e2 e3
  obtain ⟨⟨a0, a1, a2⟩, ⟨b0, b1, b2⟩, ⟨c0, c1, c2⟩, ⟨d0, d1, d2⟩⟩ := And.intro e0 (And.intro e1 (And.intro e2 e3))
  have p0 : ∀ r : ARec, (part 3 #[.int .i64 r.client, .int .i64 r.no, .int .i64 r.call.kind, .string r.call.name, .string r.call.dst, .string r.call.text, .int .i64 r.code, .string r.ans] 0).run Try.prog w = .ok (.int .i64 r.client) w := fun c => by kernel_rfl
  have p1 : ∀ r : ARec, (part 3 #[.int .i64 r.client, .int .i64 r.no, .int .i64 r.call.kind, .string r.call.name, .string r.call.dst, .string r.call.text, .int .i64 r.code, .string r.ans] 1).run Try.prog w = .ok (.int .i64 r.no) w := fun c => by kernel_rfl
  have p2 : ∀ r : ARec, (part 32 #[.int .i64 r.client, .int .i64 r.no, .int .i64 r.call.kind, .string r.call.name, .string r.call.dst, .string r.call.text, .int .i64 r.code, .string r.ans] 2).run Try.prog w = .ok (.agg (callCells r.call)) w := fun c => by kernel_rfl
  have p3 : ∀ r : ARec, (part 34 #[.int .i64 r.client, .int .i64 r.no, .int .i64 r.call.kind, .string r.call.name, .string r.call.dst, .string r.call.text, .int .i64 r.code, .string r.ans] 6).run Try.prog w = .ok (.agg (ansCells r.code r.ans)) w := fun c => by kernel_rfl
  have q0 := run_equalIn_int w 9998 3 .i64 .i64 r.client q.client Try.underlying3
  have q1 := run_equalIn_int w 9998 3 .i64 .i64 r.no q.no Try.underlying3
  have q2 := equal32 9997 r.call q.call w
  have q3 := equal34 9997 r.code q.code r.ans q.ans w
  rw [hf]
  unfold recB
  generalize hA : (r.call.kind == q.call.kind && r.call.name.toList == q.call.name.toList && r.call.dst.toList == q.call.dst.toList && r.call.text.toList == q.call.text.toList) = A at q2
  generalize hB : (r.code == q.code && r.ans.toList == q.ans.toList) = B at q3
  simp only [Op.eqFields, a0, a1, a2, b0, b1, b2, c0, c1, c2, d0, d1, d2, p0, p1, p2, p3, q0, q1, q2, q3, Sem.run_bind, Result.andThen_ok, Sem.run_ite, Sem.run_pure]
  cases (r.client == q.client) <;> cases (r.no == q.no) <;> cases A <;> cases B <;> simp [q1, q2, q3, p1, p2, p3]

theorem eql47 (r q : ARec) (w : World) : (binOp .eql 47 r.val q.val).run Try.prog w = .ok (.bool (recB r q)) w := by
  have h := equal47 r q w
  unfold ARec.val at h ⊢
  rw [run_eql_struct, h]
  rfl
theorem neq47 (r q : ARec) (w : World) : (binOp .neq 47 r.val q.val).run Try.prog w = .ok (.bool (!(recB r q))) w := by
  have h := equal47 r q w
  unfold ARec.val at h ⊢
  rw [run_neq_struct, h]
  rfl

set_option maxHeartbeats 1000000 in
theorem greatRecord_any (c n k : Int) (a b t : ByteArray) (d : Int) (u : ByteArray) (w : World) (hu : u.size ≤ maxLen) :
    Calls Try.prog 32 #[.agg #[.int .i64 c, .int .i64 n, .int .i64 k, .string a, .string b, .string t, .int .i64 d, .string u]] w
      fun e w' => (∃ r, e = .returned (.bool r)) ∧ Below w.heap.size w w' := by
  unfold maxLen at hu
  have HG := hide (fun W => greatCall_any k a b t W)
  go_enter Try.func32, Try.ntmps32
  go_wp2_with fail
  refine ((unhide HG) _).mono ?_
  rintro e w1 ⟨⟨r, rfl⟩, b1⟩
  have x7 := b1.cell (p := ⟨w.heap.size, 7, none⟩) (by simp)
  simp at x7
  have HB := hide (((Below.refl w.heap.size w).alloc (Nat.le_refl _) _).trans (b1.mono (by simp)))
  clear b1
  cases r
  · go_wp2
    go_ret
    exact ⟨⟨_, rfl⟩, unhide HB⟩
  · go_wp2
    go_ret
    exact ⟨⟨_, rfl⟩, unhide HB⟩

end Go.Proofs.Ytlndphpidkacgaa
