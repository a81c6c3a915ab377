/- A client: awaits. -/
import Derived.Test.YtfpommjolbipmabKc
namespace Go.Proofs.Ytfpommjolbipmab
open Go.RowKit
set_option linter.unusedSimpArgs false
set_option linter.unusedVariables false

theorem KRep.below {N : Nat} {w w' : World} {X : Nat} {v : Value} {c : ACli} (h : KRep N w X v c) (hb : Below w.heap.size w w') : KRep N w' X v c := ⟨h.o.below hb, h.ok⟩

set_option maxRecDepth 100000 in
set_option maxHeartbeats 4000000 in
theorem awaits_any {N : Nat} {w : World} {X : Nat} {v : Value} {c : ACli} (h : KRep N w X v c) (p : APkt) : Calls Try.prog 43 #[.pointer (some ⟨X, 0, none⟩), p.val] w fun e w' => e = .returned (.bool (c.hears p)) ∧ Below w.heap.size w w' := by
  obtain ⟨V, hV⟩ : ∃ V, V = w.alloc (.cells (pArr p) 33) := ⟨_, rfl⟩
  have hBV : Below w.heap.size w V := by rw [hV]; exact (Below.refl _ _).alloc (Nat.le_refl _) _
  have hXV : V.heap[w.heap.size]? = some (.cells (pArr p) 33 (0, 0)) := by rw [hV]; exact heap_alloc_new _ _
  have hrV := h.below hBV
  have HNO : Hid (∀ n, Calls Try.prog 39 #[.pointer (some ⟨X, 0, none⟩)] (V.drewN n) fun e w' => e = .returned (.int .i64 c.no) ∧ w' = V.drewN n) := fun n => number_any (hrV.below (w' := V.drewN n) ⟨rfl, rfl, rfl, Nat.le_refl _, fun _ _ => rfl⟩)
  have hres : c.hears p = (c.op && p.reply && p.client == c.me && p.no == c.no && callB p.call c.call) := rfl
  have hE := fun W => eql32 p.call c.call W
  obtain ⟨⟨k0, k1, k2, k3⟩, ⟨k4, k5, k6⟩, kf⟩ := seven hrV.o.blk
  rw [hres]
  generalize c.no = cno at HNO ⊢
  generalize callB p.call c.call = cb at hE ⊢
  obtain ⟨me, done, ⟨ck, ca, cb', ct⟩, op⟩ := c
  obtain ⟨y, pc, pn, ⟨pk, s1, s2, s3⟩, d, u⟩ := p
  dsimp only [APkt.val, pArr, callCells] at *
  obtain ⟨⟨x0, x1, x2, x3⟩, ⟨x4, x5, x6, x7, x8⟩, xf⟩ := nine hXV
  have HV := hide hV
  have HB := hide hBV
  have HBD : Hid (∀ n, Below w.heap.size w (V.drewN n)) := fun n => hBV.trans ⟨rfl, rfl, rfl, Nat.le_refl _, fun _ _ => rfl⟩
  clear h hBV hXV hrV hV hres xf kf k1
  cases op
  · go_enter Try.func43, Try.ntmps43
    go_wp2_with fail
    rw [← unhide HV]
    go_quiet (first | (go_at_call 39; exact Calls.quiet_of_same ((unhide HNO) _)))
    go_wp2
    go_ret
    exact ⟨rfl, (unhide HBD) _⟩
  cases y
  · go_enter Try.func43, Try.ntmps43
    go_wp2_with fail
    rw [← unhide HV]
    go_quiet (first | (go_at_call 39; exact Calls.quiet_of_same ((unhide HNO) _)))
    go_wp2
    go_ret
    exact ⟨rfl, (unhide HBD) _⟩
  cases hc : (pc == me)
  · go_enter Try.func43, Try.ntmps43
    go_wp2_with fail
    rw [← unhide HV]
    go_quiet (first | (go_at_call 39; exact Calls.quiet_of_same ((unhide HNO) _)))
    go_wp2
    go_ret
    exact ⟨rfl, (unhide HBD) _⟩
  cases hn : (pn == cno)
  · go_enter Try.func43, Try.ntmps43
    go_wp2_with fail
    rw [← unhide HV]
    go_quiet (first | (go_at_call 39; exact Calls.quiet_of_same ((unhide HNO) _)))
    go_wp2
    go_ret
    exact ⟨rfl, (unhide HBD) _⟩
  · go_enter Try.func43, Try.ntmps43
    go_wp2_with fail
    rw [← unhide HV]
    go_quiet (first | (go_at_call 39; exact Calls.quiet_of_same ((unhide HNO) _)))
    go_wp2
    go_ret
    exact ⟨rfl, (unhide HBD) _⟩

end Go.Proofs.Ytfpommjolbipmab
