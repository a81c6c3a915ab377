/- A client: Call, Send. -/
import Derived.Test.YtfpommjolbipmabKd
namespace Go.Proofs.Ytfpommjolbipmab
open Go.RowKit
set_option linter.unusedSimpArgs false
set_option linter.unusedVariables false

theorem set5 {w : World} {X : Nat} {t : TypeId} {y0 y1 y2 y3 y4 y5 y6 a2 a3 a4 a5 a6 : Value} (h : w.heap[X]? = some (.cells #[y0, y1, y2, y3, y4, y5, y6] t (0, 0))) :
    (((((w.setCell ⟨X, 2, none⟩ a2).setCell ⟨X, 3, none⟩ a3).setCell ⟨X, 4, none⟩ a4).setCell ⟨X, 5, none⟩ a5).setCell ⟨X, 6, none⟩ a6).heap[X]? = some (.cells #[y0, y1, a2, a3, a4, a5, a6] t (0, 0)) ∧
    Kept [X] w (((((w.setCell ⟨X, 2, none⟩ a2).setCell ⟨X, 3, none⟩ a3).setCell ⟨X, 4, none⟩ a4).setCell ⟨X, 5, none⟩ a5).setCell ⟨X, 6, none⟩ a6) := by
  refine ⟨?_, ?_⟩
  · have h1 := heap_setCell_same (o := 6) (heap_setCell_same (o := 5) (heap_setCell_same (o := 4) (heap_setCell_same (o := 3) (heap_setCell_same (o := 2) h a2) a3) a4) a5) a6
    exact h1
  · have k : ∀ (W : World) (o : Nat) (u : Value), Kept [X] W (W.setCell ⟨X, o, none⟩ u) := fun W o u => kept_setCell [X] W X o u (by simp)
    exact ((((k _ _ _).trans (k _ _ _) (fun x hx => .inl hx)).trans (k _ _ _) (fun x hx => .inl hx)).trans (k _ _ _) (fun x hx => .inl hx)).trans (k _ _ _) (fun x hx => .inl hx)
theorem small_max {n : Nat} (h : n ≤ 281474976710656) : n ≤ maxLen := by unfold maxLen; omega

set_option maxRecDepth 100000 in
set_option maxHeartbeats 4000000 in
theorem Call_any {N : Nat} {w : World} {X : Nat} {v : Value} {c : ACli} (h : KRep N w X v c) (x : ACall) (hx : SmallC x) :
    Calls Try.prog 29 #[.pointer (some ⟨X, 0, none⟩), .agg #[.int .i64 x.kind, .string x.name, .string x.dst, .string x.text]] w fun e w' => e = .returned (.int .i64 (c.ask x)) ∧ KTurn N w X v w' (c.asked x) := by
  obtain ⟨V, hV⟩ : ∃ V, V = w.alloc (.cells #[.int .i64 x.kind, .string x.name, .string x.dst, .string x.text] 29) := ⟨_, rfl⟩
  have hBV : Below w.heap.size w V := by rw [hV]; exact (Below.refl _ _).alloc (Nat.le_refl _) _
  have hXV : V.heap[w.heap.size]? = some (.cells #[.int .i64 x.kind, .string x.name, .string x.dst, .string x.text] 29 (0, 0)) := by rw [hV]; exact heap_alloc_new _ _
  have hrV := h.below hBV
  have HCK := hide (Check_any x.kind x.name x.dst x.text V (small_max hx.1) (small_max hx.2.1) (small_max hx.2.2))
  have HCL := hide (fun W => cloneCall_any x W hx)
  have hce : checkI ⟨x.kind, x.name, x.dst, x.text⟩ = checkI x := rfl
  rw [hce] at HCK
  have hlV : w.heap.size < V.heap.size := (Array.getElem?_eq_some_iff.1 hXV).1
  have hXn : w.heap.size ≠ X := by have := h.o.lt; omega
  have HRV := hide hrV
  have HXV := hide hXV
  have HBV := hide hBV
  have HV := hide hV
  by_cases hck : checkI x = 0
  · cases hop : c.op
    · by_cases hfull : 200 ≤ c.done.length
      · have e1 : c.ask x = 7 := by unfold ACli.ask; rw [if_neg (by simp [hck]), if_neg (by simp [hop]), if_pos hfull]
        have e2 : c.asked x = c := by unfold ACli.asked; rw [e1, if_neg (by omega)]
        rw [e1, e2]
        rw [hck] at HCK
        have HT : Hid (∀ w', Below V.heap.size V w' → KTurn N w X v w' c) := fun w' hb => OTurn.of_below h.o (hBV.trans (hb.mono hBV.size))
        obtain ⟨x0, x1, x2, x3, xf⟩ := four hXV
        have HK : Hid (∀ w', Below V.heap.size V w' → ∃ a cap, w'.cell? ⟨X, 6, none⟩ = some (.bool false) ∧ w'.cell? ⟨X, 1, none⟩ = some (.slice a c.done.length cap)) := fun w' hb => by
          obtain ⟨a, cap, hv⟩ := h.o.form
          obtain ⟨⟨k0, k1, k2, k3⟩, ⟨k4, k5, k6⟩, kf⟩ := seven ((hrV.below hb).o.blk)
          exact ⟨a, cap, by rw [← hop]; exact k6, by rw [← hv]; exact k1⟩
        have hfi : (200 : Int) ≤ (c.done.length : Int) := by omega
        generalize c.done.length = n at HK hfi
        clear h hBV hXV hrV hV hck hop hfull e1 e2 hce
        go_enter Try.func29, Try.ntmps29
        go_wp2_with fail
        rw [← unhide HV]
        refine (unhide HCK).mono ?_
        rintro e w1 ⟨rfl, b1⟩
        obtain ⟨a, cap, k6, k1⟩ := (unhide HK) w1 b1
        go_wp2
        go_ret
        exact ⟨rfl, (unhide HT) _ b1⟩
      · have e1 : c.ask x = 0 := by unfold ACli.ask; rw [if_neg (by simp [hck]), if_neg (by simp [hop]), if_neg hfull]
        have e2 : c.asked x = ⟨c.me, c.done, x, true⟩ := by unfold ACli.asked; rw [e1, if_pos rfl]
        rw [e1, e2]
        rw [hck] at HCK
        have HK : Hid (∀ w', Below V.heap.size V w' → ∃ a cap, w'.heap[X]? = some (.cells #[.int .i64 c.me, .slice a c.done.length cap, .int .i64 c.call.kind, .string c.call.name, .string c.call.dst, .string c.call.text, .bool false] 73 (0, 0)) ∧ v = .slice a c.done.length cap) := fun w' hb => by
          obtain ⟨a, cap, hv⟩ := h.o.form
          have := (hrV.below hb).o.blk
          unfold kcells at this
          rw [hop, hv] at this
          exact ⟨a, cap, this, hv⟩
        have HXK : Hid (∀ w', Below V.heap.size V w' → w'.heap[w.heap.size]? = some (.cells #[.int .i64 x.kind, .string x.name, .string x.dst, .string x.text] 29 (0, 0))) := fun w' hb => (hb.block _ hlV).trans hXV
        obtain ⟨x0, x1, x2, x3, xf⟩ := four hXV
        have hXl : X < V.heap.size := hrV.o.lt
        have hfi : ¬ (200 : Int) ≤ (c.done.length : Int) := by omega
        clear hBV hXV hrV hV hck hop hfull e1 e2 hce
        have HH := hide h
        clear h
        obtain ⟨me, done, ⟨ck, ca, cb, ct⟩, op⟩ := c
        obtain ⟨xk, xa, xb, xt⟩ := x
        dsimp only at *
        obtain ⟨n, hn⟩ : ∃ n, done.length = n := ⟨_, rfl⟩
        rw [hn] at HK hfi
        go_enter Try.func29, Try.ntmps29
        go_wp2_with fail
        rw [← unhide HV]
        refine (unhide HCK).mono ?_
        rintro e w1 ⟨rfl, b1⟩
        clear x0 x1 x2 x3 xf
        have HX1 := hide ((unhide HXK) w1 b1)
        obtain ⟨a, cap, hk1, hv⟩ := (unhide HK) w1 b1
        subst hv
        obtain ⟨⟨k0, k1, k2, k3⟩, ⟨k4, k5, k6⟩, kf⟩ := seven hk1
        obtain ⟨x0, x1, x2, x3, xf⟩ := four (unhide HX1)
        go_wp2_with fail
        refine ((unhide HCL) _).mono ?_
        rintro e w2 ⟨rfl, b2⟩
        have b2' := b1.trans (b2.mono b1.size)
        clear k0 k1 k2 k3 k4 k5 k6 kf x0 x1 x2 x3 xf
        obtain ⟨a', cap', hk2, hv'⟩ := (unhide HK) w2 b2'
        cases hv'
        obtain ⟨⟨k0, k1, k2, k3⟩, ⟨k4, k5, k6⟩, kf⟩ := seven hk2
        obtain ⟨hs1, hs2⟩ := set5 (a2 := .int .i64 xk) (a3 := .string xa) (a4 := .string xb) (a5 := .string xt) (a6 := .bool true) hk2
        have hT : KTurn N w X (.slice a n cap) _ ⟨me, done, ⟨xk, xa, xb, xt⟩, true⟩ := ((((unhide HH).below ((unhide HBV).trans (b2'.mono (unhide HBV).size))).o).reblk hs1 hs2).before ((unhide HBV).trans (b2'.mono (unhide HBV).size))
        have HT := hide hT
        clear hs1 hs2 hT
        go_wp2
        go_ret
        exact ⟨rfl, unhide HT⟩
    · have e1 : c.ask x = 11 := by unfold ACli.ask; rw [if_neg (by simp [hck]), if_pos hop]
      have e2 : c.asked x = c := by unfold ACli.asked; rw [e1, if_neg (by omega)]
      rw [e1, e2]
      rw [hck] at HCK
      have HT : Hid (∀ w', Below V.heap.size V w' → KTurn N w X v w' c) := fun w' hb => OTurn.of_below h.o (hBV.trans (hb.mono hBV.size))
      obtain ⟨x0, x1, x2, x3, xf⟩ := four hXV
      have HK : Hid (∀ w', Below V.heap.size V w' → w'.cell? ⟨X, 6, none⟩ = some (.bool true)) := fun w' hb => by
        obtain ⟨⟨k0, k1, k2, k3⟩, ⟨k4, k5, k6⟩, kf⟩ := seven ((hrV.below hb).o.blk)
        rw [← hop]; exact k6
      clear h hBV hXV hrV hV hck hop e1 e2 hce
      go_enter Try.func29, Try.ntmps29
      go_wp2_with fail
      rw [← unhide HV]
      refine (unhide HCK).mono ?_
      rintro e w1 ⟨rfl, b1⟩
      have k6 := (unhide HK) w1 b1
      go_wp2
      go_ret
      exact ⟨rfl, (unhide HT) _ b1⟩
  · have e1 : c.ask x = checkI x := by unfold ACli.ask; rw [if_pos hck]
    have e2 : c.asked x = c := by unfold ACli.asked; rw [e1, if_neg hck]
    rw [e1, e2]
    have HT : Hid (∀ w', Below V.heap.size V w' → KTurn N w X v w' c) := fun w' hb => OTurn.of_below h.o (hBV.trans (hb.mono hBV.size))
    obtain ⟨x0, x1, x2, x3, xf⟩ := four hXV
    generalize checkI x = ci at *
    have hcb : (ci != 0) = true := by simpa using hck
    clear h hBV hXV hrV hV hce hck e1 e2
    go_enter Try.func29, Try.ntmps29
    go_wp2_with fail
    rw [← unhide HV]
    refine (unhide HCK).mono ?_
    rintro e w1 ⟨rfl, b1⟩
    go_wp2
    go_ret
    exact ⟨rfl, (unhide HT) _ b1⟩

end Go.Proofs.Ytfpommjolbipmab
