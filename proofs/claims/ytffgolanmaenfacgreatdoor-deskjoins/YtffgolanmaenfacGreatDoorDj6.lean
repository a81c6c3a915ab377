/- Texts joined, what is needed of them: Ke Kf Ki Kj Vd Ve Vf Vh. -/
import Derived.Test.YtffgolanmaenfacGreatDoorDj5
namespace Go.Proofs.YtffgolanmaenfacGreatDoor
open Go.RowKit
set_option linter.unusedSimpArgs false
set_option linter.unusedVariables false

theorem set5 {w : World} {X : Nat} {t : TypeId} {y0 y1 y2 y3 y4 y5 y6 a2 a3 a4 a5 a6 : Value} (h : w.heap[X]? = some (.cells #[y0, y1, y2, y3, y4, y5, y6] t (0, 0))) :
    (((((w.setCell ⟨X, 2, none⟩ a2).setCell ⟨X, 3, none⟩ a3).setCell ⟨X, 4, none⟩ a4).setCell ⟨X, 5, none⟩ a5).setCell ⟨X, 6, none⟩ a6).heap[X]? = some (.cells #[y0, y1, a2, a3, a4, a5, a6] t (0, 0)) ∧
    Kept [X] w (((((w.setCell ⟨X, 2, none⟩ a2).setCell ⟨X, 3, none⟩ a3).setCell ⟨X, 4, none⟩ a4).setCell ⟨X, 5, none⟩ a5).setCell ⟨X, 6, none⟩ a6) := by
  refine ⟨?_, ?_⟩
  · have h1 := heap_setCell_same (o := 6) (heap_setCell_same (o := 5) (heap_setCell_same (o := 4) (heap_setCell_same (o := 3) (heap_setCell_same (o := 2) h a2) a3) a4) a5) a6
    exact h1
  · have k : ∀ (W : World) (o : Nat) (u : Value), Kept [X] W (W.setCell ⟨X, o, none⟩ u) := fun W o u => kept_setCell [X] W X o u (by simp)
    exact ((((k _ _ _).trans (k _ _ _) (fun x hx => .inl hx)).trans (k _ _ _) (fun x hx => .inl hx)).trans (k _ _ _) (fun x hx => .inl hx)).trans (k _ _ _) (fun x hx => .inl hx)
theorem small_max {n : Nat} (h : n ≤ 281474976710656) : n ≤ maxLen := by unfold maxLen; omega

set_option maxRecDepth 100000 in
set_option maxHeartbeats 4000000 in
theorem Call_any {N : Nat} {w : World} {X : Nat} {v : Value} {c : ACli} (h : KRep N w X v c) (x : ACall) (hx : SmallC x) :
    Calls Tryz.prog 159 #[.pointer (some ⟨X, 0, none⟩), .agg #[.int .i64 x.kind, .string x.name, .string x.dst, .string x.text]] w fun e w' => e = .returned (.int .i64 (c.ask x)) ∧ KTurn N w X v w' (c.asked x) := by
  obtain ⟨V, hV⟩ : ∃ V, V = w.alloc (.cells #[.int .i64 x.kind, .string x.name, .string x.dst, .string x.text] 70) := ⟨_, rfl⟩
  have hBV : Below w.heap.size w V := by rw [hV]; exact (Below.refl _ _).alloc (Nat.le_refl _) _
  have hXV : V.heap[w.heap.size]? = some (.cells #[.int .i64 x.kind, .string x.name, .string x.dst, .string x.text] 70 (0, 0)) := by rw [hV]; exact heap_alloc_new _ _
  have hrV := h.below hBV
  have HCK := hide (Check_any x.kind x.name x.dst x.text V (small_max hx.1) (small_max hx.2.1) (small_max hx.2.2))
  have HCL := hide (fun W => cloneCall_any x W hx)
  have hce : checkI ⟨x.kind, x.name, x.dst, x.text⟩ = checkI x := rfl
  rw [hce] at HCK
  have hlV : w.heap.size < V.heap.size := (Array.getElem?_eq_some_iff.1 hXV).1
  have hXn : w.heap.size ≠ X := by have := h.o.lt; omega
  have HRV := hide hrV
  have HXV := hide hXV
  have HBV := hide hBV
  have HV := hide hV
  by_cases hck : checkI x = 0
  · cases hop : c.op
    · by_cases hfull : 200 ≤ c.done.length
      · have e1 : c.ask x = 7 := by unfold ACli.ask; rw [if_neg (by simp [hck]), if_neg (by simp [hop]), if_pos hfull]
        have e2 : c.asked x = c := by unfold ACli.asked; rw [e1, if_neg (by omega)]
        rw [e1, e2]
        rw [hck] at HCK
        have HT : Hid (∀ w', Below V.heap.size V w' → KTurn N w X v w' c) := fun w' hb => OTurn.of_below h.o (hBV.trans (hb.mono hBV.size))
        obtain ⟨x0, x1, x2, x3, xf⟩ := fourK hXV
        have HK : Hid (∀ w', Below V.heap.size V w' → ∃ a cap, w'.cell? ⟨X, 6, none⟩ = some (.bool false) ∧ w'.cell? ⟨X, 1, none⟩ = some (.slice a c.done.length cap)) := fun w' hb => by
          obtain ⟨a, cap, hv⟩ := h.o.form
          obtain ⟨⟨k0, k1, k2, k3⟩, ⟨k4, k5, k6⟩, kf⟩ := seven ((hrV.below hb).o.blk)
          exact ⟨a, cap, by rw [← hop]; exact k6, by rw [← hv]; exact k1⟩
        have hfi : (200 : Int) ≤ (c.done.length : Int) := by omega
        generalize c.done.length = n at HK hfi
        clear h hBV hXV hrV hV hck hop hfull e1 e2 hce
        go_enter Tryz.func159, Tryz.ntmps159
        go_wp2_with fail
        rw [← unhide HV]
        refine (unhide HCK).mono ?_
        rintro e w1 ⟨rfl, b1⟩
        obtain ⟨a, cap, k6, k1⟩ := (unhide HK) w1 b1
        go_wp2
        go_ret
        exact ⟨rfl, (unhide HT) _ b1⟩
      · have e1 : c.ask x = 0 := by unfold ACli.ask; rw [if_neg (by simp [hck]), if_neg (by simp [hop]), if_neg hfull]
        have e2 : c.asked x = ⟨c.me, c.done, x, true⟩ := by unfold ACli.asked; rw [e1, if_pos rfl]
        rw [e1, e2]
        rw [hck] at HCK
        have HK : Hid (∀ w', Below V.heap.size V w' → ∃ a cap, w'.heap[X]? = some (.cells #[.int .i64 c.me, .slice a c.done.length cap, .int .i64 c.call.kind, .string c.call.name, .string c.call.dst, .string c.call.text, .bool false] 118 (0, 0)) ∧ v = .slice a c.done.length cap) := fun w' hb => by
          obtain ⟨a, cap, hv⟩ := h.o.form
          have := (hrV.below hb).o.blk
          unfold kcells at this
          rw [hop, hv] at this
          exact ⟨a, cap, this, hv⟩
        have HXK : Hid (∀ w', Below V.heap.size V w' → w'.heap[w.heap.size]? = some (.cells #[.int .i64 x.kind, .string x.name, .string x.dst, .string x.text] 70 (0, 0))) := fun w' hb => (hb.block _ hlV).trans hXV
        obtain ⟨x0, x1, x2, x3, xf⟩ := fourK hXV
        have hXl : X < V.heap.size := hrV.o.lt
        have hfi : ¬ (200 : Int) ≤ (c.done.length : Int) := by omega
        clear hBV hXV hrV hV hck hop hfull e1 e2 hce
        have HH := hide h
        clear h
        obtain ⟨me, done, ⟨ck, ca, cb, ct⟩, op⟩ := c
        obtain ⟨xk, xa, xb, xt⟩ := x
        dsimp only at *
        obtain ⟨n, hn⟩ : ∃ n, done.length = n := ⟨_, rfl⟩
        rw [hn] at HK hfi
        go_enter Tryz.func159, Tryz.ntmps159
        go_wp2_with fail
        rw [← unhide HV]
        refine (unhide HCK).mono ?_
        rintro e w1 ⟨rfl, b1⟩
        clear x0 x1 x2 x3 xf
        have HX1 := hide ((unhide HXK) w1 b1)
        obtain ⟨a, cap, hk1, hv⟩ := (unhide HK) w1 b1
        subst hv
        obtain ⟨⟨k0, k1, k2, k3⟩, ⟨k4, k5, k6⟩, kf⟩ := seven hk1
        obtain ⟨x0, x1, x2, x3, xf⟩ := fourK (unhide HX1)
        go_wp2_with fail
        refine ((unhide HCL) _).mono ?_
        rintro e w2 ⟨rfl, b2⟩
        have b2' := b1.trans (b2.mono b1.size)
        clear k0 k1 k2 k3 k4 k5 k6 kf x0 x1 x2 x3 xf
        obtain ⟨a', cap', hk2, hv'⟩ := (unhide HK) w2 b2'
        cases hv'
        obtain ⟨⟨k0, k1, k2, k3⟩, ⟨k4, k5, k6⟩, kf⟩ := seven hk2
        obtain ⟨hs1, hs2⟩ := set5 (a2 := .int .i64 xk) (a3 := .string xa) (a4 := .string xb) (a5 := .string xt) (a6 := .bool true) hk2
        have hT : KTurn N w X (.slice a n cap) _ ⟨me, done, ⟨xk, xa, xb, xt⟩, true⟩ := ((((unhide HH).below ((unhide HBV).trans (b2'.mono (unhide HBV).size))).o).reblk hs1 hs2).before ((unhide HBV).trans (b2'.mono (unhide HBV).size))
        have HT := hide hT
        clear hs1 hs2 hT
        go_wp2
        go_ret
        exact ⟨rfl, unhide HT⟩
    · have e1 : c.ask x = 11 := by unfold ACli.ask; rw [if_neg (by simp [hck]), if_pos hop]
      have e2 : c.asked x = c := by unfold ACli.asked; rw [e1, if_neg (by omega)]
      rw [e1, e2]
      rw [hck] at HCK
      have HT : Hid (∀ w', Below V.heap.size V w' → KTurn N w X v w' c) := fun w' hb => OTurn.of_below h.o (hBV.trans (hb.mono hBV.size))
      obtain ⟨x0, x1, x2, x3, xf⟩ := fourK hXV
      have HK : Hid (∀ w', Below V.heap.size V w' → w'.cell? ⟨X, 6, none⟩ = some (.bool true)) := fun w' hb => by
        obtain ⟨⟨k0, k1, k2, k3⟩, ⟨k4, k5, k6⟩, kf⟩ := seven ((hrV.below hb).o.blk)
        rw [← hop]; exact k6
      clear h hBV hXV hrV hV hck hop e1 e2 hce
      go_enter Tryz.func159, Tryz.ntmps159
      go_wp2_with fail
      rw [← unhide HV]
      refine (unhide HCK).mono ?_
      rintro e w1 ⟨rfl, b1⟩
      have k6 := (unhide HK) w1 b1
      go_wp2
      go_ret
      exact ⟨rfl, (unhide HT) _ b1⟩
  · have e1 : c.ask x = checkI x := by unfold ACli.ask; rw [if_pos hck]
    have e2 : c.asked x = c := by unfold ACli.asked; rw [e1, if_neg hck]
    rw [e1, e2]
    have HT : Hid (∀ w', Below V.heap.size V w' → KTurn N w X v w' c) := fun w' hb => OTurn.of_below h.o (hBV.trans (hb.mono hBV.size))
    obtain ⟨x0, x1, x2, x3, xf⟩ := fourK hXV
    generalize checkI x = ci at *
    have hcb : (ci != 0) = true := by simpa using hck
    clear h hBV hXV hrV hV hce hck e1 e2
    go_enter Tryz.func159, Tryz.ntmps159
    go_wp2_with fail
    rw [← unhide HV]
    refine (unhide HCK).mono ?_
    rintro e w1 ⟨rfl, b1⟩
    go_wp2
    go_ret
    exact ⟨rfl, (unhide HT) _ b1⟩

end Go.Proofs.YtffgolanmaenfacGreatDoor

namespace Go.Proofs.YtffgolanmaenfacGreatDoor
open Go.RowKit
set_option linter.unusedSimpArgs false
set_option linter.unusedVariables false

def zeroP : Array Value := #[.bool false, .int .i64 0, .int .i64 0, .int .i64 0, .string ⟨#[]⟩, .string ⟨#[]⟩, .string ⟨#[]⟩, .int .i64 0, .string ⟨#[]⟩]

theorem set9 {w : World} {X : Nat} {t : TypeId} {y0 y1 y2 y3 y4 y5 y6 y7 y8 a0 a1 a2 a3 a4 a5 a6 a7 a8 : Value} (h : w.heap[X]? = some (.cells #[y0, y1, y2, y3, y4, y5, y6, y7, y8] t (0, 0))) :
    (((((((((w.setCell ⟨X, 0, none⟩ a0).setCell ⟨X, 1, none⟩ a1).setCell ⟨X, 2, none⟩ a2).setCell ⟨X, 3, none⟩ a3).setCell ⟨X, 4, none⟩ a4).setCell ⟨X, 5, none⟩ a5).setCell ⟨X, 6, none⟩ a6).setCell ⟨X, 7, none⟩ a7).setCell ⟨X, 8, none⟩ a8).heap[X]? = some (.cells #[a0, a1, a2, a3, a4, a5, a6, a7, a8] t (0, 0)) ∧
    Kept [X] w (((((((((w.setCell ⟨X, 0, none⟩ a0).setCell ⟨X, 1, none⟩ a1).setCell ⟨X, 2, none⟩ a2).setCell ⟨X, 3, none⟩ a3).setCell ⟨X, 4, none⟩ a4).setCell ⟨X, 5, none⟩ a5).setCell ⟨X, 6, none⟩ a6).setCell ⟨X, 7, none⟩ a7).setCell ⟨X, 8, none⟩ a8) := by
  have k : ∀ (W : World) (o : Nat) (u : Value), Kept [X] W (W.setCell ⟨X, o, none⟩ u) := fun W o u => kept_setCell [X] W X o u (by simp)
  have k0 := Kept.refl [X] w
  have h1 : (w.setCell ⟨X, 0, none⟩ a0).heap[X]? = some (.cells #[a0, y1, y2, y3, y4, y5, y6, y7, y8] t (0, 0)) := heap_setCell_same h a0
  have k1 := k0.trans (k w 0 a0) (fun x hx => .inl hx)
  generalize w.setCell ⟨X, 0, none⟩ a0 = w1 at *
  have h2 : (w1.setCell ⟨X, 1, none⟩ a1).heap[X]? = some (.cells #[a0, a1, y2, y3, y4, y5, y6, y7, y8] t (0, 0)) := heap_setCell_same h1 a1
  have k2 := k1.trans (k w1 1 a1) (fun x hx => .inl hx)
  generalize w1.setCell ⟨X, 1, none⟩ a1 = w2 at *
  have h3 : (w2.setCell ⟨X, 2, none⟩ a2).heap[X]? = some (.cells #[a0, a1, a2, y3, y4, y5, y6, y7, y8] t (0, 0)) := heap_setCell_same h2 a2
  have k3 := k2.trans (k w2 2 a2) (fun x hx => .inl hx)
  generalize w2.setCell ⟨X, 2, none⟩ a2 = w3 at *
  have h4 : (w3.setCell ⟨X, 3, none⟩ a3).heap[X]? = some (.cells #[a0, a1, a2, a3, y4, y5, y6, y7, y8] t (0, 0)) := heap_setCell_same h3 a3
  have k4 := k3.trans (k w3 3 a3) (fun x hx => .inl hx)
  generalize w3.setCell ⟨X, 3, none⟩ a3 = w4 at *
  have h5 : (w4.setCell ⟨X, 4, none⟩ a4).heap[X]? = some (.cells #[a0, a1, a2, a3, a4, y5, y6, y7, y8] t (0, 0)) := heap_setCell_same h4 a4
  have k5 := k4.trans (k w4 4 a4) (fun x hx => .inl hx)
  generalize w4.setCell ⟨X, 4, none⟩ a4 = w5 at *
  have h6 : (w5.setCell ⟨X, 5, none⟩ a5).heap[X]? = some (.cells #[a0, a1, a2, a3, a4, a5, y6, y7, y8] t (0, 0)) := heap_setCell_same h5 a5
  have k6 := k5.trans (k w5 5 a5) (fun x hx => .inl hx)
  generalize w5.setCell ⟨X, 5, none⟩ a5 = w6 at *
  have h7 : (w6.setCell ⟨X, 6, none⟩ a6).heap[X]? = some (.cells #[a0, a1, a2, a3, a4, a5, a6, y7, y8] t (0, 0)) := heap_setCell_same h6 a6
  have k7 := k6.trans (k w6 6 a6) (fun x hx => .inl hx)
  generalize w6.setCell ⟨X, 6, none⟩ a6 = w7 at *
  have h8 : (w7.setCell ⟨X, 7, none⟩ a7).heap[X]? = some (.cells #[a0, a1, a2, a3, a4, a5, a6, a7, y8] t (0, 0)) := heap_setCell_same h7 a7
  have k8 := k7.trans (k w7 7 a7) (fun x hx => .inl hx)
  generalize w7.setCell ⟨X, 7, none⟩ a7 = w8 at *
  have h9 : (w8.setCell ⟨X, 8, none⟩ a8).heap[X]? = some (.cells #[a0, a1, a2, a3, a4, a5, a6, a7, a8] t (0, 0)) := heap_setCell_same h8 a8
  have k9 := k8.trans (k w8 8 a8) (fun x hx => .inl hx)
  generalize w8.setCell ⟨X, 8, none⟩ a8 = w9 at *
  exact ⟨h9, k9⟩

set_option maxRecDepth 100000 in
set_option maxHeartbeats 4000000 in
theorem Send_none {N : Nat} {w : World} {X : Nat} {v : Value} {c : ACli} (h : KRep N w X v c) (hop : c.op = false) :
    Calls Tryz.prog 160 #[.pointer (some ⟨X, 0, none⟩)] w fun e w' => e = .returned (.tuple #[zeroPkt.val, .bool false]) ∧ Below w.heap.size w w' := by
  obtain ⟨V, hV⟩ : ∃ V, V = w.alloc (.cells zeroP 102) := ⟨_, rfl⟩
  have hBV : Below w.heap.size w V := by rw [hV]; exact (Below.refl _ _).alloc (Nat.le_refl _) _
  have hYV : V.heap[w.heap.size]? = some (.cells zeroP 102 (0, 0)) := by rw [hV]; exact heap_alloc_new _ _
  obtain ⟨⟨k0, k1, k2, k3⟩, ⟨k4, k5, k6⟩, kf⟩ := seven h.o.blk
  have hXl := h.o.lt
  rw [hop] at k6
  obtain ⟨V5, hV5⟩ : ∃ W, W = V.setRow w.heap.size zeroP := ⟨_, rfl⟩
  have hZ : V5.heap[w.heap.size]? = some (.cells zeroP 102 (0, 0)) := by rw [hV5]; exact setRow_heap V w.heap.size _ _ 102 (0, 0) hYV
  have HB5 : Hid (Below w.heap.size w V5) := by
    rw [hV5]
    exact ⟨hBV.os, hBV.tape, hBV.output, by simp [World.setRow]; exact hBV.size, fun k hk => (setRow_other V w.heap.size k _ (by omega)).trans (hBV.block k hk)⟩
  rw [hV] at hV5 hYV
  dsimp only [zeroP, zeroPkt, APkt.val] at *
  obtain ⟨⟨z0, z1, z2, z3⟩, ⟨z4, z5, z6, z7, z8⟩, _⟩ := nine hZ
  clear h hop hBV hZ hV k0 k1 k2 k3 k4 k5 kf
  go_enter Tryz.func160, Tryz.ntmps160
  go_wp2_with (refine wpList_store_row rfl 102 _ _ rfl w.heap.size #[.bool false, .int .i64 0, .int .i64 0, .int .i64 0, .string ⟨#[]⟩, .string ⟨#[]⟩, .string ⟨#[]⟩, .int .i64 0, .string ⟨#[]⟩] rfl rfl 102 _ hYV infoP rfl (by simp [Value.oneCell']) ?_)
  rw [← hV5]
  refine bodyPost_ret (v := .tuple #[.agg #[.bool false, .int .i64 0, .int .i64 0, .int .i64 0, .string ⟨#[]⟩, .string ⟨#[]⟩, .string ⟨#[]⟩, .int .i64 0, .string ⟨#[]⟩], .bool false]) (by simp [results, Tryz.results160, go_sem, z0, z1, z2, z3, z4, z5, z6, z7, z8]) rfl ⟨rfl, unhide HB5⟩

set_option maxRecDepth 100000 in
set_option maxHeartbeats 4000000 in
theorem Send_some {N : Nat} {w : World} {X : Nat} {v : Value} {c : ACli} (h : KRep N w X v c) (hop : c.op = true) :
    Calls Tryz.prog 160 #[.pointer (some ⟨X, 0, none⟩)] w fun e w' => e = .returned (.tuple #[(⟨false, c.me, c.no, c.call, 0, ⟨#[]⟩⟩ : APkt).val, .bool true]) ∧ Below w.heap.size w w' := by
  obtain ⟨V, hV⟩ : ∃ V, V = w.alloc (.cells zeroP 102) := ⟨_, rfl⟩
  have hBV : Below w.heap.size w V := by rw [hV]; exact (Below.refl _ _).alloc (Nat.le_refl _) _
  have hYV : V.heap[w.heap.size]? = some (.cells zeroP 102 (0, 0)) := by rw [hV]; exact heap_alloc_new _ _
  have hrV := h.below hBV
  have HNO := hide (number_any (hrV.below (below_drew V)))
  have HCL := hide (fun W => cloneCall_any c.call W h.ok.smallc)
  obtain ⟨⟨k0, k1, k2, k3⟩, ⟨k4, k5, k6⟩, kf⟩ := seven h.o.blk
  obtain ⟨⟨j0, j1, j2, j3⟩, ⟨j4, j5, j6⟩, jf⟩ := seven hrV.o.blk
  have hXl := h.o.lt
  have hXV : X < V.heap.size := hrV.o.lt
  have hzV : V.heap.size = w.heap.size + 1 := by rw [hV]; simp
  rw [hop] at k6
  have HYV := hide hYV
  have HBV := hide hBV
  have HV := hide hV
  have hXne : w.heap.size ≠ X := by omega
  have HF : Hid (∀ W, Below V.heap.size V W → W.cell? ⟨X, 0, none⟩ = some (.int .i64 c.me) ∧ W.cell? ⟨X, 2, none⟩ = some (.int .i64 c.call.kind) ∧ W.cell? ⟨X, 3, none⟩ = some (.string c.call.name) ∧ W.cell? ⟨X, 4, none⟩ = some (.string c.call.dst) ∧ W.cell? ⟨X, 5, none⟩ = some (.string c.call.text)) := fun W hW => by
    obtain ⟨⟨y0, y1, y2, y3⟩, ⟨y4, y5, y6⟩, yf⟩ := seven (hrV.below hW).o.blk
    exact ⟨y0, y2, y3, y4, y5⟩
  have HYF : Hid (∀ W, Below V.heap.size V W → W.heap[w.heap.size]? = some (.cells zeroP 102 (0, 0))) := fun W hW => (hW.block _ (by omega)).trans hYV
  generalize c.no = cno at HNO ⊢
  obtain ⟨me, done, ⟨ck, ca, cb, ct⟩, op⟩ := c
  dsimp only [zeroP, zeroPkt, APkt.val] at *
  clear h hBV hYV hrV hV hop k0 k1 k2 k3 k4 k5 kf j1 j6
  go_enter Tryz.func160, Tryz.ntmps160
  go_wp2_with fail
  rw [← unhide HV]
  clear k6
  go_region_held3 (fun W => W.cell? ⟨X, 0, none⟩ = some (.int .i64 me) ∧ W.cell? ⟨X, 2, none⟩ = some (.int .i64 ck) ∧ W.cell? ⟨X, 3, none⟩ = some (.string ca) ∧ W.cell? ⟨X, 4, none⟩ = some (.string cb) ∧ W.cell? ⟨X, 5, none⟩ = some (.string ct)) (first | (go_keep; done) | (simp [World.cell?_setCell_far, hXne, q0, q2, q3, q4, q5]; done)) (first
    | (go_at_call 191; refine (unhide HNO).mono ?_; rintro e w1 ⟨rfl, hw1⟩; obtain rfl := hw1.symm; clear hw1)
    | (go_at_call 173; refine ((unhide HCL) _).mono ?_; rintro e w2 ⟨rfl, b2⟩; have bV2 := (below_drew V).trans b2; obtain ⟨q0, q2, q3, q4, q5⟩ := (unhide HF) w2 bV2; have hY2 := (unhide HYF) w2 bV2; obtain ⟨⟨r0, r1, r2, r3⟩, ⟨r4, r5, r6, r7, r8⟩, rf⟩ := nine hY2))
  all_goals
    obtain ⟨hs1, hs2⟩ := set9 (a0 := .bool false) (a1 := .int .i64 me) (a2 := .int .i64 cno) (a3 := .int .i64 ck) (a4 := .string ca) (a5 := .string cb) (a6 := .string ct) (a7 := .int .i64 0) (a8 := .string ⟨#[]⟩) hY2
    have hB5 := ((unhide HBV).trans (bV2.mono (unhide HBV).size)).trans (hs2.below (by have := bV2.size; omega) (by simp))
    have HB5 := hide hB5
    obtain ⟨⟨z0, z1, z2, z3⟩, ⟨z4, z5, z6, z7, z8⟩, _⟩ := nine hs1
    clear hs1 hs2 hB5 hY2 r0 r1 r2 r3 r4 r5 r6 r7 r8 rf q0 q2 q3 q4 q5 j0 j2 j3 j4 j5 jf b2 bV2
    go_wp2
    refine bodyPost_ret (v := .tuple #[.agg #[.bool false, .int .i64 me, .int .i64 cno, .int .i64 ck, .string ca, .string cb, .string ct, .int .i64 0, .string ⟨#[]⟩], .bool true]) (by simp [results, Tryz.results160, go_sem, z0, z1, z2, z3, z4, z5, z6, z7, z8]) rfl ⟨rfl, unhide HB5⟩

theorem Send_any {N : Nat} {w : World} {X : Nat} {v : Value} {c : ACli} (h : KRep N w X v c) :
    Calls Tryz.prog 160 #[.pointer (some ⟨X, 0, none⟩)] w fun e w' => e = .returned (.tuple #[c.pkt.val, .bool c.op]) ∧ Below w.heap.size w w' := by
  unfold ACli.pkt
  cases hop : c.op
  · exact Send_none h hop
  · exact Send_some h hop

end Go.Proofs.YtffgolanmaenfacGreatDoor

namespace Go.Proofs.YtffgolanmaenfacGreatDoor
open Go.RowKit
set_option linter.unusedSimpArgs false
set_option linter.unusedVariables false

theorem set8K {w : World} {X : Nat} {t : TypeId} {y0 y1 y2 y3 y4 y5 y6 y7 a0 a1 a2 a3 a4 a5 a6 a7 : Value} (h : w.heap[X]? = some (.cells #[y0, y1, y2, y3, y4, y5, y6, y7] t (0, 0))) :
    ((((((((w.setCell ⟨X, 0, none⟩ a0).setCell ⟨X, 1, none⟩ a1).setCell ⟨X, 2, none⟩ a2).setCell ⟨X, 3, none⟩ a3).setCell ⟨X, 4, none⟩ a4).setCell ⟨X, 5, none⟩ a5).setCell ⟨X, 6, none⟩ a6).setCell ⟨X, 7, none⟩ a7).heap[X]? = some (.cells #[a0, a1, a2, a3, a4, a5, a6, a7] t (0, 0)) ∧
    Kept [X] w ((((((((w.setCell ⟨X, 0, none⟩ a0).setCell ⟨X, 1, none⟩ a1).setCell ⟨X, 2, none⟩ a2).setCell ⟨X, 3, none⟩ a3).setCell ⟨X, 4, none⟩ a4).setCell ⟨X, 5, none⟩ a5).setCell ⟨X, 6, none⟩ a6).setCell ⟨X, 7, none⟩ a7) := by
  have k : ∀ (W : World) (o : Nat) (u : Value), Kept [X] W (W.setCell ⟨X, o, none⟩ u) := fun W o u => kept_setCell [X] W X o u (by simp)
  have k0 := Kept.refl [X] w
  have h1 : (w.setCell ⟨X, 0, none⟩ a0).heap[X]? = some (.cells #[a0, y1, y2, y3, y4, y5, y6, y7] t (0, 0)) := heap_setCell_same h a0
  have k1 := k0.trans (k w 0 a0) (fun x hx => .inl hx)
  generalize w.setCell ⟨X, 0, none⟩ a0 = w1 at *
  have h2 : (w1.setCell ⟨X, 1, none⟩ a1).heap[X]? = some (.cells #[a0, a1, y2, y3, y4, y5, y6, y7] t (0, 0)) := heap_setCell_same h1 a1
  have k2 := k1.trans (k w1 1 a1) (fun x hx => .inl hx)
  generalize w1.setCell ⟨X, 1, none⟩ a1 = w2 at *
  have h3 : (w2.setCell ⟨X, 2, none⟩ a2).heap[X]? = some (.cells #[a0, a1, a2, y3, y4, y5, y6, y7] t (0, 0)) := heap_setCell_same h2 a2
  have k3 := k2.trans (k w2 2 a2) (fun x hx => .inl hx)
  generalize w2.setCell ⟨X, 2, none⟩ a2 = w3 at *
  have h4 : (w3.setCell ⟨X, 3, none⟩ a3).heap[X]? = some (.cells #[a0, a1, a2, a3, y4, y5, y6, y7] t (0, 0)) := heap_setCell_same h3 a3
  have k4 := k3.trans (k w3 3 a3) (fun x hx => .inl hx)
  generalize w3.setCell ⟨X, 3, none⟩ a3 = w4 at *
  have h5 : (w4.setCell ⟨X, 4, none⟩ a4).heap[X]? = some (.cells #[a0, a1, a2, a3, a4, y5, y6, y7] t (0, 0)) := heap_setCell_same h4 a4
  have k5 := k4.trans (k w4 4 a4) (fun x hx => .inl hx)
  generalize w4.setCell ⟨X, 4, none⟩ a4 = w5 at *
  have h6 : (w5.setCell ⟨X, 5, none⟩ a5).heap[X]? = some (.cells #[a0, a1, a2, a3, a4, a5, y6, y7] t (0, 0)) := heap_setCell_same h5 a5
  have k6 := k5.trans (k w5 5 a5) (fun x hx => .inl hx)
  generalize w5.setCell ⟨X, 5, none⟩ a5 = w6 at *
  have h7 : (w6.setCell ⟨X, 6, none⟩ a6).heap[X]? = some (.cells #[a0, a1, a2, a3, a4, a5, a6, y7] t (0, 0)) := heap_setCell_same h6 a6
  have k7 := k6.trans (k w6 6 a6) (fun x hx => .inl hx)
  generalize w6.setCell ⟨X, 6, none⟩ a6 = w7 at *
  have h8 : (w7.setCell ⟨X, 7, none⟩ a7).heap[X]? = some (.cells #[a0, a1, a2, a3, a4, a5, a6, a7] t (0, 0)) := heap_setCell_same h7 a7
  have k8 := k7.trans (k w7 7 a7) (fun x hx => .inl hx)
  generalize w7.setCell ⟨X, 7, none⟩ a7 = w8 at *
  exact ⟨h8, k8⟩

set_option maxRecDepth 100000 in
set_option maxHeartbeats 4000000 in
theorem Hear_none {N : Nat} {w : World} {X : Nat} {v : Value} {c : ACli} (h : KRep N w X v c) (p : APkt) (hp : c.hears p = false) :
    Calls Tryz.prog 214 #[.pointer (some ⟨X, 0, none⟩), p.val] w fun e w' => e = .returned (.bool false) ∧ KTurn N w X v w' c := by
  obtain ⟨V, hV⟩ : ∃ V, V = w.alloc (.cells (pArr p) 102) := ⟨_, rfl⟩
  have hBV : Below w.heap.size w V := by rw [hV]; exact (Below.refl _ _).alloc (Nat.le_refl _) _
  have HAW := hide (awaits_any (h.below hBV) p)
  rw [hp] at HAW
  have HT : Hid (∀ w', Below V.heap.size V w' → KTurn N w X v w' c) := fun w' hb => OTurn.of_below h.o (hBV.trans (hb.mono hBV.size))
  have HV := hide hV
  obtain ⟨y, pc, pn, ⟨pk, s1, s2, s3⟩, d, u⟩ := p
  dsimp only [APkt.val, pArr] at *
  clear h hBV hV hp
  go_enter Tryz.func214, Tryz.ntmps214
  go_wp2_with fail
  rw [← unhide HV]
  refine (unhide HAW).mono ?_
  rintro e w1 ⟨rfl, b1⟩
  go_wp2
  go_ret
  exact ⟨rfl, (unhide HT) _ b1⟩

set_option maxRecDepth 100000 in
set_option maxHeartbeats 4000000 in
theorem Hear_some {N : Nat} {w : World} {X : Nat} {v : Value} {c : ACli} (h : KRep N w X v c) (p : APkt) (hsm : SmallP p) (hp : c.hears p = true) :
    Calls Tryz.prog 214 #[.pointer (some ⟨X, 0, none⟩), p.val] w fun e w' => e = .returned (.bool true) ∧ KTurn N w X v w' (c.heard p) := by
  have e2 : c.heard p = ⟨c.me, c.done ++ [c.rcd p], zeroCall, false⟩ := by unfold ACli.heard; rw [if_pos hp]
  rw [e2]
  clear e2
  obtain ⟨V, hV⟩ : ∃ V, V = w.alloc (.cells (pArr p) 102) := ⟨_, rfl⟩
  have hBV : Below w.heap.size w V := by rw [hV]; exact (Below.refl _ _).alloc (Nat.le_refl _) _
  have hPV : V.heap[w.heap.size]? = some (.cells (pArr p) 102 (0, 0)) := by rw [hV]; exact heap_alloc_new _ _
  have hrV := h.below hBV
  have hXV : X < V.heap.size := hrV.o.lt
  have hzV : V.heap.size = w.heap.size + 1 := by rw [hV]; simp
  have HAW := hide (awaits_any hrV p)
  rw [hp] at HAW
  have HNO : Hid (∀ W, Below V.heap.size V W → Calls Tryz.prog 191 #[.pointer (some ⟨X, 0, none⟩)] W fun e w' => e = .returned (.int .i64 c.no) ∧ w' = W) := fun W hW => number_any (hrV.below hW)
  have HCA := hide (fun W => cloneAnswer_any p.code p.ans W hsm.2.2.2)
  have HF : Hid (∀ W, Below V.heap.size V W → W.cell? ⟨X, 0, none⟩ = some (.int .i64 c.me) ∧ W.cell? ⟨X, 2, none⟩ = some (.int .i64 c.call.kind) ∧ W.cell? ⟨X, 3, none⟩ = some (.string c.call.name) ∧ W.cell? ⟨X, 4, none⟩ = some (.string c.call.dst) ∧ W.cell? ⟨X, 5, none⟩ = some (.string c.call.text) ∧ W.cell? ⟨w.heap.size, 7, none⟩ = some (.int .i64 p.code) ∧ W.cell? ⟨w.heap.size, 8, none⟩ = some (.string p.ans)) := fun W hW => by
    obtain ⟨⟨y0, y1, y2, y3⟩, ⟨y4, y5, y6⟩, yf⟩ := seven (hrV.below hW).o.blk
    obtain ⟨⟨z0, z1, z2, z3⟩, ⟨z4, z5, z6, z7, z8⟩, _⟩ := nine ((hW.block _ (by omega)).trans hPV)
    exact ⟨y0, y2, y3, y4, y5, z7, z8⟩
  have HH := hide h
  have HOP : Hid (c.op = true) := by
    unfold ACli.hears at hp
    simp only [Bool.and_eq_true] at hp
    exact hp.1.1.1.1
  obtain ⟨i0, hi0, hz0, hz1', hz2⟩ := info_parts info111
  have HBV := hide hBV
  have HV := hide hV
  have hXl := h.o.lt
  unfold ACli.rcd
  generalize c.no = cno at HNO ⊢
  obtain ⟨me, done, ⟨ck, ca, cb, ct⟩, op⟩ := c
  obtain ⟨y, pc, pn, ⟨pk, s1, s2, s3⟩, d, u⟩ := p
  dsimp only [APkt.val, pArr] at *
  clear h hBV hV hp hrV hPV hsm
  go_enter Tryz.func214, Tryz.ntmps214
  go_wp2_with fail
  rw [← unhide HV]
  refine (unhide HAW).mono ?_
  rintro e w1 ⟨rfl, b1⟩
  go_wp2_with fail
  obtain ⟨x0, x2, x3, x4, x5, x7, x8⟩ := (unhide HF) w1 b1
  have hz1 := b1.size
  have hX1 : X < w1.heap.size := by omega
  have hP1 : w.heap.size < w1.heap.size := by omega
  have hne1 : w1.heap.size ≠ X := by omega
  have hne2 : w1.heap.size ≠ w.heap.size := by omega
  go_region_held3 (fun W => W.cell? ⟨X, 0, none⟩ = some (.int .i64 me) ∧ W.cell? ⟨X, 2, none⟩ = some (.int .i64 ck) ∧ W.cell? ⟨X, 3, none⟩ = some (.string ca) ∧ W.cell? ⟨X, 4, none⟩ = some (.string cb) ∧ W.cell? ⟨X, 5, none⟩ = some (.string ct) ∧ W.cell? ⟨w.heap.size, 7, none⟩ = some (.int .i64 d) ∧ W.cell? ⟨w.heap.size, 8, none⟩ = some (.string u)) (first | (go_keep; done) | (refine ⟨?_, ?_, ?_, ?_, ?_, ?_, ?_⟩ <;> (rw [al_old _ _ _ _ (by assumption)]; assumption)) | (simp [World.cell?_setCell_far, hne1, hne2, q0, q2, q3, q4, q5, q7, q8]; done)) (first
    | (go_at_call 191; refine ((unhide HNO) _ (by first | exact b1.trans ((below_drew w1).mono hz1) | exact b1.trans ((below_drew_alloc w1 _).mono hz1) | exact b1.trans ((below_alloc_drew w1 _).mono hz1))).mono ?_; rintro e w2 ⟨rfl, hw2⟩; obtain rfl := hw2.symm; clear hw2)
    | (go_at_call 174; refine ((unhide HCA) _).mono ?_; rintro e w3 ⟨rfl, b3⟩; have bV3 : Below V.heap.size V w3 := (by first | exact b1.trans (((below_drew w1).trans b3).mono hz1) | exact b1.trans (((below_drew_alloc w1 _).trans (b3.mono (by simp))).mono hz1) | exact b1.trans (((below_alloc_drew w1 _).trans (b3.mono (by simp))).mono hz1)); obtain ⟨q0, q2, q3, q4, q5, q7, q8⟩ := (unhide HF) w3 bV3; try (have hR3 : w3.heap[w1.heap.size]? = some (.cells #[.int .i64 0, .int .i64 0, .int .i64 0, .string ⟨#[]⟩, .string ⟨#[]⟩, .string ⟨#[]⟩, .int .i64 0, .string ⟨#[]⟩] 111 (0, 0)) := (b3.block w1.heap.size (by simp)).trans (heap_alloc_new w1 _); obtain ⟨⟨m0, m1, m2, m3⟩, ⟨m4, m5, m6, m7⟩, mf⟩ := eightK hR3)))
  all_goals have hz3 := bV3.size
  all_goals first
    | (obtain ⟨W, hW⟩ : ∃ W, W = w3.alloc (.cells #[.int .i64 me, .int .i64 cno, .int .i64 ck, .string ca, .string cb, .string ct, .int .i64 d, .string u] 111) := ⟨_, rfl⟩
       obtain ⟨Bk, hBk⟩ : ∃ B, B = w3.heap.size := ⟨_, rfl⟩
       have hWB : W.heap[Bk]? = some (.cells #[.int .i64 me, .int .i64 cno, .int .i64 ck, .string ca, .string cb, .string ct, .int .i64 d, .string u] 111 (0, 0)) := by rw [hW, hBk]; exact heap_alloc_new _ _
       have hBW : Below V.heap.size V W := by rw [hW]; exact bV3.alloc bV3.size _
       have hBkV : V.heap.size ≤ Bk := by omega
       rw [← hW, ← hBk]
       clear hW hBk)
    | (obtain ⟨hs1, hs2⟩ := set8K (a0 := .int .i64 me) (a1 := .int .i64 cno) (a2 := .int .i64 ck) (a3 := .string ca) (a4 := .string cb) (a5 := .string ct) (a6 := .int .i64 d) (a7 := .string u) hR3
       obtain ⟨W, hW⟩ : ∃ W, W = ((((((((w3.setCell ⟨w1.heap.size, 0, none⟩ (.int .i64 me)).setCell ⟨w1.heap.size, 1, none⟩ (.int .i64 cno)).setCell ⟨w1.heap.size, 2, none⟩ (.int .i64 ck)).setCell ⟨w1.heap.size, 3, none⟩ (.string ca)).setCell ⟨w1.heap.size, 4, none⟩ (.string cb)).setCell ⟨w1.heap.size, 5, none⟩ (.string ct)).setCell ⟨w1.heap.size, 6, none⟩ (.int .i64 d)).setCell ⟨w1.heap.size, 7, none⟩ (.string u)) := ⟨_, rfl⟩
       obtain ⟨Bk, hBk⟩ : ∃ B, B = w1.heap.size := ⟨_, rfl⟩
       rw [← hW] at hs1 hs2
       have hWB : W.heap[Bk]? = some (.cells #[.int .i64 me, .int .i64 cno, .int .i64 ck, .string ca, .string cb, .string ct, .int .i64 d, .string u] 111 (0, 0)) := by rw [hBk]; exact hs1
       have hBW : Below V.heap.size V W := bV3.trans (hs2.below (by omega) (by simp; omega))
       have hBkV : V.heap.size ≤ Bk := by omega
       rw [← hW, ← hBk]
       clear hW hBk hs1 hs2)
  all_goals
    have hbwW : Below w.heap.size w W := (unhide HBV).trans (hBW.mono (unhide HBV).size)
    have hrW := (unhide HH).below hbwW
    obtain ⟨a, cap, hv⟩ := hrW.o.form
    subst hv
    obtain ⟨k, hk⟩ : ∃ k, done.length = k := ⟨_, rfl⟩
    rw [hk] at hrW
    have nB := hrW.o.nd
    have HRW := hide hrW
    have HbwW := hide hbwW
    have hk200 : k < 200 := by rw [← hk]; exact hrW.ok.room (unhide HOP)
    have HOR : Hid (∀ wx, Below W.heap.size W wx → wx.ownsRow N 111 8 (.slice a k cap) k (done.flatMap rcells)) := fun wx hb => by have := ((unhide HRW).below (w' := wx) hb).o.row; rw [hk] at this; exact this
    have HFX : Hid (∀ wx, Below W.heap.size W wx → Can wx X 1 (.slice a k cap)) := fun wx hb => by
      obtain ⟨⟨y0, y1, y2, y3⟩, ⟨y4, y5, y6⟩, yf⟩ := seven ((unhide HRW).below (w' := wx) hb).o.blk
      exact ⟨y1, yf 1⟩
    have hBWl : Bk < W.heap.size := (Array.getElem?_eq_some_iff.1 hWB).1
    have hXW : X < W.heap.size := hrW.o.lt
    have HNN : Hid (N ≤ W.heap.size) := hrW.o.size
    obtain ⟨⟨m0, m1, m2, m3⟩, ⟨m4, m5, m6, m7⟩, mf⟩ := eightK hWB
    have hc1 := ((unhide HFX) W (Below.refl _ _)).1
    have hf1 := ((unhide HFX) W (Below.refl _ _)).2
    have HK := hide hk
    clear hrW hbwW hk x0 x2 x3 x4 x5 x7 x8 q0 q2 q3 q4 q5 q7 q8 b1 hne1 hne2 hX1 hP1 hz1
    go_wp2_with fail
    go_region_law (first
      | (refine step_append_lies _ (by rfl) _ _ _ (by rfl) N 111 i0 _ 8 96 Tryz.underlying66 hi0 hz0 hz1' hz2 rfl (by omega) (.slice a k cap) k (done.flatMap rcells) (by rfl) (HOR.out _ (below_alloc_drew W _))
          ⟨W.heap.size, 0, none⟩ 1 1 [.int .i64 me, .int .i64 cno, .int .i64 ck, .string ca, .string cb, .string ct, .int .i64 d, .string u] (by rfl) (by rfl) (World.news_of_block (cs := #[.int .i64 me, .int .i64 cno, .int .i64 ck, .string ca, .string cb, .string ct, .int .i64 d, .string u]) (t := 111) (fr := (0, 0)) (alloc_drew_new W _)) (by simp [Value.oneCell'])
          (by omega) (by unfold maxLen; omega) (by omega) (by have h4 := unhide HNN; simp; omega) (W.heap.size + 1) (by simp) ?_; intro g cap' w5 hown2 hgrow hat hlt; have hc2 := (HFX.out _ (below_alloc_drew W _)).grown hgrow nB; have hc3 := hc2.1; have hf3 := hc2.2))
    all_goals
      have hbA : Below W.heap.size W (W.alloc (.cells #[.int .i64 me, .int .i64 cno, .int .i64 ck, .string ca, .string cb, .string ct, .int .i64 d, .string u] 111)).drew := below_alloc_drew W _
      have hrA := (unhide HRW).below hbA
      have hXA : w5.heap[X]? = some (.cells #[.int .i64 me, .slice a k cap, .int .i64 ck, .string ca, .string cb, .string ct, .bool op] 118 (0, 0)) := by
        rw [hgrow.block X hrA.o.lt (fun e => nB e.symm)]
        have := hrA.o.blk
        unfold kcells at this
        exact this
      have hX6 : (w5.setCell ⟨X, 1, none⟩ (.slice (some ⟨g, 0, none⟩) (k + 1) cap')).heap[X]? = some (.cells #[.int .i64 me, .slice (some ⟨g, 0, none⟩) (k + 1) cap', .int .i64 ck, .string ca, .string cb, .string ct, .bool op] 118 (0, 0)) := heap_setCell_same hXA _
      have hk6 := kept_setCell [X] w5 X 1 (.slice (some ⟨g, 0, none⟩) (k + 1) cap') (by simp)
      obtain ⟨W6, hW6⟩ : ∃ W6, W6 = w5.setCell ⟨X, 1, none⟩ (.slice (some ⟨g, 0, none⟩) (k + 1) cap') := ⟨_, rfl⟩
      rw [← hW6] at hX6 hk6
      obtain ⟨hs1, hs2⟩ := set5 (a2 := .int .i64 0) (a3 := .string ⟨#[]⟩) (a4 := .string ⟨#[]⟩) (a5 := .string ⟨#[]⟩) (a6 := .bool false) hX6
      have hT : KTurn N _ X (.slice a k cap) _ ⟨me, done ++ [⟨me, cno, ⟨ck, ca, cb, ct⟩, d, u⟩], zeroCall, false⟩ := hrA.o.push (f' := kcells ⟨me, done ++ [⟨me, cno, ⟨ck, ca, cb, ct⟩, d, u⟩], zeroCall, false⟩) (n := k + 1) (r := ⟨me, cno, ⟨ck, ca, cb, ct⟩, d, u⟩) hgrow (by rw [unhide HK]) hown2 (by simpa using hat) (hk6.trans hs2 (fun x hx => .inl hx)) hs1
      have hT2 := OTurn.before ((unhide HbwW).trans (hbA.mono (unhide HbwW).size)) hT
      have HT := hide hT2
      obtain ⟨⟨y0, y1, y2, y3⟩, ⟨y4, y5, y6⟩, yf⟩ := seven hX6
      rw [← hW6]
      clear hT hT2 hs1 hs2 hX6 hk6 hW6 hXA hrA hbA hown2 hgrow hat hlt hc2 hc3 hf3 hc1 hf1 m0 m1 m2 m3 m4 m5 m6 m7 mf
      go_wp2
      go_ret
      exact ⟨rfl, by rw [unhide HK]; exact unhide HT⟩

theorem Hear_any {N : Nat} {w : World} {X : Nat} {v : Value} {c : ACli} (h : KRep N w X v c) (p : APkt) (hsm : SmallP p) :
    Calls Tryz.prog 214 #[.pointer (some ⟨X, 0, none⟩), p.val] w fun e w' => e = .returned (.bool (c.hears p)) ∧ KTurn N w X v w' (c.heard p) := by
  cases hp : c.hears p
  · have e : c.heard p = c := by unfold ACli.heard; rw [hp]; rfl
    rw [e]
    exact Hear_none h p hp
  · exact Hear_some h p hsm hp

end Go.Proofs.YtffgolanmaenfacGreatDoor

namespace Go.Proofs.YtffgolanmaenfacGreatDoor
open Go.RowKit
set_option linter.unusedSimpArgs false
set_option linter.unusedVariables false

theorem six_set {W : World} {b i : Nat} {u2 u3 u4 u5 u6 u7 u : Value} (h : W.cell? ⟨b, 2, none⟩ = some u2 ∧ W.cell? ⟨b, 3, none⟩ = some u3 ∧ W.cell? ⟨b, 4, none⟩ = some u4 ∧ W.cell? ⟨b, 5, none⟩ = some u5 ∧ W.cell? ⟨b, 6, none⟩ = some u6 ∧ W.cell? ⟨b, 7, none⟩ = some u7) (hi : W.cell? ⟨b, i, none⟩ = some u) : (W.setCell ⟨b, i, none⟩ u).cell? ⟨b, 2, none⟩ = some u2 ∧ (W.setCell ⟨b, i, none⟩ u).cell? ⟨b, 3, none⟩ = some u3 ∧ (W.setCell ⟨b, i, none⟩ u).cell? ⟨b, 4, none⟩ = some u4 ∧ (W.setCell ⟨b, i, none⟩ u).cell? ⟨b, 5, none⟩ = some u5 ∧ (W.setCell ⟨b, i, none⟩ u).cell? ⟨b, 6, none⟩ = some u6 ∧ (W.setCell ⟨b, i, none⟩ u).cell? ⟨b, 7, none⟩ = some u7 :=
  ⟨keep_set hi h.1, keep_set hi h.2.1, keep_set hi h.2.2.1, keep_set hi h.2.2.2.1, keep_set hi h.2.2.2.2.1, keep_set hi h.2.2.2.2.2⟩
theorem six_set2 {W : World} {b : Nat} {u2 u3 u4 u5 u6 u7 : Value} (h : W.cell? ⟨b, 2, none⟩ = some u2 ∧ W.cell? ⟨b, 3, none⟩ = some u3 ∧ W.cell? ⟨b, 4, none⟩ = some u4 ∧ W.cell? ⟨b, 5, none⟩ = some u5 ∧ W.cell? ⟨b, 6, none⟩ = some u6 ∧ W.cell? ⟨b, 7, none⟩ = some u7) : (W.setCell ⟨b, 2, none⟩ u2).cell? ⟨b, 2, none⟩ = some u2 ∧ (W.setCell ⟨b, 2, none⟩ u2).cell? ⟨b, 3, none⟩ = some u3 ∧ (W.setCell ⟨b, 2, none⟩ u2).cell? ⟨b, 4, none⟩ = some u4 ∧ (W.setCell ⟨b, 2, none⟩ u2).cell? ⟨b, 5, none⟩ = some u5 ∧ (W.setCell ⟨b, 2, none⟩ u2).cell? ⟨b, 6, none⟩ = some u6 ∧ (W.setCell ⟨b, 2, none⟩ u2).cell? ⟨b, 7, none⟩ = some u7 := six_set h h.1
theorem six_set3 {W : World} {b : Nat} {u2 u3 u4 u5 u6 u7 : Value} (h : W.cell? ⟨b, 2, none⟩ = some u2 ∧ W.cell? ⟨b, 3, none⟩ = some u3 ∧ W.cell? ⟨b, 4, none⟩ = some u4 ∧ W.cell? ⟨b, 5, none⟩ = some u5 ∧ W.cell? ⟨b, 6, none⟩ = some u6 ∧ W.cell? ⟨b, 7, none⟩ = some u7) : (W.setCell ⟨b, 3, none⟩ u3).cell? ⟨b, 2, none⟩ = some u2 ∧ (W.setCell ⟨b, 3, none⟩ u3).cell? ⟨b, 3, none⟩ = some u3 ∧ (W.setCell ⟨b, 3, none⟩ u3).cell? ⟨b, 4, none⟩ = some u4 ∧ (W.setCell ⟨b, 3, none⟩ u3).cell? ⟨b, 5, none⟩ = some u5 ∧ (W.setCell ⟨b, 3, none⟩ u3).cell? ⟨b, 6, none⟩ = some u6 ∧ (W.setCell ⟨b, 3, none⟩ u3).cell? ⟨b, 7, none⟩ = some u7 := six_set h h.2.1
theorem six_set4 {W : World} {b : Nat} {u2 u3 u4 u5 u6 u7 : Value} (h : W.cell? ⟨b, 2, none⟩ = some u2 ∧ W.cell? ⟨b, 3, none⟩ = some u3 ∧ W.cell? ⟨b, 4, none⟩ = some u4 ∧ W.cell? ⟨b, 5, none⟩ = some u5 ∧ W.cell? ⟨b, 6, none⟩ = some u6 ∧ W.cell? ⟨b, 7, none⟩ = some u7) : (W.setCell ⟨b, 4, none⟩ u4).cell? ⟨b, 2, none⟩ = some u2 ∧ (W.setCell ⟨b, 4, none⟩ u4).cell? ⟨b, 3, none⟩ = some u3 ∧ (W.setCell ⟨b, 4, none⟩ u4).cell? ⟨b, 4, none⟩ = some u4 ∧ (W.setCell ⟨b, 4, none⟩ u4).cell? ⟨b, 5, none⟩ = some u5 ∧ (W.setCell ⟨b, 4, none⟩ u4).cell? ⟨b, 6, none⟩ = some u6 ∧ (W.setCell ⟨b, 4, none⟩ u4).cell? ⟨b, 7, none⟩ = some u7 := six_set h h.2.2.1
theorem six_set5 {W : World} {b : Nat} {u2 u3 u4 u5 u6 u7 : Value} (h : W.cell? ⟨b, 2, none⟩ = some u2 ∧ W.cell? ⟨b, 3, none⟩ = some u3 ∧ W.cell? ⟨b, 4, none⟩ = some u4 ∧ W.cell? ⟨b, 5, none⟩ = some u5 ∧ W.cell? ⟨b, 6, none⟩ = some u6 ∧ W.cell? ⟨b, 7, none⟩ = some u7) : (W.setCell ⟨b, 5, none⟩ u5).cell? ⟨b, 2, none⟩ = some u2 ∧ (W.setCell ⟨b, 5, none⟩ u5).cell? ⟨b, 3, none⟩ = some u3 ∧ (W.setCell ⟨b, 5, none⟩ u5).cell? ⟨b, 4, none⟩ = some u4 ∧ (W.setCell ⟨b, 5, none⟩ u5).cell? ⟨b, 5, none⟩ = some u5 ∧ (W.setCell ⟨b, 5, none⟩ u5).cell? ⟨b, 6, none⟩ = some u6 ∧ (W.setCell ⟨b, 5, none⟩ u5).cell? ⟨b, 7, none⟩ = some u7 := six_set h h.2.2.2.1
theorem six_set6 {W : World} {b : Nat} {u2 u3 u4 u5 u6 u7 : Value} (h : W.cell? ⟨b, 2, none⟩ = some u2 ∧ W.cell? ⟨b, 3, none⟩ = some u3 ∧ W.cell? ⟨b, 4, none⟩ = some u4 ∧ W.cell? ⟨b, 5, none⟩ = some u5 ∧ W.cell? ⟨b, 6, none⟩ = some u6 ∧ W.cell? ⟨b, 7, none⟩ = some u7) : (W.setCell ⟨b, 6, none⟩ u6).cell? ⟨b, 2, none⟩ = some u2 ∧ (W.setCell ⟨b, 6, none⟩ u6).cell? ⟨b, 3, none⟩ = some u3 ∧ (W.setCell ⟨b, 6, none⟩ u6).cell? ⟨b, 4, none⟩ = some u4 ∧ (W.setCell ⟨b, 6, none⟩ u6).cell? ⟨b, 5, none⟩ = some u5 ∧ (W.setCell ⟨b, 6, none⟩ u6).cell? ⟨b, 6, none⟩ = some u6 ∧ (W.setCell ⟨b, 6, none⟩ u6).cell? ⟨b, 7, none⟩ = some u7 := six_set h h.2.2.2.2.1
theorem six_set7 {W : World} {b : Nat} {u2 u3 u4 u5 u6 u7 : Value} (h : W.cell? ⟨b, 2, none⟩ = some u2 ∧ W.cell? ⟨b, 3, none⟩ = some u3 ∧ W.cell? ⟨b, 4, none⟩ = some u4 ∧ W.cell? ⟨b, 5, none⟩ = some u5 ∧ W.cell? ⟨b, 6, none⟩ = some u6 ∧ W.cell? ⟨b, 7, none⟩ = some u7) : (W.setCell ⟨b, 7, none⟩ u7).cell? ⟨b, 2, none⟩ = some u2 ∧ (W.setCell ⟨b, 7, none⟩ u7).cell? ⟨b, 3, none⟩ = some u3 ∧ (W.setCell ⟨b, 7, none⟩ u7).cell? ⟨b, 4, none⟩ = some u4 ∧ (W.setCell ⟨b, 7, none⟩ u7).cell? ⟨b, 5, none⟩ = some u5 ∧ (W.setCell ⟨b, 7, none⟩ u7).cell? ⟨b, 6, none⟩ = some u6 ∧ (W.setCell ⟨b, 7, none⟩ u7).cell? ⟨b, 7, none⟩ = some u7 := six_set h h.2.2.2.2.2

theorem rtake_snoc (rs : List ARec) (k : Nat) (r : ARec) (h : rs[k]? = some r) : (rs.take (k + 1)).flatMap rcells = (rs.take k).flatMap rcells ++ rcells r := by
  rw [List.take_add_one, h]
  simp

set_option maxRecDepth 100000 in
set_option maxHeartbeats 4000000 in
theorem Done_any {N : Nat} {w : World} {X : Nat} {v : Value} {c : ACli} (h : KRep N w X v c) {n : Nat} (hn : c.done.length = n) :
    Calls Tryz.prog 140 #[.pointer (some ⟨X, 0, none⟩)] w fun e w' => ∃ g cap, e = .returned (.slice (some ⟨g, 0, none⟩) n cap) ∧ w'.ownsRow w.heap.size 111 8 (.slice (some ⟨g, 0, none⟩) n cap) n (c.done.flatMap rcells) ∧ Below w.heap.size w w' := by
  obtain ⟨i0, hi0, hz0, hz1, hz2⟩ := info_parts info111
  have hlen : n ≤ 200 := by rw [← hn]; exact h.ok.few
  have hB : X < w.heap.size := h.o.lt
  obtain ⟨⟨y0, hc, y2, y3⟩, ⟨y4, y5, y6⟩, yf⟩ := seven h.o.blk
  obtain ⟨a, cap, rfl⟩ := h.o.form
  rw [hn] at hc
  have HP := hide (recs_row h.o.row rfl)
  rw [hn] at HP
  have HSM := hide h.ok.small
  have HN := hide hn
  obtain ⟨me, done, cl, op⟩ := c
  dsimp only at *
  clear h hn y0 y2 y3 y4 y5 y6 yf
  go_enter Tryz.func140, Tryz.ntmps140
  go_wp2_with (refine wpList_make_own _ rfl _ _ 66 rfl w.heap.size 111 i0 _ 8 Tryz.underlying66 hi0 hz0 hz1 .i64 .i64 (n : Int) n rfl rfl rfl (by rw [hz2]; omega) (by unfold maxLen; omega) (Nat.le_refl _) ?_)
  intro w0 hown0 hgr0
  have b0 : Below w.heap.size w w0 := (Below.refl _ _).grown hgr0 (Nat.le_refl _) (by simp)
  have hc0 := (b0.cell (p := ⟨X, 1, none⟩) hB).trans hc
  have HO0 := hide hown0
  have HB0 := hide b0
  clear hc hown0 b0 hgr0
  go_wp2
  go_loopw [3, 5, 17] (fun nv _ i wr => ∃ k : Nat, k ≤ n ∧ i = .int .i64 k ∧ Hid (Below w.heap.size w wr) ∧ Hid (∃ g c, nv = .slice (some ⟨g, 0, none⟩) k c) ∧ Hid (wr.ownsRow w.heap.size 111 8 nv k ((done.take k).flatMap rcells))) (fun _ _ i _ => n - (intOf i).toNat)
  case atStart => exact ⟨0, Nat.zero_le _, rfl, unhide HB0, ⟨_, _, rfl⟩, (by simpa using unhide HO0 : w0.ownsRow w.heap.size 111 8 (Value.slice (some ⟨w.heap.size, 0, none⟩) 0 n) 0 ((done.take 0).flatMap rcells))⟩
  case round =>
    obtain ⟨k, hk, rfl, HB, ⟨g1, c1, rfl⟩, HO⟩ := hrel
    by_cases hlt : (k : Int) < (n : Int)
    · obtain ⟨x, hx⟩ : ∃ x, done[k]? = some x := ⟨_, List.getElem?_eq_getElem (by rw [unhide HN]; omega)⟩
      obtain ⟨g, off, rfl, hcx⟩ := ((unhide HP).below (unhide HB)).2 (by omega)
      obtain ⟨x0, x1, x2, x3, x4, x5, x6, x7⟩ := hcx k x hx
      have hgz : g < wr.heap.size := (hcx k x hx).lt
      have HX := hide hx
      have hwz := (unhide HB).size
      have hsm := (unhide HSM) x (List.mem_of_getElem? hx)
      have HCC := hide (fun W => cloneCall_any x.call W hsm.1)
      have HCA := hide (fun W => cloneAnswer_any x.code x.ans W hsm.2)
      obtain ⟨xc, xn, ⟨ck, ca, cb, ct⟩, d, u⟩ := x
      dsimp only at *
      obtain ⟨V, hV⟩ : ∃ V, V = wr.alloc (.cells #[.int .i64 xc, .int .i64 xn, .int .i64 ck, .string ca, .string cb, .string ct, .int .i64 d, .string u] 111) := ⟨_, rfl⟩
      have hBV : Below wr.heap.size wr V := by rw [hV]; exact (Below.refl _ _).alloc (Nat.le_refl _) _
      have hRV : V.heap[wr.heap.size]? = some (.cells #[.int .i64 xc, .int .i64 xn, .int .i64 ck, .string ca, .string cb, .string ct, .int .i64 d, .string u] 111 (0, 0)) := by rw [hV]; exact heap_alloc_new _ _
      have hzV : V.heap.size = wr.heap.size + 1 := by rw [hV]; simp
      have HOW := hide ((unhide HO).alloc (.cells #[.int .i64 xc, .int .i64 xn, .int .i64 ck, .string ca, .string cb, .string ct, .int .i64 d, .string u] 111))
      rw [← hV] at HOW
      have HF : Hid (∀ W, Below V.heap.size V W → W.heap[wr.heap.size]? = some (.cells #[.int .i64 xc, .int .i64 xn, .int .i64 ck, .string ca, .string cb, .string ct, .int .i64 d, .string u] 111 (0, 0))) := fun W hW => (hW.block _ (by omega)).trans hRV
      have HBV : Hid (Below w.heap.size w V) := (unhide HB).trans (hBV.mono hwz)
      have HV := hide hV
      clear hx hcx hsm hBV hRV hV
      go_wp2_with fail
      rw [← unhide HV]
      clear x0 x1 x2 x3 x4 x5 x6 x7
      obtain ⟨⟨z0, z1, z2, z3⟩, ⟨z4, z5, z6, z7⟩, zf⟩ := eightK ((unhide HF) V (Below.refl _ _))
      go_region_held3 (fun W => W.cell? ⟨wr.heap.size, 2, none⟩ = some (.int .i64 ck) ∧ W.cell? ⟨wr.heap.size, 3, none⟩ = some (.string ca) ∧ W.cell? ⟨wr.heap.size, 4, none⟩ = some (.string cb) ∧ W.cell? ⟨wr.heap.size, 5, none⟩ = some (.string ct) ∧ W.cell? ⟨wr.heap.size, 6, none⟩ = some (.int .i64 d) ∧ W.cell? ⟨wr.heap.size, 7, none⟩ = some (.string u)) (first | (with_reducible exact six_set7 (six_set6 (by assumption))) | (with_reducible exact six_set5 (six_set4 (six_set3 (six_set2 (by assumption))))) | (go_keep; done)) (first
        | (go_at_call 173; refine ((unhide HCC) _).mono ?_; rintro e w2 ⟨rfl, b2⟩; have bV2 := (below_drew V).trans b2; obtain ⟨⟨p0, p1, p2, p3⟩, ⟨p4, p5, p6, p7⟩, pf⟩ := eightK ((unhide HF) w2 bV2))
        | (go_at_call 174; refine ((unhide HCA) _).mono ?_; rintro e w3 ⟨rfl, b3⟩; have bV3 := bV2.trans (b3.mono bV2.size); obtain ⟨⟨q0, q1, q2, q3⟩, ⟨q4, q5, q6, q7⟩, qf⟩ := eightK ((unhide HF) w3 bV3)))
      all_goals
        have hR3 := (unhide HF) w3 bV3
        have hz3 := bV3.size
        have hR4 := (set_same (j := 7) (x := .string u) (set_same (j := 6) (x := .int .i64 d) (set_same (j := 5) (x := .string ct) (set_same (j := 4) (x := .string cb) (set_same (j := 3) (x := .string ca) (set_same (j := 2) (x := .int .i64 ck) hR3 rfl) rfl) rfl) rfl) rfl) rfl)
        have hB4 : Below w.heap.size w ((((((w3.setCell ⟨wr.heap.size, 2, none⟩ (.int .i64 ck)).setCell ⟨wr.heap.size, 3, none⟩ (.string ca)).setCell ⟨wr.heap.size, 4, none⟩ (.string cb)).setCell ⟨wr.heap.size, 5, none⟩ (.string ct)).setCell ⟨wr.heap.size, 6, none⟩ (.int .i64 d)).setCell ⟨wr.heap.size, 7, none⟩ (.string u)) := (below_set (below_set (below_set (below_set (below_set (below_set ((unhide HBV).trans (bV3.mono (unhide HBV).size)) (by omega)) (by omega)) (by omega)) (by omega)) (by omega)) (by omega))
        have hO4 : ((((((w3.setCell ⟨wr.heap.size, 2, none⟩ (.int .i64 ck)).setCell ⟨wr.heap.size, 3, none⟩ (.string ca)).setCell ⟨wr.heap.size, 4, none⟩ (.string cb)).setCell ⟨wr.heap.size, 5, none⟩ (.string ct)).setCell ⟨wr.heap.size, 6, none⟩ (.int .i64 d)).setCell ⟨wr.heap.size, 7, none⟩ (.string u)).ownsRow w.heap.size 111 8 (.slice (some ⟨g1, 0, none⟩) k c1) k ((done.take k).flatMap rcells) := by
          have hgne : g1 ≠ wr.heap.size := by have := ((unhide HO).lt g1 rfl).2; omega
          have hgl := ((unhide HOW).lt g1 rfl).2
          refine ownsRow_same (unhide HOW) (fun j hj => ?_)
          have : j = g1 := by simpa [Value.ownBlock] using hj.symm
          subst this
          rw [Below.heap_setCell _ _ _ _ (by simp; omega), Below.heap_setCell _ _ _ _ (by simp; omega), Below.heap_setCell _ _ _ _ (by simp; omega), Below.heap_setCell _ _ _ _ (by simp; omega), Below.heap_setCell _ _ _ _ (by simp; omega), Below.heap_setCell _ _ _ _ (by simp; omega)]
          exact bV3.block j hgl
        obtain ⟨W4, hW4⟩ : ∃ W4, W4 = ((((((w3.setCell ⟨wr.heap.size, 2, none⟩ (.int .i64 ck)).setCell ⟨wr.heap.size, 3, none⟩ (.string ca)).setCell ⟨wr.heap.size, 4, none⟩ (.string cb)).setCell ⟨wr.heap.size, 5, none⟩ (.string ct)).setCell ⟨wr.heap.size, 6, none⟩ (.int .i64 d)).setCell ⟨wr.heap.size, 7, none⟩ (.string u)) := ⟨_, rfl⟩
        rw [← hW4] at hR4 hB4 hO4
        rw [← hW4]
        obtain ⟨⟨m0, m1, m2, m3⟩, ⟨m4, m5, m6, m7⟩, mf⟩ := eightK hR4
        have HO4 := hide hO4
        have HB4 := hide hB4
        have hz4 := hB4.size
        clear hR3 hR4 hO4 hB4 hW4 p0 p1 p2 p3 p4 p5 p6 p7 pf q0 q1 q2 q3 q4 q5 q6 q7 qf z0 z1 z2 z3 z4 z5 z6 z7 zf b2 b3 bV2 bV3
        go_wp2_with (first
          | (at_builtin; refine wpList_append_lies _ rfl _ _ 66 rfl w.heap.size 111 i0 _ 8 96 Tryz.underlying66 hi0 hz0 hz1 hz2 rfl (by omega) (.slice (some ⟨g1, 0, none⟩) k c1) k ((done.take k).flatMap rcells) rfl ((unhide HO4).alloc _) ⟨W4.heap.size, 0, none⟩ 1 1 [.int .i64 xc, .int .i64 xn, .int .i64 ck, .string ca, .string cb, .string ct, .int .i64 d, .string u] rfl rfl (World.news_of_block (cs := #[.int .i64 xc, .int .i64 xn, .int .i64 ck, .string ca, .string cb, .string ct, .int .i64 d, .string u]) (t := 111) (fr := (0, 0)) (heap_alloc_new W4 _)) (by simp [Value.oneCell']) (by omega) (by unfold maxLen; omega) (by omega) (by simp; omega) (W4.heap.size + 1) (by simp) ?_; intro g2 c2 w5 hown2 hgrow hat hlt2))
        go_roundw
        case rel =>
          refine ⟨k + 1, by omega, by go_num, ?_, ⟨_, _, rfl⟩, ?_⟩
          · refine ((unhide HB4).alloc hz4 _).grown hgrow (by simp; omega) ?_
            intro j hj
            exact ((unhide HO).lt j hj).1
          · show w5.ownsRow _ _ _ _ _ _
            rw [rtake_snoc done k _ (unhide HX)]
            exact hown2
        case measure => simp [intOf]; omega
    · obtain rfl : k = n := by omega
      have hown := unhide HO
      rw [List.take_of_length_le (by rw [unhide HN]; omega)] at hown
      have HO' := hide hown
      clear hown
      go_wp2
      go_ret
      exact ⟨g1, c1, rfl, unhide HO', unhide HB⟩

end Go.Proofs.YtffgolanmaenfacGreatDoor

namespace Go.Proofs.YtffgolanmaenfacGreatDoor
open Go.RowKit
set_option linter.unusedSimpArgs false
set_option linter.unusedVariables false

/-- Where a world lies: its store, its clients, its post. -/
structure WOwn where
  S : Nat
  B : Nat
  own : List Nat
  lv : Value
  X : Nat → Nat
  v : Nat → Value
  P : Nat
  pv : Value
/-- What is a part's own: 3 the store's, 4 the post's, others a client's. -/
def WOwn.part (o : WOwn) (i : Nat) : List Nat := if i = 3 then sown o.S o.own o.lv else if i = 4 then powns o.P o.pv else powns (o.X i) (o.v i)
def WOwn.all (o : WOwn) (W : Nat) : List Nat := W :: (o.part 0 ++ o.part 1 ++ o.part 2 ++ o.part 3 ++ o.part 4)
theorem WOwn.mem_all {o : WOwn} {W b : Nat} : b ∈ o.all W ↔ b = W ∨ ∃ i, i < 5 ∧ b ∈ o.part i := by
  unfold WOwn.all
  simp only [List.mem_cons, List.mem_append]
  constructor
  · rintro (h | ((((h | h) | h) | h) | h))
    · exact .inl h
    · exact .inr ⟨0, by omega, h⟩
    · exact .inr ⟨1, by omega, h⟩
    · exact .inr ⟨2, by omega, h⟩
    · exact .inr ⟨3, by omega, h⟩
    · exact .inr ⟨4, by omega, h⟩
  · rintro (h | ⟨i, hi, h⟩)
    · exact .inl h
    · match i, hi with
      | 0, _ => exact .inr (.inl (.inl (.inl (.inl h))))
      | 1, _ => exact .inr (.inl (.inl (.inl (.inr h))))
      | 2, _ => exact .inr (.inl (.inl (.inr h)))
      | 3, _ => exact .inr (.inl (.inr h))
      | 4, _ => exact .inr (.inr h)
def wcells (o : WOwn) : Array Value := #[.pointer (some ⟨o.S, 0, none⟩), .pointer (some ⟨o.X 0, 0, none⟩), .pointer (some ⟨o.X 1, 0, none⟩), .pointer (some ⟨o.X 2, 0, none⟩), .pointer (some ⟨o.P, 0, none⟩)]
/-- A world at block W. -/
structure WRep (N : Nat) (w : World) (W : Nat) (o : WOwn) (A : AW) : Prop where
  new : N ≤ W
  blk : w.heap[W]? = some (.cells (wcells o) 64 (0, 0))
  s : SRep N w o.S o.B o.own o.lv A.log
  c : ∀ n, n < 3 → KRep N w (o.X n) (o.v n) (A.cl n)
  p : PRep 116 N w o.P o.pv A.ms
  dj : ∀ i j, i < 5 → j < 5 → i ≠ j → ∀ b, b ∈ o.part i → b ∉ o.part j
  nW : ∀ i, i < 5 → W ∉ o.part i
  ss : (logB A.log).length ≤ 2000
theorem next_of {N : Nat} {w w' : World} {o o' : List Nat} (hk : Kept o w w') (hN : N ≤ w.heap.size) (hg : ∀ k, k ∈ o → N ≤ k) (hn : ∀ k, k ∈ o' → k ∈ o ∨ w.heap.size ≤ k) : Next N w w' o o' :=
  ⟨hk.below hN hg, fun b hb h1 => ⟨fun hm => by rcases hn b hm with h2 | h2; exact h1 h2; omega, hk.block b hb h1⟩⟩
section
variable {N : Nat} {w w' w1 w2 : World} {W : Nat} {o o' : WOwn} {A A' B : AW}
theorem WRep.lt (h : WRep N w W o A) : W < w.heap.size := (Array.getElem?_eq_some_iff.1 h.blk).1
theorem WRep.size (h : WRep N w W o A) : N ≤ w.heap.size := by have := h.lt; have := h.new; omega
theorem WRep.ge (h : WRep N w W o A) {i : Nat} (hi : i < 5) : ∀ k, k ∈ o.part i → N ≤ k ∧ k < w.heap.size := fun k hk => by
  match i, hi with
  | 0, _ => exact (h.c 0 (by omega)).o.ge k hk
  | 1, _ => exact (h.c 1 (by omega)).o.ge k hk
  | 2, _ => exact (h.c 2 (by omega)).o.ge k hk
  | 3, _ => exact sown_ge h.s k hk
  | 4, _ => exact h.p.ge k hk
theorem WRep.all_ge (h : WRep N w W o A) : ∀ k, k ∈ o.all W → N ≤ k ∧ k < w.heap.size := fun k hk => by
  rcases WOwn.mem_all.1 hk with rfl | ⟨i, hi, hk⟩
  · exact ⟨h.new, h.lt⟩
  · exact h.ge hi k hk
theorem WRep.below (h : WRep N w W o A) (hb : Below w.heap.size w w') : WRep N w' W o A :=
  ⟨h.new, (hb.block W h.lt).trans h.blk, h.s.below hb, fun n hn => (h.c n hn).below hb, h.p.below hb, h.dj, h.nW, h.ss⟩
theorem part_client (o : WOwn) {n : Nat} (hn : n < 3) : o.part n = powns (o.X n) (o.v n) := by unfold WOwn.part; rw [if_neg (by omega), if_neg (by omega)]
theorem KRep.kept {X : Nat} {v : Value} {c : ACli} {ow : List Nat} (h : KRep N w X v c) (hk : Kept ow w w') (hd : ∀ k, k ∈ powns X v → k ∉ ow) : KRep N w' X v c := ⟨h.o.kept hk hd, h.ok⟩
theorem WRep.kept {ow : List Nat} (h : WRep N w W o A) (hk : Kept ow w w') (hd : ∀ k, k ∈ o.all W → k ∉ ow) : WRep N w' W o A := by
  have hp : ∀ i, i < 5 → ∀ k, k ∈ o.part i → k ∉ ow := fun i hi k hm => hd k (WOwn.mem_all.2 (.inr ⟨i, hi, hm⟩))
  exact ⟨h.new, (hk.block W h.lt (hd W (WOwn.mem_all.2 (.inl rfl)))).trans h.blk, h.s.kept hk (hp 3 (by omega)), fun n hn => (h.c n hn).kept hk (fun k hm => hp n (by omega) k (by rw [part_client o hn]; exact hm)), h.p.kept hk (hp 4 (by omega)), h.dj, h.nW, h.ss⟩

/-- From w to w' the world has come to A'. -/
def WTurn (N : Nat) (w : World) (W : Nat) (o : WOwn) (w' : World) (A' : AW) : Prop := ∃ o', WRep N w' W o' A' ∧ Next N w w' (o.all W) (o'.all W)
theorem WTurn.of_below (h : WRep N w W o A) (hb : Below w.heap.size w w') : WTurn N w W o w' A := ⟨o, h.below hb, Next.of_below _ hb h.size⟩
theorem WTurn.before (hb : Below w.heap.size w w1) (hN : N ≤ w.heap.size) (h : WTurn N w1 W o w' A') : WTurn N w W o w' A' := by
  obtain ⟨o', h1, h2⟩ := h
  exact ⟨o', h1, (Next.of_below _ hb hN).trans h2⟩
/-- A block that is not the world's stays. -/
theorem WTurn.blk (hT : WTurn N w W o w' A') {b : Nat} (hb : b < w.heap.size) (hn : b ∉ o.all W) : w'.heap[b]? = w.heap[b]? := by
  obtain ⟨o', k1, k2⟩ := hT
  exact (k2.keep b hb hn).2
/-- One part has turned. -/
theorem WRep.turn (h : WRep N w W o A) {i : Nat} (hi : i < 5) (hN : Next N w w' (o.part i) (o'.part i)) (hoff : ∀ j, j < 5 → j ≠ i → o'.part j = o.part j) (hcl : wcells o' = wcells o)
    (hs : SRep N w' o'.S o'.B o'.own o'.lv A'.log) (hc : ∀ n, n < 3 → KRep N w' (o'.X n) (o'.v n) (A'.cl n)) (hp : PRep 116 N w' o'.P o'.pv A'.ms) (hss : (logB A'.log).length ≤ 2000) : WTurn N w W o w' A' := by
  have hst : ∀ b, b < w.heap.size → b ∉ o.part i → b ∉ o'.part i := fun b h1 h2 => (hN.keep b h1 h2).1
  refine ⟨o', ⟨h.new, (hN.keep W h.lt (h.nW i hi)).2.trans (by rw [hcl]; exact h.blk), hs, hc, hp, fun a b ha hb hab x hx hy => ?_, fun j hj hm => ?_, hss⟩, hN.below, fun b hb hn => ⟨fun hm => ?_, ?_⟩⟩
  · by_cases ea : a = i
    · have eb : b ≠ i := fun e => hab (ea.trans e.symm)
      rw [hoff b hb eb] at hy
      have hlt := (h.ge hb x hy).2
      rw [ea] at hx
      exact hst x hlt (fun hm => h.dj i b hi hb (fun e => eb e.symm) x hm hy) hx
    · rw [hoff a ha ea] at hx
      by_cases eb : b = i
      · rw [eb] at hy
        exact hst x (h.ge ha x hx).2 (fun hm => h.dj a i ha hi ea x hx hm) hy
      · rw [hoff b hb eb] at hy
        exact h.dj a b ha hb hab x hx hy
  · by_cases e : j = i
    · rw [e] at hm; exact hst W h.lt (h.nW i hi) hm
    · rw [hoff j hj e] at hm; exact h.nW j hj hm
  · rcases WOwn.mem_all.1 hm with rfl | ⟨j, hj, hm⟩
    · exact hn (WOwn.mem_all.2 (.inl rfl))
    · by_cases e : j = i
      · rw [e] at hm
        exact hst b hb (fun hm' => hn (WOwn.mem_all.2 (.inr ⟨i, hi, hm'⟩))) hm
      · rw [hoff j hj e] at hm
        exact hn (WOwn.mem_all.2 (.inr ⟨j, hj, hm⟩))
  · exact (hN.keep b hb (fun hm' => hn (WOwn.mem_all.2 (.inr ⟨i, hi, hm'⟩)))).2
theorem WRep.rest (h : WRep N w W o A) {i : Nat} (hi : i < 5) {p' : List Nat} (hN : Next N w w' (o.part i) p') : (i ≠ 3 → SRep N w' o.S o.B o.own o.lv A.log) ∧ (∀ n, n < 3 → n ≠ i → KRep N w' (o.X n) (o.v n) (A.cl n)) ∧ (i ≠ 4 → PRep 116 N w' o.P o.pv A.ms) := by
  refine ⟨fun e => h.s.kept hN.kept (h.dj 3 i (by omega) hi (fun h => e h.symm)), fun n hn e => (h.c n hn).kept hN.kept (fun k hm => h.dj n i (by omega) hi e k (by rw [part_client o hn]; exact hm)), fun e => h.p.kept hN.kept (h.dj 4 i (by omega) hi (fun h => e h.symm))⟩
theorem WRep.turnS (h : WRep N w W o A) {L' : List ARec} (hT : STurned N w o.S o.own o.lv w' L') (hs : (logB L').length ≤ 2000) : WTurn N w W o w' ⟨L', A.cl, A.ms⟩ := by
  obtain ⟨B', own', lv', hr, hn⟩ := hT
  obtain ⟨_, r2, r3⟩ := h.rest (i := 3) (by omega) hn
  exact h.turn (o' := ⟨o.S, B', own', lv', o.X, o.v, o.P, o.pv⟩) (i := 3) (by omega) hn (fun j hj e => by unfold WOwn.part; rw [if_neg e, if_neg e]) rfl hr (fun n hn => r2 n hn (by omega)) (r3 (by omega)) hs
theorem WRep.turnP (h : WRep N w W o A) {ms' : List APkt} (hT : PTurn 116 N w o.P o.pv w' ms') : WTurn N w W o w' ⟨A.log, A.cl, ms'⟩ := by
  obtain ⟨pv', hr, hk, hn⟩ := hT
  have hn' : Next N w w' (o.part 4) (powns o.P pv') := next_of hk h.size (fun k hk => (h.ge (i := 4) (by omega) k hk).1) hn
  obtain ⟨r1, r2, _⟩ := h.rest (i := 4) (by omega) hn'
  exact h.turn (o' := ⟨o.S, o.B, o.own, o.lv, o.X, o.v, o.P, pv'⟩) (i := 4) (by omega) hn' (fun j hj e => by unfold WOwn.part; rw [if_neg e, if_neg e]) rfl (r1 (by omega)) (fun n hn => r2 n hn (by omega)) hr h.ss
def updV (f : Nat → Value) (n : Nat) (c : Value) : Nat → Value := fun k => if k = n then c else f k
theorem WRep.turnC (h : WRep N w W o A) {n : Nat} (hn : n < 3) {c' : ACli} (hT : KTurn N w (o.X n) (o.v n) w' c') (hc : COk c') : WTurn N w W o w' ⟨A.log, upd A.cl n c', A.ms⟩ := by
  obtain ⟨v', hr, hk, hg⟩ := hT
  have hp := part_client o hn
  have e1 : updV o.v n v' n = v' := by simp [updV]
  have e2 : ∀ m, m ≠ n → updV o.v n v' m = o.v m := fun m hm => by simp [updV, hm]
  have hn' : Next N w w' (o.part n) (powns (o.X n) v') := by rw [hp]; exact next_of hk h.size (fun k hk => (h.ge (i := n) (by omega) k (by rw [hp]; exact hk)).1) hg
  obtain ⟨r1, r2, r3⟩ := h.rest (i := n) (by omega) hn'
  refine h.turn (o' := ⟨o.S, o.B, o.own, o.lv, o.X, updV o.v n v', o.P, o.pv⟩) (i := n) (by omega) ?_ (fun j hj e => ?_) rfl (r1 (by omega)) (fun m hm => ?_) (r3 (by omega)) h.ss
  · rw [part_client (⟨o.S, o.B, o.own, o.lv, o.X, updV o.v n v', o.P, o.pv⟩ : WOwn) hn]
    show Next N w w' (o.part n) (powns (o.X n) (updV o.v n v' n))
    rw [e1]; exact hn'
  · unfold WOwn.part; dsimp only; rw [e2 j e]
  · dsimp only
    by_cases e : m = n
    · subst e; rw [e1, upd_at]; exact ⟨hr, hc⟩
    · rw [e2 m e, upd_off _ _ e]; exact r2 m hm e
/-- The world's cells. -/
theorem WRep.cells (h : WRep N w W o A) : (w.cell? ⟨W, 0, none⟩ = some (.pointer (some ⟨o.S, 0, none⟩)) ∧ w.cell? ⟨W, 1, none⟩ = some (.pointer (some ⟨o.X 0, 0, none⟩)) ∧ w.cell? ⟨W, 2, none⟩ = some (.pointer (some ⟨o.X 1, 0, none⟩)) ∧ w.cell? ⟨W, 3, none⟩ = some (.pointer (some ⟨o.X 2, 0, none⟩)) ∧ w.cell? ⟨W, 4, none⟩ = some (.pointer (some ⟨o.P, 0, none⟩))) ∧ ∀ n, n < 3 → w.cell? ⟨W, 1 + n, none⟩ = some (.pointer (some ⟨o.X n, 0, none⟩)) := by
  have hb := h.blk
  unfold wcells at hb
  have k : ∀ j, w.cell? ⟨W, j, none⟩ = _ := fun j => cell_of_row w W j _ _ _ hb
  refine ⟨⟨k 0, k 1, k 2, k 3, k 4⟩, fun n hn => ?_⟩
  match n, hn with
  | 0, _ => exact k 1
  | 1, _ => exact k 2
  | 2, _ => exact k 3
end

end Go.Proofs.YtffgolanmaenfacGreatDoor

namespace Go.Proofs.YtffgolanmaenfacGreatDoor
open Go.RowKit
set_option linter.unusedSimpArgs false
set_option linter.unusedVariables false

set_option maxRecDepth 100000 in
set_option maxHeartbeats 2000000 in
theorem Client_some {N : Nat} {w : World} {W : Nat} {o : WOwn} {A : AW} (h : WRep N w W o A) (n : Nat) (hn : n < 3) :
    Calls Tryz.prog 139 #[.pointer (some ⟨W, 0, none⟩), .int .i64 (n : Int)] w fun e w' => e = .returned (.pointer (some ⟨o.X n, 0, none⟩)) ∧ w' = w := by
  have hc := h.cells.2 n hn
  have h0 : ¬ (n : Int) < 0 := by omega
  have h3 : ¬ (3 : Int) ≤ n := by omega
  have h4 : (n : Int) < 3 := by omega
  generalize o.X n = X at hc ⊢
  clear h hn
  go_enter Tryz.func139, Tryz.ntmps139
  go_wp2
  go_ret
  exact ⟨rfl, rfl⟩
set_option maxHeartbeats 2000000 in
theorem Client_none (W : Nat) (w : World) (n : Int) (hn : n < 0 ∨ 2 < n) :
    Calls Tryz.prog 139 #[.pointer (some ⟨W, 0, none⟩), .int .i64 n] w fun e w' => e = .returned (.pointer none) ∧ w' = w := by
  by_cases h0 : n < 0
  · clear hn
    go_enter Tryz.func139, Tryz.ntmps139
    go_wp2
    go_ret
    exact ⟨rfl, rfl⟩
  · have h3 : (3 : Int) ≤ n := by omega
    clear hn
    go_enter Tryz.func139, Tryz.ntmps139
    go_wp2
    go_ret
    exact ⟨rfl, rfl⟩
set_option maxHeartbeats 2000000 in
theorem Packets_any {N : Nat} {w : World} {W : Nat} {o : WOwn} {A : AW} (h : WRep N w W o A) {n : Nat} (hn : A.ms.length = n) :
    Calls Tryz.prog 136 #[.pointer (some ⟨W, 0, none⟩)] w fun e w' => ∃ g cap, e = .returned (.slice (some ⟨g, 0, none⟩) n cap) ∧ w'.ownsRow w.heap.size 102 9 (.slice (some ⟨g, 0, none⟩) n cap) n (A.ms.flatMap pcells) ∧ Below w.heap.size w w' := by
  have HL := hide (List_P h.p hn)
  have hc := h.cells.1.2.2.2.2
  clear h
  go_enter Tryz.func136, Tryz.ntmps136
  go_wp2_with fail
  refine (unhide HL).mono ?_
  rintro e w2 ⟨g, cap, rfl, ho, hb⟩
  have HO := hide ho
  have HB := hide hb
  clear ho hb
  go_wp2
  go_ret
  exact ⟨g, cap, rfl, unhide HO, unhide HB⟩

set_option maxRecDepth 100000 in
set_option maxHeartbeats 4000000 in
theorem have_any {N : Nat} {w : World} {W : Nat} {o : WOwn} {A : AW} (h : WRep N w W o A) (n : Int) (x : ACall) (hx : SmallC x) :
    Calls Tryz.prog 126 #[.pointer (some ⟨W, 0, none⟩), .int .i64 n, .agg #[.int .i64 x.kind, .string x.name, .string x.dst, .string x.text]] w fun e w' => e = .returned (.int .i64 (A.have n x).1) ∧ WTurn N w W o w' (A.have n x).2 := by
  obtain ⟨V, hV⟩ : ∃ V, V = w.alloc (.cells #[.int .i64 x.kind, .string x.name, .string x.dst, .string x.text] 70) := ⟨_, rfl⟩
  have hBV : Below w.heap.size w V := by rw [hV]; exact (Below.refl _ _).alloc (Nat.le_refl _) _
  have hXV : V.heap[w.heap.size]? = some (.cells #[.int .i64 x.kind, .string x.name, .string x.dst, .string x.text] 70 (0, 0)) := by rw [hV]; exact heap_alloc_new _ _
  have hrV := h.below hBV
  have HV := hide hV
  obtain ⟨x0, x1, x2, x3, xf⟩ := fourK hXV
  by_cases hn : n < 0 ∨ 2 < n
  · have e1 : A.have n x = (9, A) := by unfold AW.have; rw [if_pos hn]
    rw [e1]
    have HC := hide (fun w => Client_none W w n hn)
    have HT := hide ((WTurn.of_below hrV (Below.refl _ _)).before hBV h.size)
    clear h e1 hn hV hBV hXV hrV
    go_enter Tryz.func126, Tryz.ntmps126
    go_wp2_with fail
    rw [← unhide HV]
    refine ((unhide HC) _).mono ?_
    rintro e w1 ⟨rfl, hw⟩
    subst hw
    go_wp2
    go_ret
    exact ⟨rfl, unhide HT⟩
  · obtain ⟨m, rfl⟩ : ∃ m : Nat, n = (m : Int) := ⟨n.toNat, by omega⟩
    have hm : m < 3 := by omega
    have e1 : A.have (m : Int) x = ((A.cl m).ask x, ⟨A.log, upd A.cl m ((A.cl m).asked x), A.ms⟩) := by unfold AW.have; rw [if_neg hn, Int.toNat_natCast]
    rw [e1]
    have HC := hide (Client_some hrV m hm)
    have HK := hide (Call_any (hrV.c m hm) x hx)
    have HT := hide (fun w' (hT : KTurn N V (o.X m) (o.v m) w' ((A.cl m).asked x)) => (hrV.turnC hm hT ((h.c m hm).ok.asked hx)).before hBV h.size)
    generalize o.X m = X at HC HK HT
    generalize o.v m = v at HK HT
    generalize (A.cl m).ask x = r at HK ⊢
    clear h e1 hn hm hV hBV hXV hrV
    go_enter Tryz.func126, Tryz.ntmps126
    go_wp2_with fail
    rw [← unhide HV]
    refine (unhide HC).mono ?_
    rintro e w1 ⟨rfl, hw⟩
    subst hw
    go_wp2_with fail
    refine (unhide HK).mono ?_
    rintro e w2 ⟨rfl, hT⟩
    have HT2 := hide ((unhide HT) _ hT)
    clear hT
    go_wp2
    go_ret
    exact ⟨rfl, unhide HT2⟩

set_option maxRecDepth 100000 in
set_option maxHeartbeats 4000000 in
theorem double_any {N : Nat} {w : World} {W : Nat} {o : WOwn} {A : AW} (h : WRep N w W o A) (n : Int) :
    Calls Tryz.prog 128 #[.pointer (some ⟨W, 0, none⟩), .int .i64 n] w fun e w' => e = .returned (.int .i64 (A.dbl n).1) ∧ WTurn N w W o w' (A.dbl n).2 := by
  have hc := h.cells.1.2.2.2.2
  obtain ⟨k, hk⟩ : ∃ k, A.ms.length = k := ⟨_, rfl⟩
  have HL := hide (Len_P h.p hk)
  by_cases h0 : A.ms.length = 0
  · have e1 : A.dbl n = (6, A) := by unfold AW.dbl; rw [if_pos h0]
    rw [e1]
    have HT := hide (fun w' (hb : Below w.heap.size w w') => WTurn.of_below h hb)
    have hk0 : k = 0 := by omega
    subst hk0
    generalize o.P = P at hc HL
    clear h e1 h0 hk
    go_enter Tryz.func128, Tryz.ntmps128
    go_wp2_with fail
    refine (unhide HL).mono ?_
    rintro e w1 ⟨rfl, hw⟩
    subst hw
    go_wp2
    go_ret
    exact ⟨rfl, (unhide HT) _ (Below.refl _ _)⟩
  · have HD := hide (PDbl_any h.p n)
    have HT := hide (fun w' (hT : PTurn 116 N w o.P o.pv w' (aDblL A.ms n)) => h.turnP hT)
    have hb : aDblB A.ms = decide (A.ms.length < 40) := by unfold aDblB; rw [decide_eq_true (by omega), Bool.true_and]
    rw [hb] at HD
    have hk0 : ((k : Int) == 0) = false := by simp; omega
    by_cases hf : A.ms.length < 40
    · have e1 : A.dbl n = (0, ⟨A.log, A.cl, aDblL A.ms n⟩) := by unfold AW.dbl; rw [if_neg h0, if_pos hf]
      rw [e1]
      rw [decide_eq_true hf] at HD
      generalize o.P = P at hc HL HD HT
      generalize o.pv = pv at HD HT
      clear h e1 h0 hk hb hf
      go_enter Tryz.func128, Tryz.ntmps128
      go_wp2_with fail
      refine (unhide HL).mono ?_
      rintro e w1 ⟨rfl, hw⟩
      subst hw
      go_wp2_with fail
      refine (unhide HD).mono ?_
      rintro e w3 ⟨rfl, hT⟩
      have HT3 := hide ((unhide HT) _ hT)
      clear hT
      go_wp2
      go_ret
      exact ⟨rfl, unhide HT3⟩
    · have e1 : A.dbl n = (7, A) := by unfold AW.dbl; rw [if_neg h0, if_neg hf]
      have e2 : aDblL A.ms n = A.ms := by unfold aDblL aSend; rw [if_neg hf]; simp
      rw [e2] at HD HT
      rw [e1]
      rw [decide_eq_false hf] at HD
      generalize o.P = P at hc HL HD HT
      generalize o.pv = pv at HD HT
      clear h e1 h0 hk hb hf e2
      go_enter Tryz.func128, Tryz.ntmps128
      go_wp2_with fail
      refine (unhide HL).mono ?_
      rintro e w1 ⟨rfl, hw⟩
      subst hw
      go_wp2_with fail
      refine (unhide HD).mono ?_
      rintro e w3 ⟨rfl, hT⟩
      have HT3 := hide ((unhide HT) _ hT)
      clear hT
      go_wp2
      go_ret
      exact ⟨rfl, unhide HT3⟩

end Go.Proofs.YtffgolanmaenfacGreatDoor

namespace Go.Proofs.YtffgolanmaenfacGreatDoor
open Go.RowKit
set_option linter.unusedSimpArgs false
set_option linter.unusedVariables false


theorem PTurn.same {t : TypeId} {N : Nat} {w w' : World} {P : Nat} {v : Value} {ms : List APkt} (h : PTurn t N w P v w' ms) {b : Nat} (hb : b < w.heap.size) (hn : b ∉ powns P v) : w'.heap[b]? = w.heap[b]? := by
  obtain ⟨v', _, hk, _⟩ := h
  exact hk.block b hb hn
theorem STurned.same {N : Nat} {w w' : World} {S : Nat} {own : List Nat} {lv : Value} {L : List ARec} (h : STurned N w S own lv w' L) {b : Nat} (hb : b < w.heap.size) (hn : b ∉ sown S own lv) : w'.heap[b]? = w.heap[b]? := by
  obtain ⟨_, _, _, _, hk⟩ := h
  exact (hk.keep b hb hn).2
theorem SmallP.max {p : APkt} (h : SmallP p) : p.call.name.size ≤ maxLen ∧ p.call.dst.size ≤ maxLen ∧ p.call.text.size ≤ maxLen := ⟨small_max h.1, small_max h.2.1, small_max h.2.2.1⟩
/-- What a call is answered is not long. -/
theorem call_small {L : List ARec} (hg : Good L) (client no : Int) (c : ACall) : (aCall L client no c).text.size ≤ 100 := by
  have hz : (⟨#[]⟩ : ByteArray).size = 0 := rfl
  unfold aCall
  split
  · dsimp only; omega
  split
  · dsimp only; omega
  split
  · exact aDo_small L c
  split
  · split
    · dsimp only; omega
    · exact aDo_small L c
  split
  · dsimp only
    rcases lastR_or L client with ⟨h5, _⟩ | ⟨h5, _⟩
    · rw [h5]; show (⟨#[]⟩ : ByteArray).size ≤ 100; omega
    · have := (enc_small (hg _ h5)).2; omega
  · dsimp only; omega
theorem WRep.not_new {N : Nat} {w : World} {W : Nat} {o : WOwn} {A : AW} (h : WRep N w W o A) {b : Nat} (hb : w.heap.size ≤ b) : b ∉ o.all W := fun hm => by have := (h.all_ge b hm).2; omega
theorem WRep.not_part {N : Nat} {w : World} {W : Nat} {o : WOwn} {A : AW} (h : WRep N w W o A) {b : Nat} (hb : w.heap.size ≤ b) {i : Nat} (hi : i < 5) : b ∉ o.part i := fun hm => by have := (h.ge hi b hm).2; omega

set_option maxRecDepth 100000 in
set_option maxHeartbeats 4000000 in
theorem wsend_any {N : Nat} {w : World} {W : Nat} {o : WOwn} {A : AW} (h : WRep N w W o A) (n : Int) :
    Calls Tryz.prog 127 #[.pointer (some ⟨W, 0, none⟩), .int .i64 n] w fun e w' => e = .returned (.int .i64 (A.send n).1) ∧ WTurn N w W o w' (A.send n).2 := by
  by_cases hn : n < 0 ∨ 2 < n
  · have e1 : A.send n = (9, A) := by unfold AW.send; rw [if_pos hn]
    rw [e1]
    have HC := hide (fun w => Client_none W w n hn)
    have HT := hide (fun w' (hb : Below w.heap.size w w') => WTurn.of_below h hb)
    clear h e1 hn
    go_enter Tryz.func127, Tryz.ntmps127
    go_wp2_with fail
    refine ((unhide HC) _).mono ?_
    rintro e w1 ⟨rfl, hw⟩
    subst hw
    go_wp2
    go_ret
    exact ⟨rfl, (unhide HT) _ (Below.refl _ _)⟩
  · obtain ⟨m, rfl⟩ : ∃ m : Nat, n = (m : Int) := ⟨n.toNat, by omega⟩
    have hm : m < 3 := by omega
    have HC := hide (Client_some h m hm)
    have HS := hide (Send_any (h.c m hm))
    have HPC := hide (fun w' (hb : Below w.heap.size w w') => (h.below hb).cells.1.2.2.2.2)
    cases hop : (A.cl m).op
    · have e1 : A.send (m : Int) = (6, A) := by unfold AW.send; rw [if_neg hn, Int.toNat_natCast, if_pos hop]
      rw [e1]
      have HT := hide (fun w' (hb : Below w.heap.size w w') => WTurn.of_below h hb)
      rw [hop] at HS
      have e2 : (A.cl m).pkt = zeroPkt := by unfold ACli.pkt; rw [hop]; rfl
      rw [e2] at HS
      dsimp only [APkt.val, zeroPkt] at HS
      generalize o.X m = X at HC HS
      clear h e1 e2 hn hm hop HPC
      go_enter Tryz.func127, Tryz.ntmps127
      go_wp2_with fail
      refine (unhide HC).mono ?_
      rintro e w1 ⟨rfl, hw⟩
      subst hw
      go_wp2_with fail
      refine (unhide HS).mono ?_
      rintro e w2 ⟨rfl, hb⟩
      have HB := hide (hb.trans (((Below.refl w2.heap.size w2).alloc (Nat.le_refl _) (.cells #[.bool false, .int .i64 0, .int .i64 0, .int .i64 0, .string ⟨#[]⟩, .string ⟨#[]⟩, .string ⟨#[]⟩, .int .i64 0, .string ⟨#[]⟩] 102)).mono hb.size))
      clear hb
      go_wp2
      go_ret
      exact ⟨rfl, (unhide HT) _ (unhide HB)⟩
    · have e1 : A.send (m : Int) = if A.ms.length < 40 then (0, ⟨A.log, A.cl, aSend A.ms (A.cl m).pkt⟩) else (7, A) := by unfold AW.send; rw [if_neg hn, Int.toNat_natCast, if_neg (by simp [hop])]
      rw [hop] at HS
      have hsm := pkt_small (h.c m hm).ok
      have HP := hide (fun w' (hb : Below w.heap.size w w') => PSend_any (h.p.below hb) (A.cl m).pkt hsm)
      have HT := hide (fun w1 w' (hb : Below w.heap.size w w1) (hT : PTurn 116 N w1 o.P o.pv w' (aSend A.ms (A.cl m).pkt)) => ((h.below hb).turnP hT).before hb h.size)
      have HNW : Hid (∀ V : World, w.heap.size ≤ V.heap.size → W < V.heap.size ∧ W ∉ powns o.P o.pv) := fun V hV => ⟨Nat.lt_of_lt_of_le h.lt hV, h.nW 4 (by omega)⟩
      have HNX : Hid (∀ b, w.heap.size ≤ b → b ∉ powns o.P o.pv) := fun b hb => h.not_part hb (i := 4) (by omega)
      have hse : ¬ A.ms.length < 40 → aSend A.ms (A.cl m).pkt = A.ms := fun h => by unfold aSend; rw [if_neg h]
      generalize (A.cl m).pkt = p at HS HP HT e1 hse hsm
      obtain ⟨pr, pc, pn, ⟨pk, pa, pb, pt⟩, pd, pu⟩ := p
      dsimp only [APkt.val] at HS HP
      generalize o.X m = X at HC HS
      generalize o.P = P at HPC HP HT HNW HNX
      generalize o.pv = pv at HP HT HNW HNX
      by_cases hf : A.ms.length < 40
      · rw [if_pos hf] at e1
        rw [decide_eq_true hf] at HP
        rw [e1]
        clear h e1 hn hm hop hse hsm hf
        go_enter Tryz.func127, Tryz.ntmps127
        go_wp2_with fail
        refine (unhide HC).mono ?_
        rintro e w1 ⟨rfl, hw⟩
        subst hw
        go_wp2_with fail
        refine (unhide HS).mono ?_
        rintro e w2 ⟨rfl, hb⟩
        obtain ⟨V, hV⟩ : ∃ V, V = w2.alloc (.cells #[.bool pr, .int .i64 pc, .int .i64 pn, .int .i64 pk, .string pa, .string pb, .string pt, .int .i64 pd, .string pu] 102) := ⟨_, rfl⟩
        have hBV : Below w2.heap.size w2 V := by rw [hV]; exact (Below.refl _ _).alloc (Nat.le_refl _) _
        have hbV := hb.trans (hBV.mono hb.size)
        have hXV : V.heap[w2.heap.size]? = some (.cells #[.bool pr, .int .i64 pc, .int .i64 pn, .int .i64 pk, .string pa, .string pb, .string pt, .int .i64 pd, .string pu] 102 (0, 0)) := by rw [hV]; exact heap_alloc_new _ _
        have HPV := hide ((unhide HPC) _ hbV)
        have HXV := hide hXV
        have HP2 := hide ((unhide HP) _ (hbV.trans ((below_drew V).mono hbV.size)))
        have HT2 := hide (fun w' hT => (unhide HT) V.drew w' (hbV.trans ((below_drew V).mono hbV.size)) hT)
        have HKW := hide ((unhide HNW) V (hbV.size))
        have HKX := hide ((unhide HNX) w2.heap.size hb.size)
        have HLX : Hid (w2.heap.size < V.heap.size) := (Array.getElem?_eq_some_iff.1 hXV).1
        have HV := hide hV
        clear hV hb hBV hbV hXV
        go_wp2_with fail
        rw [← unhide HV]
        refine wp_region_held_drew (S := (fun wx => wx.heap[W]? = V.heap[W]? ∧ wx.heap[w2.heap.size]? = V.heap[w2.heap.size]?)) (by kernel_rfl) (⟨rfl, rfl⟩) (fun hHeld => ?_)
        refine wpAnyH_take (i := 0) (v := ?_) opn0 (by kernel_rfl) (by kernel_rfl) (by kernel_rfl) (fun _ _ _ h => h) (Or.inl ⟨by kernel_rfl, ?_⟩) (by assumption) ?_
        rotate_left 1
        · intro wz hSw
          try dsimp only at hSw
          go_simp
          all_goals with_reducible rfl
        try simp only [Act.put, List.setIfInBounds_toArray, List.set_cons_zero, List.set_cons_succ]
        refine wpAnyH_take (i := 1) (v := ?_) opn1 (by kernel_rfl) (by kernel_rfl) (by kernel_rfl) (fun _ _ _ h => h) (Or.inl ⟨by kernel_rfl, ?_⟩) (by assumption) ?_
        rotate_left 1
        · intro wz hSw
          try dsimp only at hSw
          go_simp
          all_goals with_reducible rfl
        try simp only [Act.put, List.setIfInBounds_toArray, List.set_cons_zero, List.set_cons_succ]
        refine wpAnyH_take (i := 2) (v := ?_) opn2 (by kernel_rfl) (by kernel_rfl) (by kernel_rfl) (fun _ _ _ h => h) (Or.inl ⟨by kernel_rfl, ?_⟩) (by assumption) ?_
        rotate_left 1
        · intro wz hSw
          try dsimp only at hSw
          go_simp
          all_goals with_reducible rfl
        try simp only [Act.put, List.setIfInBounds_toArray, List.set_cons_zero, List.set_cons_succ]
        refine wpAnyH_take (i := 3) (v := ?_) opn3 (by kernel_rfl) (by kernel_rfl) (by kernel_rfl) (fun _ _ _ h => h) (Or.inl ⟨by kernel_rfl, ?_⟩) (by assumption) ?_
        rotate_left 1
        · intro wz hSw
          try dsimp only at hSw
          have hq : wz.cell? ⟨W, 4, none⟩ = some (.pointer (some ⟨P, 0, none⟩)) := (World.cell?_of_block (w := V) (a := ⟨W, 4, none⟩) hSw.1).trans (unhide HPV)
          go_simp
          all_goals with_reducible rfl
        try simp only [Act.put, List.setIfInBounds_toArray, List.set_cons_zero, List.set_cons_succ]
        refine wpAnyH_take (i := 4) (v := ?_) opn4 (by kernel_rfl) (by kernel_rfl) (by kernel_rfl) (fun _ _ _ h => h) (Or.inl ⟨by kernel_rfl, ?_⟩) (by assumption) ?_
        rotate_left 1
        · intro wz hSw
          try dsimp only at hSw
          obtain ⟨⟨x0, x1, x2, x3⟩, ⟨x4, x5, x6, x7, x8⟩, xf⟩ := nine (hSw.2.trans (unhide HXV))
          go_simp
          all_goals with_reducible rfl
        try simp only [Act.put, List.setIfInBounds_toArray, List.set_cons_zero, List.set_cons_succ]
        refine wpAnyH_ready (rs := [5]) (by kernel_rfl) (by simp) ?_
        refine AllReadyH.cons opn5 (fun K hK => ?_) AllReadyH.nil
        rw [if_pos (by kernel_rfl)]
        go_simp
        refine (unhide HP2).mono ?_
        rintro e w3 ⟨rfl, hT⟩
        have HT3 := hide ((unhide HT2) _ hT)
        have hk1 : w3.heap[W]? = V.heap[W]? := hT.same (unhide HKW).1 (unhide HKW).2
        have hk2 : w3.heap[w2.heap.size]? = V.heap[w2.heap.size]? := hT.same (unhide HLX) (unhide HKX)
        clear hT
        refine hK.out _ _ (⟨hk1, hk2⟩) (fun hHeldN => ?_)
        clear hHeld hK K
        have hHeld := hHeldN
        clear hHeldN
        try simp only [Act.put, List.setIfInBounds_toArray, List.set_cons_zero, List.set_cons_succ]
        clear hk1 hk2
        refine wpAnyH_take (i := 6) (v := ?_) opn6 (by kernel_rfl) (by kernel_rfl) (by kernel_rfl) (fun _ _ _ h => h) (Or.inl ⟨by kernel_rfl, ?_⟩) (by assumption) ?_
        rotate_left 1
        · intro wz hSw
          try dsimp only at hSw
          go_simp
          all_goals with_reducible rfl
        try simp only [Act.put, List.setIfInBounds_toArray, List.set_cons_zero, List.set_cons_succ]
        refine wpAnyH_done (by kernel_rfl) ?_ _
        go_wp2
        go_ret
        exact ⟨rfl, unhide HT3⟩
      · rw [if_neg hf] at e1
        rw [decide_eq_false hf] at HP
        rw [hse hf] at HT HP
        rw [e1]
        clear h e1 hn hm hop hse hsm hf
        go_enter Tryz.func127, Tryz.ntmps127
        go_wp2_with fail
        refine (unhide HC).mono ?_
        rintro e w1 ⟨rfl, hw⟩
        subst hw
        go_wp2_with fail
        refine (unhide HS).mono ?_
        rintro e w2 ⟨rfl, hb⟩
        obtain ⟨V, hV⟩ : ∃ V, V = w2.alloc (.cells #[.bool pr, .int .i64 pc, .int .i64 pn, .int .i64 pk, .string pa, .string pb, .string pt, .int .i64 pd, .string pu] 102) := ⟨_, rfl⟩
        have hBV : Below w2.heap.size w2 V := by rw [hV]; exact (Below.refl _ _).alloc (Nat.le_refl _) _
        have hbV := hb.trans (hBV.mono hb.size)
        have hXV : V.heap[w2.heap.size]? = some (.cells #[.bool pr, .int .i64 pc, .int .i64 pn, .int .i64 pk, .string pa, .string pb, .string pt, .int .i64 pd, .string pu] 102 (0, 0)) := by rw [hV]; exact heap_alloc_new _ _
        have HPV := hide ((unhide HPC) _ hbV)
        have HXV := hide hXV
        have HP2 := hide ((unhide HP) _ (hbV.trans ((below_drew V).mono hbV.size)))
        have HT2 := hide (fun w' hT => (unhide HT) V.drew w' (hbV.trans ((below_drew V).mono hbV.size)) hT)
        have HKW := hide ((unhide HNW) V (hbV.size))
        have HKX := hide ((unhide HNX) w2.heap.size hb.size)
        have HLX : Hid (w2.heap.size < V.heap.size) := (Array.getElem?_eq_some_iff.1 hXV).1
        have HV := hide hV
        clear hV hb hBV hbV hXV
        go_wp2_with fail
        rw [← unhide HV]
        refine wp_region_held_drew (S := (fun wx => wx.heap[W]? = V.heap[W]? ∧ wx.heap[w2.heap.size]? = V.heap[w2.heap.size]?)) (by kernel_rfl) (⟨rfl, rfl⟩) (fun hHeld => ?_)
        refine wpAnyH_take (i := 0) (v := ?_) opn0 (by kernel_rfl) (by kernel_rfl) (by kernel_rfl) (fun _ _ _ h => h) (Or.inl ⟨by kernel_rfl, ?_⟩) (by assumption) ?_
        rotate_left 1
        · intro wz hSw
          try dsimp only at hSw
          go_simp
          all_goals with_reducible rfl
        try simp only [Act.put, List.setIfInBounds_toArray, List.set_cons_zero, List.set_cons_succ]
        refine wpAnyH_take (i := 1) (v := ?_) opn1 (by kernel_rfl) (by kernel_rfl) (by kernel_rfl) (fun _ _ _ h => h) (Or.inl ⟨by kernel_rfl, ?_⟩) (by assumption) ?_
        rotate_left 1
        · intro wz hSw
          try dsimp only at hSw
          go_simp
          all_goals with_reducible rfl
        try simp only [Act.put, List.setIfInBounds_toArray, List.set_cons_zero, List.set_cons_succ]
        refine wpAnyH_take (i := 2) (v := ?_) opn2 (by kernel_rfl) (by kernel_rfl) (by kernel_rfl) (fun _ _ _ h => h) (Or.inl ⟨by kernel_rfl, ?_⟩) (by assumption) ?_
        rotate_left 1
        · intro wz hSw
          try dsimp only at hSw
          go_simp
          all_goals with_reducible rfl
        try simp only [Act.put, List.setIfInBounds_toArray, List.set_cons_zero, List.set_cons_succ]
        refine wpAnyH_take (i := 3) (v := ?_) opn3 (by kernel_rfl) (by kernel_rfl) (by kernel_rfl) (fun _ _ _ h => h) (Or.inl ⟨by kernel_rfl, ?_⟩) (by assumption) ?_
        rotate_left 1
        · intro wz hSw
          try dsimp only at hSw
          have hq : wz.cell? ⟨W, 4, none⟩ = some (.pointer (some ⟨P, 0, none⟩)) := (World.cell?_of_block (w := V) (a := ⟨W, 4, none⟩) hSw.1).trans (unhide HPV)
          go_simp
          all_goals with_reducible rfl
        try simp only [Act.put, List.setIfInBounds_toArray, List.set_cons_zero, List.set_cons_succ]
        refine wpAnyH_take (i := 4) (v := ?_) opn4 (by kernel_rfl) (by kernel_rfl) (by kernel_rfl) (fun _ _ _ h => h) (Or.inl ⟨by kernel_rfl, ?_⟩) (by assumption) ?_
        rotate_left 1
        · intro wz hSw
          try dsimp only at hSw
          obtain ⟨⟨x0, x1, x2, x3⟩, ⟨x4, x5, x6, x7, x8⟩, xf⟩ := nine (hSw.2.trans (unhide HXV))
          go_simp
          all_goals with_reducible rfl
        try simp only [Act.put, List.setIfInBounds_toArray, List.set_cons_zero, List.set_cons_succ]
        refine wpAnyH_ready (rs := [5]) (by kernel_rfl) (by simp) ?_
        refine AllReadyH.cons opn5 (fun K hK => ?_) AllReadyH.nil
        rw [if_pos (by kernel_rfl)]
        go_simp
        refine (unhide HP2).mono ?_
        rintro e w3 ⟨rfl, hT⟩
        have HT3 := hide ((unhide HT2) _ hT)
        have hk1 : w3.heap[W]? = V.heap[W]? := hT.same (unhide HKW).1 (unhide HKW).2
        have hk2 : w3.heap[w2.heap.size]? = V.heap[w2.heap.size]? := hT.same (unhide HLX) (unhide HKX)
        clear hT
        refine hK.out _ _ (⟨hk1, hk2⟩) (fun hHeldN => ?_)
        clear hHeld hK K
        have hHeld := hHeldN
        clear hHeldN
        try simp only [Act.put, List.setIfInBounds_toArray, List.set_cons_zero, List.set_cons_succ]
        clear hk1 hk2
        refine wpAnyH_take (i := 6) (v := ?_) opn6 (by kernel_rfl) (by kernel_rfl) (by kernel_rfl) (fun _ _ _ h => h) (Or.inl ⟨by kernel_rfl, ?_⟩) (by assumption) ?_
        rotate_left 1
        · intro wz hSw
          try dsimp only at hSw
          go_simp
          all_goals with_reducible rfl
        try simp only [Act.put, List.setIfInBounds_toArray, List.set_cons_zero, List.set_cons_succ]
        refine wpAnyH_done (by kernel_rfl) ?_ _
        go_wp2
        go_ret
        exact ⟨rfl, unhide HT3⟩

set_option maxRecDepth 100000 in
set_option maxHeartbeats 4000000 in
theorem whear_any {N : Nat} {w : World} {W : Nat} {o : WOwn} {A : AW} (h : WRep N w W o A) (p : APkt) (hs : SmallP p) :
    Calls Tryz.prog 196 #[.pointer (some ⟨W, 0, none⟩), p.val] w fun e w' => e = .returned (.tuple #[]) ∧ WTurn N w W o w' (A.hear p) := by
  obtain ⟨V, hV⟩ : ∃ V, V = w.alloc (.cells #[.bool p.reply, .int .i64 p.client, .int .i64 p.no, .int .i64 p.call.kind, .string p.call.name, .string p.call.dst, .string p.call.text, .int .i64 p.code, .string p.ans] 102) := ⟨_, rfl⟩
  have hBV : Below w.heap.size w V := by rw [hV]; exact (Below.refl _ _).alloc (Nat.le_refl _) _
  have hXV : V.heap[w.heap.size]? = some (.cells #[.bool p.reply, .int .i64 p.client, .int .i64 p.no, .int .i64 p.call.kind, .string p.call.name, .string p.call.dst, .string p.call.text, .int .i64 p.code, .string p.ans] 102 (0, 0)) := by rw [hV]; exact heap_alloc_new _ _
  have hlV : w.heap.size < V.heap.size := (Array.getElem?_eq_some_iff.1 hXV).1
  have hrV := h.below hBV
  have HBV := hide hBV
  have HXV := hide hXV
  have HV := hide hV
  by_cases hn : p.client < 0 ∨ 2 < p.client
  · have e1 : A.hear p = A := by unfold AW.hear; rw [if_pos hn]
    rw [e1]
    have HC := hide (fun w => Client_none W w p.client hn)
    have HT := hide (fun w' (hb : Below V.heap.size V w') => (WTurn.of_below hrV hb).before hBV h.size)
    obtain ⟨⟨x0, x1, x2, x3⟩, ⟨x4, x5, x6, x7, x8⟩, xf⟩ := nine hXV
    clear h e1 hn hV hBV hXV hrV hs
    obtain ⟨pr, pc, pn, ⟨pk, pa, pb, pt⟩, pd, pu⟩ := p
    dsimp only [APkt.val] at *
    go_enter Tryz.func196, Tryz.ntmps196
    go_wp2_with fail
    rw [← unhide HV]
    refine ((unhide HC) _).mono ?_
    rintro e w1 ⟨rfl, hw⟩
    subst hw
    go_wp2
    refine bodyPost_end (v := .tuple #[]) (by simp [results, Tryz.results196, go_sem]) rfl ?_
    exact ⟨rfl, (unhide HT) _ (Below.refl _ _)⟩
  · obtain ⟨m, hm⟩ : ∃ m : Nat, p.client = (m : Int) := ⟨p.client.toNat, by omega⟩
    have hm3 : m < 3 := by omega
    have e1 : A.hear p = ⟨A.log, upd A.cl m ((A.cl m).heard p), A.ms⟩ := by unfold AW.hear; rw [if_neg hn, hm, Int.toNat_natCast]
    rw [e1]
    have HC := hide (Client_some hrV m hm3)
    have HK := hide (Hear_any (hrV.c m hm3) p hs)
    have HT := hide (fun w' (hT : KTurn N V (o.X m) (o.v m) w' ((A.cl m).heard p)) => (hrV.turnC hm3 hT ((h.c m hm3).ok.heard hs)).before hBV h.size)
    generalize o.X m = X at HC HK HT
    generalize o.v m = v at HK HT
    generalize (A.cl m).hears p = r at HK
    generalize (A.cl m).heard p = c' at HK HT ⊢
    obtain ⟨⟨x0, x1, x2, x3⟩, ⟨x4, x5, x6, x7, x8⟩, xf⟩ := nine hXV
    clear h e1 hn hm3 hs hV hBV hXV hrV
    obtain ⟨pr, pc, pn, ⟨pk, pa, pb, pt⟩, pd, pu⟩ := p
    dsimp only at hm
    subst hm
    dsimp only [APkt.val] at *
    go_enter Tryz.func196, Tryz.ntmps196
    go_wp2_with fail
    rw [← unhide HV]
    refine (unhide HC).mono ?_
    rintro e w1 ⟨rfl, hw⟩
    subst hw
    go_wp2_with fail
    refine (unhide HK).mono ?_
    rintro e w2 ⟨rfl, hT⟩
    have HT2 := hide ((unhide HT) _ hT)
    clear hT
    go_wp2
    refine bodyPost_end (v := .tuple #[]) (by simp [results, Tryz.results196, go_sem]) rfl ?_
    exact ⟨rfl, unhide HT2⟩

set_option maxRecDepth 100000 in
set_option maxHeartbeats 4000000 in
theorem wtear_any {N : Nat} {w : World} {W : Nat} {o : WOwn} {A : AW} (h : WRep N w W o A) (p : APkt) (hs : SmallP p) (keep : Int) :
    Calls Tryz.prog 166 #[.pointer (some ⟨W, 0, none⟩), p.val, .int .i64 keep] w fun e w' => e = .returned (.int .i64 (A.tear p keep).1) ∧ WTurn N w W o w' (A.tear p keep).2 := by
  obtain ⟨V, hV⟩ : ∃ V, V = w.alloc (.cells #[.bool p.reply, .int .i64 p.client, .int .i64 p.no, .int .i64 p.call.kind, .string p.call.name, .string p.call.dst, .string p.call.text, .int .i64 p.code, .string p.ans] 102) := ⟨_, rfl⟩
  have hBV : Below w.heap.size w V := by rw [hV]; exact (Below.refl _ _).alloc (Nat.le_refl _) _
  have hXV : V.heap[w.heap.size]? = some (.cells #[.bool p.reply, .int .i64 p.client, .int .i64 p.no, .int .i64 p.call.kind, .string p.call.name, .string p.call.dst, .string p.call.text, .int .i64 p.code, .string p.ans] 102 (0, 0)) := by rw [hV]; exact heap_alloc_new _ _
  have hlV : w.heap.size < V.heap.size := (Array.getElem?_eq_some_iff.1 hXV).1
  have hrV := h.below hBV
  have HBV := hide hBV
  have HXV := hide hXV
  have HV := hide hV
  have HSC := hide hrV.cells.1.1
  cases hr : p.reply
  · have e1 : A.tear p keep = ((aTear A.log p.client p.no p.call keep).1, ⟨(aTear A.log p.client p.no p.call keep).2, A.cl, A.ms⟩) := by unfold AW.tear; rw [hr]; rfl
    rw [e1]
    have hrD := hrV.below (below_drew V)
    have HTR := hide (STear_any hrD.s p.client p.no keep p.call h.ss hrD.size hs.max.1 hs.max.2.1 hs.max.2.2)
    have HT := hide (fun w' (hT : STurned N V.drew o.S o.own o.lv w' (aTear A.log p.client p.no p.call keep).2) => (hrD.turnS hT (aTear_short h.s.good h.ss _ _ _ _)).before (hBV.trans ((below_drew V).mono hBV.size)) h.size)
    have HKW : Hid (W < V.heap.size ∧ W ∉ sown o.S o.own o.lv) := ⟨hrV.lt, h.nW 3 (by omega)⟩
    have HKX : Hid (w.heap.size < V.heap.size ∧ w.heap.size ∉ sown o.S o.own o.lv) := ⟨hlV, h.not_part (Nat.le_refl _) (i := 3) (by omega)⟩
    generalize aTear A.log p.client p.no p.call keep = R at HTR HT
    obtain ⟨r1, r2⟩ := R
    dsimp only at HTR HT ⊢
    generalize o.S = S at HTR HT HSC HKW HKX
    generalize o.own = own at HTR HT HKW HKX
    generalize o.lv = lv at HTR HT HKW HKX
    have hx := nine hXV
    clear h e1 hV hBV hXV hrV hrD hs
    obtain ⟨pr, pc, pn, ⟨pk, pa, pb, pt⟩, pd, pu⟩ := p
    dsimp only [APkt.val] at *
    subst hr
    obtain ⟨⟨x0, x1, x2, x3⟩, ⟨x4, x5, x6, x7, x8⟩, xf⟩ := hx
    go_enter Tryz.func166, Tryz.ntmps166
    go_wp2_with fail
    rw [← unhide HV]
    clear x0 x1 x2 x3 x4 x5 x6 x7 x8 xf
    refine wp_region_held_drew (S := (fun wx => wx.heap[W]? = V.heap[W]? ∧ wx.heap[w.heap.size]? = V.heap[w.heap.size]?)) (by kernel_rfl) (⟨rfl, rfl⟩) (fun hHeld => ?_)
    refine wpAnyH_take (i := 0) (v := ?_) opn0 (by kernel_rfl) (by kernel_rfl) (by kernel_rfl) (fun _ _ _ h => h) (Or.inl ⟨by kernel_rfl, ?_⟩) (by assumption) ?_
    rotate_left 1
    · intro wz hSw
      try dsimp only at hSw
      go_simp
      all_goals with_reducible rfl
    try simp only [Act.put, List.setIfInBounds_toArray, List.set_cons_zero, List.set_cons_succ]
    refine wpAnyH_take (i := 1) (v := ?_) opn1 (by kernel_rfl) (by kernel_rfl) (by kernel_rfl) (fun _ _ _ h => h) (Or.inl ⟨by kernel_rfl, ?_⟩) (by assumption) ?_
    rotate_left 1
    · intro wz hSw
      try dsimp only at hSw
      go_simp
      all_goals with_reducible rfl
    try simp only [Act.put, List.setIfInBounds_toArray, List.set_cons_zero, List.set_cons_succ]
    refine wpAnyH_take (i := 2) (v := ?_) opn2 (by kernel_rfl) (by kernel_rfl) (by kernel_rfl) (fun _ _ _ h => h) (Or.inl ⟨by kernel_rfl, ?_⟩) (by assumption) ?_
    rotate_left 1
    · intro wz hSw
      try dsimp only at hSw
      go_simp
      all_goals with_reducible rfl
    try simp only [Act.put, List.setIfInBounds_toArray, List.set_cons_zero, List.set_cons_succ]
    refine wpAnyH_take (i := 3) (v := ?_) opn3 (by kernel_rfl) (by kernel_rfl) (by kernel_rfl) (fun _ _ _ h => h) (Or.inl ⟨by kernel_rfl, ?_⟩) (by assumption) ?_
    rotate_left 1
    · intro wz hSw
      try dsimp only at hSw
      have hq : wz.cell? ⟨W, 0, none⟩ = some (.pointer (some ⟨S, 0, none⟩)) := (World.cell?_of_block (w := V) (a := ⟨W, 0, none⟩) hSw.1).trans (unhide HSC)
      go_simp
      all_goals with_reducible rfl
    try simp only [Act.put, List.setIfInBounds_toArray, List.set_cons_zero, List.set_cons_succ]
    refine wpAnyH_take (i := 4) (v := ?_) opn4 (by kernel_rfl) (by kernel_rfl) (by kernel_rfl) (fun _ _ _ h => h) (Or.inl ⟨by kernel_rfl, ?_⟩) (by assumption) ?_
    rotate_left 1
    · intro wz hSw
      try dsimp only at hSw
      go_simp
      all_goals with_reducible rfl
    try simp only [Act.put, List.setIfInBounds_toArray, List.set_cons_zero, List.set_cons_succ]
    refine wpAnyH_take (i := 5) (v := ?_) opn5 (by kernel_rfl) (by kernel_rfl) (by kernel_rfl) (fun _ _ _ h => h) (Or.inl ⟨by kernel_rfl, ?_⟩) (by assumption) ?_
    rotate_left 1
    · intro wz hSw
      try dsimp only at hSw
      obtain ⟨⟨x0, x1, x2, x3⟩, ⟨x4, x5, x6, x7, x8⟩, xf⟩ := nine (hSw.2.trans (unhide HXV))
      go_simp
      all_goals with_reducible rfl
    try simp only [Act.put, List.setIfInBounds_toArray, List.set_cons_zero, List.set_cons_succ]
    refine wpAnyH_take (i := 6) (v := ?_) opn6 (by kernel_rfl) (by kernel_rfl) (by kernel_rfl) (fun _ _ _ h => h) (Or.inl ⟨by kernel_rfl, ?_⟩) (by assumption) ?_
    rotate_left 1
    · intro wz hSw
      try dsimp only at hSw
      go_simp
      all_goals with_reducible rfl
    try simp only [Act.put, List.setIfInBounds_toArray, List.set_cons_zero, List.set_cons_succ]
    refine wpAnyH_take (i := 7) (v := ?_) opn7 (by kernel_rfl) (by kernel_rfl) (by kernel_rfl) (fun _ _ _ h => h) (Or.inl ⟨by kernel_rfl, ?_⟩) (by assumption) ?_
    rotate_left 1
    · intro wz hSw
      try dsimp only at hSw
      obtain ⟨⟨x0, x1, x2, x3⟩, ⟨x4, x5, x6, x7, x8⟩, xf⟩ := nine (hSw.2.trans (unhide HXV))
      go_simp
      all_goals with_reducible rfl
    try simp only [Act.put, List.setIfInBounds_toArray, List.set_cons_zero, List.set_cons_succ]
    refine wpAnyH_take (i := 8) (v := ?_) opn8 (by kernel_rfl) (by kernel_rfl) (by kernel_rfl) (fun _ _ _ h => h) (Or.inl ⟨by kernel_rfl, ?_⟩) (by assumption) ?_
    rotate_left 1
    · intro wz hSw
      try dsimp only at hSw
      go_simp
      all_goals with_reducible rfl
    try simp only [Act.put, List.setIfInBounds_toArray, List.set_cons_zero, List.set_cons_succ]
    refine wpAnyH_take (i := 9) (v := ?_) opn9 (by kernel_rfl) (by kernel_rfl) (by kernel_rfl) (fun _ _ _ h => h) (Or.inl ⟨by kernel_rfl, ?_⟩) (by assumption) ?_
    rotate_left 1
    · intro wz hSw
      try dsimp only at hSw
      obtain ⟨⟨x0, x1, x2, x3⟩, ⟨x4, x5, x6, x7, x8⟩, xf⟩ := nine (hSw.2.trans (unhide HXV))
      go_simp
      all_goals with_reducible rfl
    try simp only [Act.put, List.setIfInBounds_toArray, List.set_cons_zero, List.set_cons_succ]
    refine wpAnyH_take (i := 10) (v := ?_) opn10 (by kernel_rfl) (by kernel_rfl) (by kernel_rfl) (fun _ _ _ h => h) (Or.inl ⟨by kernel_rfl, ?_⟩) (by assumption) ?_
    rotate_left 1
    · intro wz hSw
      try dsimp only at hSw
      go_simp
      all_goals with_reducible rfl
    try simp only [Act.put, List.setIfInBounds_toArray, List.set_cons_zero, List.set_cons_succ]
    refine wpAnyH_ready (rs := [11]) (by kernel_rfl) (by simp) ?_
    refine AllReadyH.cons opn11 (fun K hK => ?_) AllReadyH.nil
    rw [if_pos (by kernel_rfl)]
    go_simp
    refine (unhide HTR).mono ?_
    rintro e w1 ⟨rfl, hT⟩
    have HT3 := hide ((unhide HT) _ hT)
    have hk1 : w1.heap[W]? = V.heap[W]? := hT.same (unhide HKW).1 (unhide HKW).2
    have hk2 : w1.heap[w.heap.size]? = V.heap[w.heap.size]? := hT.same (unhide HKX).1 (unhide HKX).2
    clear hT
    refine hK.out _ _ (⟨hk1, hk2⟩) (fun hHeldN => ?_)
    clear hHeld hK K
    have hHeld := hHeldN
    clear hHeldN
    try simp only [Act.put, List.setIfInBounds_toArray, List.set_cons_zero, List.set_cons_succ]
    clear hk1 hk2
    refine wpAnyH_take (i := 12) (v := ?_) opn12 (by kernel_rfl) (by kernel_rfl) (by kernel_rfl) (fun _ _ _ h => h) (Or.inl ⟨by kernel_rfl, ?_⟩) (by assumption) ?_
    rotate_left 1
    · intro wz hSw
      try dsimp only at hSw
      go_simp
      all_goals with_reducible rfl
    try simp only [Act.put, List.setIfInBounds_toArray, List.set_cons_zero, List.set_cons_succ]
    refine wpAnyH_done (by kernel_rfl) ?_ _
    go_wp2
    go_ret
    exact ⟨rfl, unhide HT3⟩
  · have e1 : A.tear p keep = (0, A) := by unfold AW.tear; rw [hr]; rfl
    rw [e1]
    have HCR := hide (Crash_any hrV.s (by have := h.ss; omega) hrV.size)
    have HT := hide (fun w' (hT : STurned N V o.S o.own o.lv w' A.log) => (hrV.turnS hT h.ss).before hBV h.size)
    have hWl := h.lt
    have hWn : W ≠ w.heap.size := by omega
    have hsc := h.cells.1.1
    generalize o.S = S at HCR HT hsc
    generalize o.own = own at HCR HT
    generalize o.lv = lv at HCR HT
    have hx := nine hXV
    clear HSC
    clear h e1 hV hBV hXV hrV hs
    obtain ⟨pr, pc, pn, ⟨pk, pa, pb, pt⟩, pd, pu⟩ := p
    dsimp only [APkt.val] at *
    subst hr
    obtain ⟨⟨x0, x1, x2, x3⟩, ⟨x4, x5, x6, x7, x8⟩, xf⟩ := hx
    go_enter Tryz.func166, Tryz.ntmps166
    go_wp2_with fail
    rw [← unhide HV]
    refine (unhide HCR).mono ?_
    rintro e w1 ⟨rfl, hT⟩
    have HT3 := hide ((unhide HT) _ hT)
    clear hT
    go_wp2
    go_ret
    exact ⟨rfl, unhide HT3⟩

end Go.Proofs.YtffgolanmaenfacGreatDoor

namespace Go.Proofs.YtffgolanmaenfacGreatDoor
open Go.RowKit
set_option linter.unusedSimpArgs false
set_option linter.unusedVariables false

theorem WRep.set {N : Nat} {w1 w2 : World} {W : Nat} {o : WOwn} {A : AW} (h : WRep N w1 W o A) {b : Nat} (hn : b ∉ o.all W) (hk : Kept [b] w1 w2) : WRep N w2 W o A := h.kept hk fun k h1 h2 => by simp at h2; subst h2; exact hn h1
theorem Next.setN {N : Nat} {w w1 w2 : World} {a c : List Nat} (h : Next N w w1 a c) (hN : N ≤ w.heap.size) {b : Nat} (hb : w.heap.size ≤ b) (hk : Kept [b] w1 w2) : Next N w w2 a c :=
  ⟨h.below.trans (hk.below (Nat.le_trans hN h.below.size) (fun k h1 => by simp at h1; subst h1; omega)), fun x hx hn => ⟨(h.keep x hx hn).1, (hk.block x (Nat.lt_of_lt_of_le hx h.below.size) (fun hm => by simp at hm; omega)).trans (h.keep x hx hn).2⟩⟩
theorem setTwo {w : World} {b : Nat} {x0 x1 : Value} {e : TypeId} (h : w.heap[b]? = some (.cells #[x0, x1] e (0, 0))) (y0 y1 : Value) : ((w.setCell ⟨b, 0, none⟩ y0).setCell ⟨b, 1, none⟩ y1).heap[b]? = some (.cells #[y0, y1] e (0, 0)) ∧ Kept [b] w ((w.setCell ⟨b, 0, none⟩ y0).setCell ⟨b, 1, none⟩ y1) := by
  refine ⟨heap_setCell_same (heap_setCell_same h _) _, ?_⟩
  have k : ∀ (W : World) (o : Nat) (u : Value), Kept [b] W (W.setCell ⟨b, o, none⟩ u) := fun W o u => kept_setCell [b] W b o u (by simp)
  exact (k w 0 y0).trans (k _ 1 y1) (fun x hx => .inl hx)
theorem set078 {w : World} {b : Nat} {x0 x1 x2 x3 x4 x5 x6 x7 x8 : Value} {e : TypeId} (h : w.heap[b]? = some (.cells #[x0, x1, x2, x3, x4, x5, x6, x7, x8] e (0, 0))) (y0 y7 y8 : Value) : (((w.setCell ⟨b, 0, none⟩ y0).setCell ⟨b, 7, none⟩ y7).setCell ⟨b, 8, none⟩ y8).heap[b]? = some (.cells #[y0, x1, x2, x3, x4, x5, x6, y7, y8] e (0, 0)) ∧ Kept [b] w (((w.setCell ⟨b, 0, none⟩ y0).setCell ⟨b, 7, none⟩ y7).setCell ⟨b, 8, none⟩ y8) := by
  refine ⟨heap_setCell_same (heap_setCell_same (heap_setCell_same h _) _) _, ?_⟩
  have k : ∀ (W : World) (o : Nat) (u : Value), Kept [b] W (W.setCell ⟨b, o, none⟩ u) := fun W o u => kept_setCell [b] W b o u (by simp)
  exact ((k w 0 y0).trans (k _ 7 y7) (fun x hx => .inl hx)).trans (k _ 8 y8) (fun x hx => .inl hx)
theorem Kept.drewR {o : List Nat} {w w' : World} (h : Kept o w w') : Kept o w w'.drew := ⟨h.os, h.tape, h.output, h.size, h.block⟩
theorem setRowN {w : World} {b : Nat} {C cs : Array Value} {e : TypeId} (h : w.heap[b]? = some (.cells C e (0, 0))) (hs : C.size = cs.size) : (w.setCells b 0 cs.toList).heap[b]? = some (.cells cs e (0, 0)) := by
  rw [heap_setCells b e (0, 0) cs.toList 0 w C h]
  congr 2
  apply Array.ext'
  rw [putList_toList cs.toList 0 C (by simp; omega)]
  simp
  omega

set_option maxRecDepth 100000 in
set_option maxHeartbeats 4000000 in
theorem serve_err {N : Nat} {w : World} {W : Nat} {o : WOwn} {A : AW} (h : WRep N w W o A) (p : APkt) (hs : SmallP p) (he : (aCall A.log p.client p.no p.call).err ≠ 0) :
    Calls Tryz.prog 197 #[.pointer (some ⟨W, 0, none⟩), p.val] w fun e w' => e = .returned (.tuple #[]) ∧ WTurn N w W o w' (A.serve p) := by
  obtain ⟨V, hV⟩ : ∃ V, V = w.alloc (.cells #[.bool p.reply, .int .i64 p.client, .int .i64 p.no, .int .i64 p.call.kind, .string p.call.name, .string p.call.dst, .string p.call.text, .int .i64 p.code, .string p.ans] 102) := ⟨_, rfl⟩
  have hBV : Below w.heap.size w V := by rw [hV]; exact (Below.refl _ _).alloc (Nat.le_refl _) _
  have hXV : V.heap[w.heap.size]? = some (.cells #[.bool p.reply, .int .i64 p.client, .int .i64 p.no, .int .i64 p.call.kind, .string p.call.name, .string p.call.dst, .string p.call.text, .int .i64 p.code, .string p.ans] 102 (0, 0)) := by rw [hV]; exact heap_alloc_new _ _
  have hlV : w.heap.size < V.heap.size := (Array.getElem?_eq_some_iff.1 hXV).1
  have hrV := h.below hBV
  have HBV := hide hBV
  have HXV := hide hXV
  have HV := hide hV
  have e1 : A.serve p = ⟨(aCall A.log p.client p.no p.call).log, A.cl, A.ms⟩ := by unfold AW.serve; rw [if_neg he]
  rw [e1]
  have HSC := hide hrV.cells.1.1
  have hWl := h.lt
  have hNw := h.size
  have HCALL := hide (fun W' (hb : Below V.heap.size V W') => SCall_any (hrV.below hb).s p.client p.no p.call (by have := h.ss; omega) (hrV.below hb).size hs.max.1 hs.max.2.1 hs.max.2.2)
  have HTS := hide (fun W' w1 (hb : Below V.heap.size V W') (hT : STurned N W' o.S o.own o.lv w1 (aCall A.log p.client p.no p.call).log) => (hrV.below hb).turnS hT (aCall_short h.s.good h.ss _ _ _))
  have HKW : Hid (W ∉ sown o.S o.own o.lv) := h.nW 3 (by omega)
  have HKB : Hid (∀ b, w.heap.size ≤ b → b ∉ sown o.S o.own o.lv) := fun b hb => h.not_part hb (i := 3) (by omega)
  have HKA : Hid (∀ b, w.heap.size ≤ b → b ∉ o.all W) := fun b hb => h.not_new hb
  have hsm := call_small h.s.good p.client p.no p.call
  have HSM : Hid (SmallP (p.back (aCall A.log p.client p.no p.call).code (aCall A.log p.client p.no p.call).text)) := ⟨hs.1, hs.2.1, hs.2.2.1, by show (aCall A.log p.client p.no p.call).text.size ≤ _; omega⟩
  generalize aCall A.log p.client p.no p.call = R at HCALL HTS he HSM ⊢
  obtain ⟨rc, rt, re, rl⟩ := R
  unfold AddRes at HCALL
  dsimp only [APkt.back] at HCALL HTS he HSM ⊢
  generalize o.S = S at HCALL HTS HKW HKB HSC
  generalize o.own = own at HCALL HTS HKW HKB
  generalize o.lv = lv at HCALL HTS HKW HKB
  have heb : (re != 0) = true := by simpa using he
  clear h e1 hV hBV hXV hrV hs hsm
  clear he
  obtain ⟨pr, pc, pn, ⟨pk, pa, pb, pt⟩, pd, pu⟩ := p
  dsimp only [APkt.val] at *
  go_enter Tryz.func197, Tryz.ntmps197
  go_wp2_with fail
  rw [← unhide HV]
  refine wp_region_held_drew (S := (fun wx => wx.heap[W]? = V.heap[W]? ∧ wx.heap[w.heap.size]? = V.heap[w.heap.size]?)) (by kernel_rfl) (⟨rfl, rfl⟩) (fun hHeld => ?_)
  refine wpAnyH_take (i := 0) (v := ?_) opn0 (by kernel_rfl) (by kernel_rfl) (by kernel_rfl) (fun _ _ _ h => h) (Or.inl ⟨by kernel_rfl, ?_⟩) (by assumption) ?_
  rotate_left 1
  · intro wz hSw
    try dsimp only at hSw
    go_simp
    all_goals with_reducible rfl
  try simp only [Act.put, List.setIfInBounds_toArray, List.set_cons_zero, List.set_cons_succ]
  refine wpAnyH_take (i := 1) (v := ?_) opn1 (by kernel_rfl) (by kernel_rfl) (by kernel_rfl) (fun _ _ _ h => h) (Or.inl ⟨by kernel_rfl, ?_⟩) (by assumption) ?_
  rotate_left 1
  · intro wz hSw
    try dsimp only at hSw
    go_simp
    all_goals with_reducible rfl
  try simp only [Act.put, List.setIfInBounds_toArray, List.set_cons_zero, List.set_cons_succ]
  refine wpAnyH_take (i := 2) (v := ?_) opn2 (by kernel_rfl) (by kernel_rfl) (by kernel_rfl) (fun _ _ _ h => h) (Or.inl ⟨by kernel_rfl, ?_⟩) (by assumption) ?_
  rotate_left 1
  · intro wz hSw
    try dsimp only at hSw
    go_simp
    all_goals with_reducible rfl
  try simp only [Act.put, List.setIfInBounds_toArray, List.set_cons_zero, List.set_cons_succ]
  refine wpAnyH_take (i := 3) (v := ?_) opn3 (by kernel_rfl) (by kernel_rfl) (by kernel_rfl) (fun _ _ _ h => h) (Or.inl ⟨by kernel_rfl, ?_⟩) (by assumption) ?_
  rotate_left 1
  · intro wz hSw
    try dsimp only at hSw
    have hq : wz.cell? ⟨W, 0, none⟩ = some (.pointer (some ⟨S, 0, none⟩)) := (World.cell?_of_block (w := V) (a := ⟨W, 0, none⟩) hSw.1).trans (unhide HSC)
    go_simp
    all_goals with_reducible rfl
  try simp only [Act.put, List.setIfInBounds_toArray, List.set_cons_zero, List.set_cons_succ]
  refine wpAnyH_take (i := 4) (v := ?_) opn4 (by kernel_rfl) (by kernel_rfl) (by kernel_rfl) (fun _ _ _ h => h) (Or.inl ⟨by kernel_rfl, ?_⟩) (by assumption) ?_
  rotate_left 1
  · intro wz hSw
    try dsimp only at hSw
    go_simp
    all_goals with_reducible rfl
  try simp only [Act.put, List.setIfInBounds_toArray, List.set_cons_zero, List.set_cons_succ]
  refine wpAnyH_take (i := 5) (v := ?_) opn5 (by kernel_rfl) (by kernel_rfl) (by kernel_rfl) (fun _ _ _ h => h) (Or.inl ⟨by kernel_rfl, ?_⟩) (by assumption) ?_
  rotate_left 1
  · intro wz hSw
    try dsimp only at hSw
    obtain ⟨⟨x0, x1, x2, x3⟩, ⟨x4, x5, x6, x7, x8⟩, xf⟩ := nine (hSw.2.trans (unhide HXV))
    go_simp
    all_goals with_reducible rfl
  try simp only [Act.put, List.setIfInBounds_toArray, List.set_cons_zero, List.set_cons_succ]
  refine wpAnyH_take (i := 6) (v := ?_) opn6 (by kernel_rfl) (by kernel_rfl) (by kernel_rfl) (fun _ _ _ h => h) (Or.inl ⟨by kernel_rfl, ?_⟩) (by assumption) ?_
  rotate_left 1
  · intro wz hSw
    try dsimp only at hSw
    go_simp
    all_goals with_reducible rfl
  try simp only [Act.put, List.setIfInBounds_toArray, List.set_cons_zero, List.set_cons_succ]
  refine wpAnyH_take (i := 7) (v := ?_) opn7 (by kernel_rfl) (by kernel_rfl) (by kernel_rfl) (fun _ _ _ h => h) (Or.inl ⟨by kernel_rfl, ?_⟩) (by assumption) ?_
  rotate_left 1
  · intro wz hSw
    try dsimp only at hSw
    obtain ⟨⟨x0, x1, x2, x3⟩, ⟨x4, x5, x6, x7, x8⟩, xf⟩ := nine (hSw.2.trans (unhide HXV))
    go_simp
    all_goals with_reducible rfl
  try simp only [Act.put, List.setIfInBounds_toArray, List.set_cons_zero, List.set_cons_succ]
  refine wpAnyH_take (i := 8) (v := ?_) opn8 (by kernel_rfl) (by kernel_rfl) (by kernel_rfl) (fun _ _ _ h => h) (Or.inl ⟨by kernel_rfl, ?_⟩) (by assumption) ?_
  rotate_left 1
  · intro wz hSw
    try dsimp only at hSw
    go_simp
    all_goals with_reducible rfl
  try simp only [Act.put, List.setIfInBounds_toArray, List.set_cons_zero, List.set_cons_succ]
  refine wpAnyH_take (i := 9) (v := ?_) opn9 (by kernel_rfl) (by kernel_rfl) (by kernel_rfl) (fun _ _ _ h => h) (Or.inl ⟨by kernel_rfl, ?_⟩) (by assumption) ?_
  rotate_left 1
  · intro wz hSw
    try dsimp only at hSw
    obtain ⟨⟨x0, x1, x2, x3⟩, ⟨x4, x5, x6, x7, x8⟩, xf⟩ := nine (hSw.2.trans (unhide HXV))
    go_simp
    all_goals with_reducible rfl
  try simp only [Act.put, List.setIfInBounds_toArray, List.set_cons_zero, List.set_cons_succ]
  refine wpAnyH_ready (rs := [10, 14]) (by kernel_rfl) (by simp) ?_
  refine AllReadyH.cons opn10 (fun K hK => ?_) (AllReadyH.cons opn14 (fun K hK => ?_) (AllReadyH.nil))
  · rw [if_pos (by kernel_rfl)]
    go_simp
    refine ((unhide HCALL) _ (below_drew V)).mono ?_
    rintro e w1 ⟨rfl, hT⟩
    have hWV : W < V.heap.size := Nat.lt_trans hWl hlV
    have hk1 : w1.heap[W]? = V.heap[W]? := hT.same hWV (unhide HKW)
    have hk2 : w1.heap[w.heap.size]? = V.heap[w.heap.size]? := hT.same hlV ((unhide HKB) _ (Nat.le_refl _))
    obtain ⟨o1, r1, n1⟩ := (unhide HTS) _ _ (below_drew V) hT
    have hnb := (n1.keep w.heap.size hlV ((unhide HKA) _ (Nat.le_refl _))).1
    have hl1 := n1.below.size
    have hl1 : V.heap.size ≤ w1.heap.size := hl1
    have HR1 := hide r1
    have HN1 := hide (((Next.of_below (o.all W) ((unhide HBV).trans ((below_drew V).mono (unhide HBV).size)) hNw)).trans n1)
    clear hT r1 n1
    refine hK.out _ _ (⟨hk1, hk2⟩) (fun hHeldN => ?_)
    clear hHeld hK K
    have hHeld := hHeldN
    clear hHeldN
    try simp only [Act.put, List.setIfInBounds_toArray, List.set_cons_zero, List.set_cons_succ]
    clear hk1 hk2
    refine wpAnyH_take (i := 11) (v := ?_) opn11 (by kernel_rfl) (by kernel_rfl) (by kernel_rfl) (fun _ _ _ h => h) (Or.inl ⟨by kernel_rfl, ?_⟩) (by assumption) ?_
    rotate_left 1
    · intro wz hSw
      try dsimp only at hSw
      go_simp
      all_goals with_reducible rfl
    try simp only [Act.put, List.setIfInBounds_toArray, List.set_cons_zero, List.set_cons_succ]
    refine wpAnyH_take (i := 12) (v := ?_) opn12 (by kernel_rfl) (by kernel_rfl) (by kernel_rfl) (fun _ _ _ h => h) (Or.inl ⟨by kernel_rfl, ?_⟩) (by assumption) ?_
    rotate_left 1
    · intro wz hSw
      try dsimp only at hSw
      go_simp
      all_goals with_reducible rfl
    try simp only [Act.put, List.setIfInBounds_toArray, List.set_cons_zero, List.set_cons_succ]
    refine wpAnyH_take (i := 13) (v := ?_) opn13 (by kernel_rfl) (by kernel_rfl) (by kernel_rfl) (fun _ _ _ h => h) (Or.inl ⟨by kernel_rfl, ?_⟩) (by assumption) ?_
    rotate_left 1
    · intro wz hSw
      try dsimp only at hSw
      go_simp
      all_goals with_reducible rfl
    try simp only [Act.put, List.setIfInBounds_toArray, List.set_cons_zero, List.set_cons_succ]
    refine wpAnyH_ready (rs := [14]) (by kernel_rfl) (by simp) ?_
    refine AllReadyH.cons opn14 (fun K hK => ?_) AllReadyH.nil
    rw [if_pos (by kernel_rfl)]
    go_simp
    have hba : Below w1.heap.size w1 (w1.alloc (.cells #[.int .i64 0, .string ⟨#[]⟩] 100)) := (Below.refl _ _).alloc (Nat.le_refl _) _
    have HZ : Hid ((w1.alloc (.cells #[.int .i64 0, .string ⟨#[]⟩] 100)).heap[w1.heap.size]? = some (.cells #[.int .i64 0, .string ⟨#[]⟩] 100 (0, 0))) := heap_alloc_new _ _
    refine hK.out _ _ (⟨(hba.block W (by omega)).trans hHeld.1, (hba.block w.heap.size (by omega)).trans hHeld.2⟩) (fun hHeldN => ?_)
    clear hHeld hK K
    have hHeld := hHeldN
    clear hHeldN
    try simp only [Act.put, List.setIfInBounds_toArray, List.set_cons_zero, List.set_cons_succ]
    generalize w1.alloc (.cells #[.int .i64 0, .string ⟨#[]⟩] 100) = W1 at hba HZ hHeld ⊢
    obtain ⟨⟨z0, z1⟩, zf⟩ := two (unhide HZ)
    have zf0 := zf 0
    have zf1 := zf 1
    refine wpAnyH_ready (rs := [15]) (by kernel_rfl) (by simp) ?_
    refine AllReadyH.cons opn15 (fun K hK => ?_) AllReadyH.nil
    rw [if_pos (by kernel_rfl)]
    go_simp
    clear z0 z1 zf zf0 zf1
    obtain ⟨hQ2, hK2⟩ := setTwo (unhide HZ) (.int .i64 rc) (.string rt)
    have hlW1 := hba.size
    refine hK.out _ _ (⟨(hK2.block W (by omega) (by simp; omega)).trans hHeld.1, (hK2.block w.heap.size (by omega) (by simp; omega)).trans hHeld.2⟩) (fun hHeldN => ?_)
    clear hHeld hK K
    have hHeld := hHeldN
    clear hHeldN
    try simp only [Act.put, List.setIfInBounds_toArray, List.set_cons_zero, List.set_cons_succ]
    generalize (W1.setCell ⟨w1.heap.size, 0, none⟩ (.int .i64 rc)).setCell ⟨w1.heap.size, 1, none⟩ (.string rt) = W2 at hQ2 hK2 hHeld ⊢
    have hbW : Below w1.heap.size w1 W2 := ⟨hK2.os.trans hba.os, hK2.tape.trans hba.tape, hK2.output.trans hba.output, Nat.le_trans hba.size hK2.size, fun j hj => (hK2.block j (Nat.lt_of_lt_of_le hj hba.size) (by simp; omega)).trans (hba.block j hj)⟩
    refine wpAnyH_take (i := 16) (v := ?_) opn16 (by kernel_rfl) (by kernel_rfl) (by kernel_rfl) (fun _ _ _ h => h) (Or.inl ⟨by kernel_rfl, ?_⟩) (by assumption) ?_
    rotate_left 1
    · intro wz hSw
      try dsimp only at hSw
      go_simp
      all_goals with_reducible rfl
    try simp only [Act.put, List.setIfInBounds_toArray, List.set_cons_zero, List.set_cons_succ]
    refine wpAnyH_done (by kernel_rfl) ?_ _
    have HX := hide (hHeld.2.trans (unhide HXV))
    have HQ := hide hQ2
    have HR := hide ((unhide HR1).below hbW)
    have HN := hide ((unhide HN1).trans (Next.of_below _ hbW (unhide HR1).size))
    have hne : w.heap.size ≠ w1.heap.size := by omega
    have hlB : w.heap.size < W2.heap.size := (Array.getElem?_eq_some_iff.1 (unhide HX)).1
    clear hQ2 hK2 hbW hba HZ hlW1 hHeld HR1 HN1
    go_wp2
    refine bodyPost_ret (v := .tuple #[]) (by simp [results, Tryz.results197, go_sem]) rfl ?_
    exact ⟨rfl, _, unhide HR, unhide HN⟩
  · rw [if_pos (by kernel_rfl)]
    go_simp
    have hba := below_alloc_drew V (.cells #[.int .i64 0, .string ⟨#[]⟩] 100)
    have HZ := hide (alloc_drew_new V (.cells #[.int .i64 0, .string ⟨#[]⟩] 100))
    have hWV : W < V.heap.size := Nat.lt_trans hWl hlV
    refine hK.out _ _ (⟨hba.block W hWV, hba.block w.heap.size hlV⟩) (fun hHeldN => ?_)
    clear hHeld hK K
    have hHeld := hHeldN
    clear hHeldN
    try simp only [Act.put, List.setIfInBounds_toArray, List.set_cons_zero, List.set_cons_succ]
    generalize (V.alloc (.cells #[.int .i64 0, .string ⟨#[]⟩] 100)).drew = V1 at hba HZ hHeld ⊢
    have hlZ : V.heap.size < V1.heap.size := (Array.getElem?_eq_some_iff.1 (unhide HZ)).1
    refine wpAnyH_ready (rs := [10]) (by kernel_rfl) (by simp) ?_
    refine AllReadyH.cons opn10 (fun K hK => ?_) AllReadyH.nil
    rw [if_pos (by kernel_rfl)]
    go_simp
    refine ((unhide HCALL) _ hba).mono ?_
    rintro e w1 ⟨rfl, hT⟩
    have hk1 : w1.heap[W]? = V.heap[W]? := (hT.same (Nat.lt_trans hWV hlZ) (unhide HKW)).trans (hba.block W hWV)
    have hk2 : w1.heap[w.heap.size]? = V.heap[w.heap.size]? := (hT.same (Nat.lt_trans hlV hlZ) ((unhide HKB) _ (Nat.le_refl _))).trans (hba.block _ hlV)
    have HZ1 := hide ((hT.same hlZ ((unhide HKB) _ (Nat.le_of_lt hlV))).trans (unhide HZ))
    obtain ⟨o1, r1, n1⟩ := (unhide HTS) _ _ hba hT
    have hnb := (n1.keep w.heap.size (Nat.lt_trans hlV hlZ) ((unhide HKA) _ (Nat.le_refl _))).1
    have hnz := (n1.keep V.heap.size hlZ ((unhide HKA) _ (Nat.le_of_lt hlV))).1
    have hl1 : V1.heap.size ≤ w1.heap.size := n1.below.size
    have HR1 := hide r1
    have HN1 := hide (((Next.of_below (o.all W) ((unhide HBV).trans (hba.mono (unhide HBV).size)) hNw)).trans n1)
    clear hT r1 n1
    refine hK.out _ _ (⟨hk1, hk2⟩) (fun hHeldN => ?_)
    clear hHeld hK K
    have hHeld := hHeldN
    clear hHeldN
    try simp only [Act.put, List.setIfInBounds_toArray, List.set_cons_zero, List.set_cons_succ]
    clear hk1 hk2
    refine wpAnyH_take (i := 11) (v := ?_) opn11 (by kernel_rfl) (by kernel_rfl) (by kernel_rfl) (fun _ _ _ h => h) (Or.inl ⟨by kernel_rfl, ?_⟩) (by assumption) ?_
    rotate_left 1
    · intro wz hSw
      try dsimp only at hSw
      go_simp
      all_goals with_reducible rfl
    try simp only [Act.put, List.setIfInBounds_toArray, List.set_cons_zero, List.set_cons_succ]
    refine wpAnyH_take (i := 12) (v := ?_) opn12 (by kernel_rfl) (by kernel_rfl) (by kernel_rfl) (fun _ _ _ h => h) (Or.inl ⟨by kernel_rfl, ?_⟩) (by assumption) ?_
    rotate_left 1
    · intro wz hSw
      try dsimp only at hSw
      go_simp
      all_goals with_reducible rfl
    try simp only [Act.put, List.setIfInBounds_toArray, List.set_cons_zero, List.set_cons_succ]
    refine wpAnyH_take (i := 13) (v := ?_) opn13 (by kernel_rfl) (by kernel_rfl) (by kernel_rfl) (fun _ _ _ h => h) (Or.inl ⟨by kernel_rfl, ?_⟩) (by assumption) ?_
    rotate_left 1
    · intro wz hSw
      try dsimp only at hSw
      go_simp
      all_goals with_reducible rfl
    try simp only [Act.put, List.setIfInBounds_toArray, List.set_cons_zero, List.set_cons_succ]
    obtain ⟨⟨z0, z1⟩, zf⟩ := two (unhide HZ1)
    have zf0 := zf 0
    have zf1 := zf 1
    refine wpAnyH_ready (rs := [15]) (by kernel_rfl) (by simp) ?_
    refine AllReadyH.cons opn15 (fun K hK => ?_) AllReadyH.nil
    rw [if_pos (by kernel_rfl)]
    go_simp
    clear z0 z1 zf zf0 zf1
    obtain ⟨hQ2, hK2⟩ := setTwo (unhide HZ1) (.int .i64 rc) (.string rt)
    refine hK.out _ _ (⟨(hK2.block W (by omega) (by simp; omega)).trans hHeld.1, (hK2.block w.heap.size (by omega) (by simp; omega)).trans hHeld.2⟩) (fun hHeldN => ?_)
    clear hHeld hK K
    have hHeld := hHeldN
    clear hHeldN
    try simp only [Act.put, List.setIfInBounds_toArray, List.set_cons_zero, List.set_cons_succ]
    generalize (w1.setCell ⟨V.heap.size, 0, none⟩ (.int .i64 rc)).setCell ⟨V.heap.size, 1, none⟩ (.string rt) = W2 at hQ2 hK2 hHeld ⊢
    refine wpAnyH_take (i := 16) (v := ?_) opn16 (by kernel_rfl) (by kernel_rfl) (by kernel_rfl) (fun _ _ _ h => h) (Or.inl ⟨by kernel_rfl, ?_⟩) (by assumption) ?_
    rotate_left 1
    · intro wz hSw
      try dsimp only at hSw
      go_simp
      all_goals with_reducible rfl
    try simp only [Act.put, List.setIfInBounds_toArray, List.set_cons_zero, List.set_cons_succ]
    refine wpAnyH_done (by kernel_rfl) ?_ _
    have HX := hide (hHeld.2.trans (unhide HXV))
    have HQ := hide hQ2
    have HR := hide ((unhide HR1).set hnz hK2)
    have HN := hide ((unhide HN1).setN hNw (Nat.le_of_lt hlV) hK2)
    have hne : w.heap.size ≠ V.heap.size := by omega
    have hlB : w.heap.size < W2.heap.size := (Array.getElem?_eq_some_iff.1 (unhide HX)).1
    clear hQ2 hK2 hba HZ HZ1 hHeld HR1 HN1
    go_wp2
    refine bodyPost_ret (v := .tuple #[]) (by simp [results, Tryz.results197, go_sem]) rfl ?_
    exact ⟨rfl, _, unhide HR, unhide HN⟩

set_option maxRecDepth 100000 in
set_option maxHeartbeats 4000000 in
theorem serve_ok {N : Nat} {w : World} {W : Nat} {o : WOwn} {A : AW} (h : WRep N w W o A) (p : APkt) (hs : SmallP p) (he : (aCall A.log p.client p.no p.call).err = 0) :
    Calls Tryz.prog 197 #[.pointer (some ⟨W, 0, none⟩), p.val] w fun e w' => e = .returned (.tuple #[]) ∧ WTurn N w W o w' (A.serve p) := by
  obtain ⟨V, hV⟩ : ∃ V, V = w.alloc (.cells #[.bool p.reply, .int .i64 p.client, .int .i64 p.no, .int .i64 p.call.kind, .string p.call.name, .string p.call.dst, .string p.call.text, .int .i64 p.code, .string p.ans] 102) := ⟨_, rfl⟩
  have hBV : Below w.heap.size w V := by rw [hV]; exact (Below.refl _ _).alloc (Nat.le_refl _) _
  have hXV : V.heap[w.heap.size]? = some (.cells #[.bool p.reply, .int .i64 p.client, .int .i64 p.no, .int .i64 p.call.kind, .string p.call.name, .string p.call.dst, .string p.call.text, .int .i64 p.code, .string p.ans] 102 (0, 0)) := by rw [hV]; exact heap_alloc_new _ _
  have hlV : w.heap.size < V.heap.size := (Array.getElem?_eq_some_iff.1 hXV).1
  have hrV := h.below hBV
  have HBV := hide hBV
  have HXV := hide hXV
  have HV := hide hV
  have e1 : A.serve p = ⟨(aCall A.log p.client p.no p.call).log, A.cl, aSend A.ms (p.back (aCall A.log p.client p.no p.call).code (aCall A.log p.client p.no p.call).text)⟩ := by unfold AW.serve; rw [if_pos he]
  rw [e1]
  have HSC := hide hrV.cells.1.1
  have hWl := h.lt
  have hNw := h.size
  have HCALL := hide (fun W' (hb : Below V.heap.size V W') => SCall_any (hrV.below hb).s p.client p.no p.call (by have := h.ss; omega) (hrV.below hb).size hs.max.1 hs.max.2.1 hs.max.2.2)
  have HTS := hide (fun W' w1 (hb : Below V.heap.size V W') (hT : STurned N W' o.S o.own o.lv w1 (aCall A.log p.client p.no p.call).log) => (hrV.below hb).turnS hT (aCall_short h.s.good h.ss _ _ _))
  have HKW : Hid (W ∉ sown o.S o.own o.lv) := h.nW 3 (by omega)
  have HKB : Hid (∀ b, w.heap.size ≤ b → b ∉ sown o.S o.own o.lv) := fun b hb => h.not_part hb (i := 3) (by omega)
  have HKA : Hid (∀ b, w.heap.size ≤ b → b ∉ o.all W) := fun b hb => h.not_new hb
  have hsm := call_small h.s.good p.client p.no p.call
  have HSM : Hid (SmallP (p.back (aCall A.log p.client p.no p.call).code (aCall A.log p.client p.no p.call).text)) := ⟨hs.1, hs.2.1, hs.2.2.1, by show (aCall A.log p.client p.no p.call).text.size ≤ _; omega⟩
  generalize aCall A.log p.client p.no p.call = R at HCALL HTS he HSM ⊢
  obtain ⟨rc, rt, re, rl⟩ := R
  unfold AddRes at HCALL
  dsimp only [APkt.back] at HCALL HTS he HSM ⊢
  generalize o.S = S at HCALL HTS HKW HKB HSC
  generalize o.own = own at HCALL HTS HKW HKB
  generalize o.lv = lv at HCALL HTS HKW HKB
  subst he
  clear h e1 hV hBV hXV hrV hs hsm
  obtain ⟨pr, pc, pn, ⟨pk, pa, pb, pt⟩, pd, pu⟩ := p
  dsimp only [APkt.val] at *
  go_enter Tryz.func197, Tryz.ntmps197
  go_wp2_with fail
  rw [← unhide HV]
  refine wp_region_held_drew (S := (fun wx => wx.heap[W]? = V.heap[W]? ∧ wx.heap[w.heap.size]? = V.heap[w.heap.size]?)) (by kernel_rfl) (⟨rfl, rfl⟩) (fun hHeld => ?_)
  refine wpAnyH_take (i := 0) (v := ?_) opn0 (by kernel_rfl) (by kernel_rfl) (by kernel_rfl) (fun _ _ _ h => h) (Or.inl ⟨by kernel_rfl, ?_⟩) (by assumption) ?_
  rotate_left 1
  · intro wz hSw
    try dsimp only at hSw
    go_simp
    all_goals with_reducible rfl
  try simp only [Act.put, List.setIfInBounds_toArray, List.set_cons_zero, List.set_cons_succ]
  refine wpAnyH_take (i := 1) (v := ?_) opn1 (by kernel_rfl) (by kernel_rfl) (by kernel_rfl) (fun _ _ _ h => h) (Or.inl ⟨by kernel_rfl, ?_⟩) (by assumption) ?_
  rotate_left 1
  · intro wz hSw
    try dsimp only at hSw
    go_simp
    all_goals with_reducible rfl
  try simp only [Act.put, List.setIfInBounds_toArray, List.set_cons_zero, List.set_cons_succ]
  refine wpAnyH_take (i := 2) (v := ?_) opn2 (by kernel_rfl) (by kernel_rfl) (by kernel_rfl) (fun _ _ _ h => h) (Or.inl ⟨by kernel_rfl, ?_⟩) (by assumption) ?_
  rotate_left 1
  · intro wz hSw
    try dsimp only at hSw
    go_simp
    all_goals with_reducible rfl
  try simp only [Act.put, List.setIfInBounds_toArray, List.set_cons_zero, List.set_cons_succ]
  refine wpAnyH_take (i := 3) (v := ?_) opn3 (by kernel_rfl) (by kernel_rfl) (by kernel_rfl) (fun _ _ _ h => h) (Or.inl ⟨by kernel_rfl, ?_⟩) (by assumption) ?_
  rotate_left 1
  · intro wz hSw
    try dsimp only at hSw
    have hq : wz.cell? ⟨W, 0, none⟩ = some (.pointer (some ⟨S, 0, none⟩)) := (World.cell?_of_block (w := V) (a := ⟨W, 0, none⟩) hSw.1).trans (unhide HSC)
    go_simp
    all_goals with_reducible rfl
  try simp only [Act.put, List.setIfInBounds_toArray, List.set_cons_zero, List.set_cons_succ]
  refine wpAnyH_take (i := 4) (v := ?_) opn4 (by kernel_rfl) (by kernel_rfl) (by kernel_rfl) (fun _ _ _ h => h) (Or.inl ⟨by kernel_rfl, ?_⟩) (by assumption) ?_
  rotate_left 1
  · intro wz hSw
    try dsimp only at hSw
    go_simp
    all_goals with_reducible rfl
  try simp only [Act.put, List.setIfInBounds_toArray, List.set_cons_zero, List.set_cons_succ]
  refine wpAnyH_take (i := 5) (v := ?_) opn5 (by kernel_rfl) (by kernel_rfl) (by kernel_rfl) (fun _ _ _ h => h) (Or.inl ⟨by kernel_rfl, ?_⟩) (by assumption) ?_
  rotate_left 1
  · intro wz hSw
    try dsimp only at hSw
    obtain ⟨⟨x0, x1, x2, x3⟩, ⟨x4, x5, x6, x7, x8⟩, xf⟩ := nine (hSw.2.trans (unhide HXV))
    go_simp
    all_goals with_reducible rfl
  try simp only [Act.put, List.setIfInBounds_toArray, List.set_cons_zero, List.set_cons_succ]
  refine wpAnyH_take (i := 6) (v := ?_) opn6 (by kernel_rfl) (by kernel_rfl) (by kernel_rfl) (fun _ _ _ h => h) (Or.inl ⟨by kernel_rfl, ?_⟩) (by assumption) ?_
  rotate_left 1
  · intro wz hSw
    try dsimp only at hSw
    go_simp
    all_goals with_reducible rfl
  try simp only [Act.put, List.setIfInBounds_toArray, List.set_cons_zero, List.set_cons_succ]
  refine wpAnyH_take (i := 7) (v := ?_) opn7 (by kernel_rfl) (by kernel_rfl) (by kernel_rfl) (fun _ _ _ h => h) (Or.inl ⟨by kernel_rfl, ?_⟩) (by assumption) ?_
  rotate_left 1
  · intro wz hSw
    try dsimp only at hSw
    obtain ⟨⟨x0, x1, x2, x3⟩, ⟨x4, x5, x6, x7, x8⟩, xf⟩ := nine (hSw.2.trans (unhide HXV))
    go_simp
    all_goals with_reducible rfl
  try simp only [Act.put, List.setIfInBounds_toArray, List.set_cons_zero, List.set_cons_succ]
  refine wpAnyH_take (i := 8) (v := ?_) opn8 (by kernel_rfl) (by kernel_rfl) (by kernel_rfl) (fun _ _ _ h => h) (Or.inl ⟨by kernel_rfl, ?_⟩) (by assumption) ?_
  rotate_left 1
  · intro wz hSw
    try dsimp only at hSw
    go_simp
    all_goals with_reducible rfl
  try simp only [Act.put, List.setIfInBounds_toArray, List.set_cons_zero, List.set_cons_succ]
  refine wpAnyH_take (i := 9) (v := ?_) opn9 (by kernel_rfl) (by kernel_rfl) (by kernel_rfl) (fun _ _ _ h => h) (Or.inl ⟨by kernel_rfl, ?_⟩) (by assumption) ?_
  rotate_left 1
  · intro wz hSw
    try dsimp only at hSw
    obtain ⟨⟨x0, x1, x2, x3⟩, ⟨x4, x5, x6, x7, x8⟩, xf⟩ := nine (hSw.2.trans (unhide HXV))
    go_simp
    all_goals with_reducible rfl
  try simp only [Act.put, List.setIfInBounds_toArray, List.set_cons_zero, List.set_cons_succ]
  refine wpAnyH_ready (rs := [10, 14]) (by kernel_rfl) (by simp) ?_
  refine AllReadyH.cons opn10 (fun K hK => ?_) (AllReadyH.cons opn14 (fun K hK => ?_) (AllReadyH.nil))
  · rw [if_pos (by kernel_rfl)]
    go_simp
    refine ((unhide HCALL) _ (below_drew V)).mono ?_
    rintro e w1 ⟨rfl, hT⟩
    have hWV : W < V.heap.size := Nat.lt_trans hWl hlV
    have hk1 : w1.heap[W]? = V.heap[W]? := hT.same hWV (unhide HKW)
    have hk2 : w1.heap[w.heap.size]? = V.heap[w.heap.size]? := hT.same hlV ((unhide HKB) _ (Nat.le_refl _))
    obtain ⟨o1, r1, n1⟩ := (unhide HTS) _ _ (below_drew V) hT
    have hnb := (n1.keep w.heap.size hlV ((unhide HKA) _ (Nat.le_refl _))).1
    have hl1 := n1.below.size
    have hl1 : V.heap.size ≤ w1.heap.size := hl1
    have HR1 := hide r1
    have HN1 := hide (((Next.of_below (o.all W) ((unhide HBV).trans ((below_drew V).mono (unhide HBV).size)) hNw)).trans n1)
    clear hT r1 n1
    refine hK.out _ _ (⟨hk1, hk2⟩) (fun hHeldN => ?_)
    clear hHeld hK K
    have hHeld := hHeldN
    clear hHeldN
    try simp only [Act.put, List.setIfInBounds_toArray, List.set_cons_zero, List.set_cons_succ]
    clear hk1 hk2
    refine wpAnyH_take (i := 11) (v := ?_) opn11 (by kernel_rfl) (by kernel_rfl) (by kernel_rfl) (fun _ _ _ h => h) (Or.inl ⟨by kernel_rfl, ?_⟩) (by assumption) ?_
    rotate_left 1
    · intro wz hSw
      try dsimp only at hSw
      go_simp
      all_goals with_reducible rfl
    try simp only [Act.put, List.setIfInBounds_toArray, List.set_cons_zero, List.set_cons_succ]
    refine wpAnyH_take (i := 12) (v := ?_) opn12 (by kernel_rfl) (by kernel_rfl) (by kernel_rfl) (fun _ _ _ h => h) (Or.inl ⟨by kernel_rfl, ?_⟩) (by assumption) ?_
    rotate_left 1
    · intro wz hSw
      try dsimp only at hSw
      go_simp
      all_goals with_reducible rfl
    try simp only [Act.put, List.setIfInBounds_toArray, List.set_cons_zero, List.set_cons_succ]
    refine wpAnyH_take (i := 13) (v := ?_) opn13 (by kernel_rfl) (by kernel_rfl) (by kernel_rfl) (fun _ _ _ h => h) (Or.inl ⟨by kernel_rfl, ?_⟩) (by assumption) ?_
    rotate_left 1
    · intro wz hSw
      try dsimp only at hSw
      go_simp
      all_goals with_reducible rfl
    try simp only [Act.put, List.setIfInBounds_toArray, List.set_cons_zero, List.set_cons_succ]
    refine wpAnyH_ready (rs := [14]) (by kernel_rfl) (by simp) ?_
    refine AllReadyH.cons opn14 (fun K hK => ?_) AllReadyH.nil
    rw [if_pos (by kernel_rfl)]
    go_simp
    have hba : Below w1.heap.size w1 (w1.alloc (.cells #[.int .i64 0, .string ⟨#[]⟩] 100)) := (Below.refl _ _).alloc (Nat.le_refl _) _
    have HZ : Hid ((w1.alloc (.cells #[.int .i64 0, .string ⟨#[]⟩] 100)).heap[w1.heap.size]? = some (.cells #[.int .i64 0, .string ⟨#[]⟩] 100 (0, 0))) := heap_alloc_new _ _
    refine hK.out _ _ (⟨(hba.block W (by omega)).trans hHeld.1, (hba.block w.heap.size (by omega)).trans hHeld.2⟩) (fun hHeldN => ?_)
    clear hHeld hK K
    have hHeld := hHeldN
    clear hHeldN
    try simp only [Act.put, List.setIfInBounds_toArray, List.set_cons_zero, List.set_cons_succ]
    generalize w1.alloc (.cells #[.int .i64 0, .string ⟨#[]⟩] 100) = W1 at hba HZ hHeld ⊢
    obtain ⟨⟨z0, z1⟩, zf⟩ := two (unhide HZ)
    have zf0 := zf 0
    have zf1 := zf 1
    refine wpAnyH_ready (rs := [15]) (by kernel_rfl) (by simp) ?_
    refine AllReadyH.cons opn15 (fun K hK => ?_) AllReadyH.nil
    rw [if_pos (by kernel_rfl)]
    go_simp
    clear z0 z1 zf zf0 zf1
    obtain ⟨hQ2, hK2⟩ := setTwo (unhide HZ) (.int .i64 rc) (.string rt)
    have hlW1 := hba.size
    refine hK.out _ _ (⟨(hK2.block W (by omega) (by simp; omega)).trans hHeld.1, (hK2.block w.heap.size (by omega) (by simp; omega)).trans hHeld.2⟩) (fun hHeldN => ?_)
    clear hHeld hK K
    have hHeld := hHeldN
    clear hHeldN
    try simp only [Act.put, List.setIfInBounds_toArray, List.set_cons_zero, List.set_cons_succ]
    generalize (W1.setCell ⟨w1.heap.size, 0, none⟩ (.int .i64 rc)).setCell ⟨w1.heap.size, 1, none⟩ (.string rt) = W2 at hQ2 hK2 hHeld ⊢
    have hbW : Below w1.heap.size w1 W2 := ⟨hK2.os.trans hba.os, hK2.tape.trans hba.tape, hK2.output.trans hba.output, Nat.le_trans hba.size hK2.size, fun j hj => (hK2.block j (Nat.lt_of_lt_of_le hj hba.size) (by simp; omega)).trans (hba.block j hj)⟩
    refine wpAnyH_take (i := 16) (v := ?_) opn16 (by kernel_rfl) (by kernel_rfl) (by kernel_rfl) (fun _ _ _ h => h) (Or.inl ⟨by kernel_rfl, ?_⟩) (by assumption) ?_
    rotate_left 1
    · intro wz hSw
      try dsimp only at hSw
      go_simp
      all_goals with_reducible rfl
    try simp only [Act.put, List.setIfInBounds_toArray, List.set_cons_zero, List.set_cons_succ]
    refine wpAnyH_done (by kernel_rfl) ?_ _
    have HX := hide (hHeld.2.trans (unhide HXV))
    have HQ := hide hQ2
    have HR := hide ((unhide HR1).below hbW)
    have HN := hide ((unhide HN1).trans (Next.of_below _ hbW (unhide HR1).size))
    have hne : w.heap.size ≠ w1.heap.size := by omega
    have hlB : w.heap.size < W2.heap.size := (Array.getElem?_eq_some_iff.1 (unhide HX)).1
    clear hQ2 hK2 hbW hba HZ hlW1 hHeld HR1 HN1
    go_wp2_with fail
    obtain ⟨⟨x0, x1, x2, x3⟩, ⟨x4, x5, x6, x7, x8⟩, xf⟩ := nine (unhide HX)
    obtain ⟨⟨z0, z1⟩, _⟩ := two (unhide HQ)
    have xf0 := xf 0
    have xf7 := xf 7
    have xf8 := xf 8
    clear xf
    go_region_held3 (fun W' => W'.cell? ⟨w1.heap.size, 0, none⟩ = some (.int .i64 rc) ∧ W'.cell? ⟨w1.heap.size, 1, none⟩ = some (.string rt)) (first | (go_keep; done) | (simp [World.cell?_setCell_far, hne, z0, z1]; done)) (fail)
    all_goals
      obtain ⟨hs1, hs2⟩ := set078 (unhide HX) (.bool true) (.int .i64 rc) (.string rt)
      obtain ⟨W3, hW3⟩ : ∃ W', W' = (((W2.setCell ⟨w.heap.size, 0, none⟩ (.bool true)).setCell ⟨w.heap.size, 7, none⟩ (.int .i64 rc)).setCell ⟨w.heap.size, 8, none⟩ (.string rt)).drew := ⟨_, rfl⟩
      have hP4 : W3.heap[w.heap.size]? = some (.cells #[.bool true, .int .i64 pc, .int .i64 pn, .int .i64 pk, .string pa, .string pb, .string pt, .int .i64 rc, .string rt] 102 (0, 0)) := by rw [hW3]; exact hs1
      have hK4 : Kept [w.heap.size] W2 W3.drew := by rw [hW3]; exact hs2.drewR.drewR
      rw [← hW3]
      have hr4 := (unhide HR).set hnb hK4
      have HN4 := hide ((unhide HN).setN hNw (Nat.le_refl _) hK4)
      have HPS := hide (PSend_any hr4.p ⟨true, pc, pn, ⟨pk, pa, pb, pt⟩, rc, rt⟩ (unhide HSM))
      have HPT := hide (fun w' (hT : PTurn 116 N W3.drew o1.P o1.pv w' (aSend A.ms ⟨true, pc, pn, ⟨pk, pa, pb, pt⟩, rc, rt⟩)) => hr4.turnP hT)
      have hcell := hr4.cells.1.2.2.2.2
      have HPC : Hid (W3.cell? ⟨W, 4, none⟩ = some (.pointer (some ⟨o1.P, 0, none⟩))) := hcell
      have HK4W : Hid (W < W3.heap.size ∧ W ∉ powns o1.P o1.pv) := ⟨hr4.lt, hr4.nW 4 (by omega)⟩
      have HK4X : Hid (w.heap.size < W3.heap.size ∧ w.heap.size ∉ powns o1.P o1.pv) := ⟨(Array.getElem?_eq_some_iff.1 hP4).1, fun hm => hnb (WOwn.mem_all.2 (.inr ⟨4, by omega, hm⟩))⟩
      have HP4 := hide hP4
      dsimp only [APkt.val] at HPS
      generalize o1.P = P at HPS HPT HPC HK4W HK4X
      generalize o1.pv = pv at HPS HPT HK4W HK4X
      clear hs1 hs2 hW3 hP4 hK4 hr4 hcell x0 x1 x2 x3 x4 x5 x6 x7 x8 xf0 xf7 xf8 z0 z1
      go_wp2_with fail
      refine wp_region_held_drew (S := (fun wx => wx.heap[W]? = W3.heap[W]? ∧ wx.heap[w.heap.size]? = W3.heap[w.heap.size]?)) (by kernel_rfl) (⟨rfl, rfl⟩) (fun hHeld => ?_)
      refine wpAnyH_take (i := 0) (v := ?_) opn0 (by kernel_rfl) (by kernel_rfl) (by kernel_rfl) (fun _ _ _ h => h) (Or.inl ⟨by kernel_rfl, ?_⟩) (by assumption) ?_
      rotate_left 1
      · intro wz hSw
        try dsimp only at hSw
        go_simp
        all_goals with_reducible rfl
      try simp only [Act.put, List.setIfInBounds_toArray, List.set_cons_zero, List.set_cons_succ]
      refine wpAnyH_take (i := 1) (v := ?_) opn1 (by kernel_rfl) (by kernel_rfl) (by kernel_rfl) (fun _ _ _ h => h) (Or.inl ⟨by kernel_rfl, ?_⟩) (by assumption) ?_
      rotate_left 1
      · intro wz hSw
        try dsimp only at hSw
        go_simp
        all_goals with_reducible rfl
      try simp only [Act.put, List.setIfInBounds_toArray, List.set_cons_zero, List.set_cons_succ]
      refine wpAnyH_take (i := 2) (v := ?_) opn2 (by kernel_rfl) (by kernel_rfl) (by kernel_rfl) (fun _ _ _ h => h) (Or.inl ⟨by kernel_rfl, ?_⟩) (by assumption) ?_
      rotate_left 1
      · intro wz hSw
        try dsimp only at hSw
        go_simp
        all_goals with_reducible rfl
      try simp only [Act.put, List.setIfInBounds_toArray, List.set_cons_zero, List.set_cons_succ]
      refine wpAnyH_take (i := 3) (v := ?_) opn3 (by kernel_rfl) (by kernel_rfl) (by kernel_rfl) (fun _ _ _ h => h) (Or.inl ⟨by kernel_rfl, ?_⟩) (by assumption) ?_
      rotate_left 1
      · intro wz hSw
        try dsimp only at hSw
        have hq : wz.cell? ⟨W, 4, none⟩ = some (.pointer (some ⟨P, 0, none⟩)) := (World.cell?_of_block (w := W3) (a := ⟨W, 4, none⟩) hSw.1).trans (unhide HPC)
        go_simp
        all_goals with_reducible rfl
      try simp only [Act.put, List.setIfInBounds_toArray, List.set_cons_zero, List.set_cons_succ]
      refine wpAnyH_take (i := 4) (v := ?_) opn4 (by kernel_rfl) (by kernel_rfl) (by kernel_rfl) (fun _ _ _ h => h) (Or.inl ⟨by kernel_rfl, ?_⟩) (by assumption) ?_
      rotate_left 1
      · intro wz hSw
        try dsimp only at hSw
        obtain ⟨⟨x0, x1, x2, x3⟩, ⟨x4, x5, x6, x7, x8⟩, xf⟩ := nine (hSw.2.trans (unhide HP4))
        go_simp
        all_goals with_reducible rfl
      try simp only [Act.put, List.setIfInBounds_toArray, List.set_cons_zero, List.set_cons_succ]
      refine wpAnyH_ready (rs := [5]) (by kernel_rfl) (by simp) ?_
      refine AllReadyH.cons opn5 (fun K hK => ?_) AllReadyH.nil
      rw [if_pos (by kernel_rfl)]
      go_simp
      refine (unhide HPS).mono ?_
      rintro e w4 ⟨rfl, hT⟩
      obtain ⟨o4, r4, n4⟩ := (unhide HPT) _ hT
      have hk1 : w4.heap[W]? = W3.heap[W]? := hT.same (unhide HK4W).1 (unhide HK4W).2
      have hk2 : w4.heap[w.heap.size]? = W3.heap[w.heap.size]? := hT.same (unhide HK4X).1 (unhide HK4X).2
      have HFIN := hide (And.intro r4 ((unhide HN4).trans n4))
      clear hT r4 n4
      refine hK.out _ _ (⟨hk1, hk2⟩) (fun hHeldN => ?_)
      clear hHeld hK K
      have hHeld := hHeldN
      clear hHeldN
      try simp only [Act.put, List.setIfInBounds_toArray, List.set_cons_zero, List.set_cons_succ]
      clear hk1 hk2
      refine wpAnyH_done (by kernel_rfl) ?_ _
      refine bodyPost_end (v := .tuple #[]) (by simp [results, Tryz.results197, go_sem]) rfl ?_
      exact ⟨rfl, _, (unhide HFIN).1, (unhide HFIN).2⟩
  · rw [if_pos (by kernel_rfl)]
    go_simp
    have hba := below_alloc_drew V (.cells #[.int .i64 0, .string ⟨#[]⟩] 100)
    have HZ := hide (alloc_drew_new V (.cells #[.int .i64 0, .string ⟨#[]⟩] 100))
    have hWV : W < V.heap.size := Nat.lt_trans hWl hlV
    refine hK.out _ _ (⟨hba.block W hWV, hba.block w.heap.size hlV⟩) (fun hHeldN => ?_)
    clear hHeld hK K
    have hHeld := hHeldN
    clear hHeldN
    try simp only [Act.put, List.setIfInBounds_toArray, List.set_cons_zero, List.set_cons_succ]
    generalize (V.alloc (.cells #[.int .i64 0, .string ⟨#[]⟩] 100)).drew = V1 at hba HZ hHeld ⊢
    have hlZ : V.heap.size < V1.heap.size := (Array.getElem?_eq_some_iff.1 (unhide HZ)).1
    refine wpAnyH_ready (rs := [10]) (by kernel_rfl) (by simp) ?_
    refine AllReadyH.cons opn10 (fun K hK => ?_) AllReadyH.nil
    rw [if_pos (by kernel_rfl)]
    go_simp
    refine ((unhide HCALL) _ hba).mono ?_
    rintro e w1 ⟨rfl, hT⟩
    have hk1 : w1.heap[W]? = V.heap[W]? := (hT.same (Nat.lt_trans hWV hlZ) (unhide HKW)).trans (hba.block W hWV)
    have hk2 : w1.heap[w.heap.size]? = V.heap[w.heap.size]? := (hT.same (Nat.lt_trans hlV hlZ) ((unhide HKB) _ (Nat.le_refl _))).trans (hba.block _ hlV)
    have HZ1 := hide ((hT.same hlZ ((unhide HKB) _ (Nat.le_of_lt hlV))).trans (unhide HZ))
    obtain ⟨o1, r1, n1⟩ := (unhide HTS) _ _ hba hT
    have hnb := (n1.keep w.heap.size (Nat.lt_trans hlV hlZ) ((unhide HKA) _ (Nat.le_refl _))).1
    have hnz := (n1.keep V.heap.size hlZ ((unhide HKA) _ (Nat.le_of_lt hlV))).1
    have hl1 : V1.heap.size ≤ w1.heap.size := n1.below.size
    have HR1 := hide r1
    have HN1 := hide (((Next.of_below (o.all W) ((unhide HBV).trans (hba.mono (unhide HBV).size)) hNw)).trans n1)
    clear hT r1 n1
    refine hK.out _ _ (⟨hk1, hk2⟩) (fun hHeldN => ?_)
    clear hHeld hK K
    have hHeld := hHeldN
    clear hHeldN
    try simp only [Act.put, List.setIfInBounds_toArray, List.set_cons_zero, List.set_cons_succ]
    clear hk1 hk2
    refine wpAnyH_take (i := 11) (v := ?_) opn11 (by kernel_rfl) (by kernel_rfl) (by kernel_rfl) (fun _ _ _ h => h) (Or.inl ⟨by kernel_rfl, ?_⟩) (by assumption) ?_
    rotate_left 1
    · intro wz hSw
      try dsimp only at hSw
      go_simp
      all_goals with_reducible rfl
    try simp only [Act.put, List.setIfInBounds_toArray, List.set_cons_zero, List.set_cons_succ]
    refine wpAnyH_take (i := 12) (v := ?_) opn12 (by kernel_rfl) (by kernel_rfl) (by kernel_rfl) (fun _ _ _ h => h) (Or.inl ⟨by kernel_rfl, ?_⟩) (by assumption) ?_
    rotate_left 1
    · intro wz hSw
      try dsimp only at hSw
      go_simp
      all_goals with_reducible rfl
    try simp only [Act.put, List.setIfInBounds_toArray, List.set_cons_zero, List.set_cons_succ]
    refine wpAnyH_take (i := 13) (v := ?_) opn13 (by kernel_rfl) (by kernel_rfl) (by kernel_rfl) (fun _ _ _ h => h) (Or.inl ⟨by kernel_rfl, ?_⟩) (by assumption) ?_
    rotate_left 1
    · intro wz hSw
      try dsimp only at hSw
      go_simp
      all_goals with_reducible rfl
    try simp only [Act.put, List.setIfInBounds_toArray, List.set_cons_zero, List.set_cons_succ]
    obtain ⟨⟨z0, z1⟩, zf⟩ := two (unhide HZ1)
    have zf0 := zf 0
    have zf1 := zf 1
    refine wpAnyH_ready (rs := [15]) (by kernel_rfl) (by simp) ?_
    refine AllReadyH.cons opn15 (fun K hK => ?_) AllReadyH.nil
    rw [if_pos (by kernel_rfl)]
    go_simp
    clear z0 z1 zf zf0 zf1
    obtain ⟨hQ2, hK2⟩ := setTwo (unhide HZ1) (.int .i64 rc) (.string rt)
    refine hK.out _ _ (⟨(hK2.block W (by omega) (by simp; omega)).trans hHeld.1, (hK2.block w.heap.size (by omega) (by simp; omega)).trans hHeld.2⟩) (fun hHeldN => ?_)
    clear hHeld hK K
    have hHeld := hHeldN
    clear hHeldN
    try simp only [Act.put, List.setIfInBounds_toArray, List.set_cons_zero, List.set_cons_succ]
    generalize (w1.setCell ⟨V.heap.size, 0, none⟩ (.int .i64 rc)).setCell ⟨V.heap.size, 1, none⟩ (.string rt) = W2 at hQ2 hK2 hHeld ⊢
    refine wpAnyH_take (i := 16) (v := ?_) opn16 (by kernel_rfl) (by kernel_rfl) (by kernel_rfl) (fun _ _ _ h => h) (Or.inl ⟨by kernel_rfl, ?_⟩) (by assumption) ?_
    rotate_left 1
    · intro wz hSw
      try dsimp only at hSw
      go_simp
      all_goals with_reducible rfl
    try simp only [Act.put, List.setIfInBounds_toArray, List.set_cons_zero, List.set_cons_succ]
    refine wpAnyH_done (by kernel_rfl) ?_ _
    have HX := hide (hHeld.2.trans (unhide HXV))
    have HQ := hide hQ2
    have HR := hide ((unhide HR1).set hnz hK2)
    have HN := hide ((unhide HN1).setN hNw (Nat.le_of_lt hlV) hK2)
    have hne : w.heap.size ≠ V.heap.size := by omega
    have hlB : w.heap.size < W2.heap.size := (Array.getElem?_eq_some_iff.1 (unhide HX)).1
    clear hQ2 hK2 hba HZ HZ1 hHeld HR1 HN1
    go_wp2_with fail
    obtain ⟨⟨x0, x1, x2, x3⟩, ⟨x4, x5, x6, x7, x8⟩, xf⟩ := nine (unhide HX)
    obtain ⟨⟨z0, z1⟩, _⟩ := two (unhide HQ)
    have xf0 := xf 0
    have xf7 := xf 7
    have xf8 := xf 8
    clear xf
    go_region_held3 (fun W' => W'.cell? ⟨V.heap.size, 0, none⟩ = some (.int .i64 rc) ∧ W'.cell? ⟨V.heap.size, 1, none⟩ = some (.string rt)) (first | (go_keep; done) | (simp [World.cell?_setCell_far, hne, z0, z1]; done)) (fail)
    all_goals
      obtain ⟨hs1, hs2⟩ := set078 (unhide HX) (.bool true) (.int .i64 rc) (.string rt)
      obtain ⟨W3, hW3⟩ : ∃ W', W' = (((W2.setCell ⟨w.heap.size, 0, none⟩ (.bool true)).setCell ⟨w.heap.size, 7, none⟩ (.int .i64 rc)).setCell ⟨w.heap.size, 8, none⟩ (.string rt)).drew := ⟨_, rfl⟩
      have hP4 : W3.heap[w.heap.size]? = some (.cells #[.bool true, .int .i64 pc, .int .i64 pn, .int .i64 pk, .string pa, .string pb, .string pt, .int .i64 rc, .string rt] 102 (0, 0)) := by rw [hW3]; exact hs1
      have hK4 : Kept [w.heap.size] W2 W3.drew := by rw [hW3]; exact hs2.drewR.drewR
      rw [← hW3]
      have hr4 := (unhide HR).set hnb hK4
      have HN4 := hide ((unhide HN).setN hNw (Nat.le_refl _) hK4)
      have HPS := hide (PSend_any hr4.p ⟨true, pc, pn, ⟨pk, pa, pb, pt⟩, rc, rt⟩ (unhide HSM))
      have HPT := hide (fun w' (hT : PTurn 116 N W3.drew o1.P o1.pv w' (aSend A.ms ⟨true, pc, pn, ⟨pk, pa, pb, pt⟩, rc, rt⟩)) => hr4.turnP hT)
      have hcell := hr4.cells.1.2.2.2.2
      have HPC : Hid (W3.cell? ⟨W, 4, none⟩ = some (.pointer (some ⟨o1.P, 0, none⟩))) := hcell
      have HK4W : Hid (W < W3.heap.size ∧ W ∉ powns o1.P o1.pv) := ⟨hr4.lt, hr4.nW 4 (by omega)⟩
      have HK4X : Hid (w.heap.size < W3.heap.size ∧ w.heap.size ∉ powns o1.P o1.pv) := ⟨(Array.getElem?_eq_some_iff.1 hP4).1, fun hm => hnb (WOwn.mem_all.2 (.inr ⟨4, by omega, hm⟩))⟩
      have HP4 := hide hP4
      dsimp only [APkt.val] at HPS
      generalize o1.P = P at HPS HPT HPC HK4W HK4X
      generalize o1.pv = pv at HPS HPT HK4W HK4X
      clear hs1 hs2 hW3 hP4 hK4 hr4 hcell x0 x1 x2 x3 x4 x5 x6 x7 x8 xf0 xf7 xf8 z0 z1
      go_wp2_with fail
      refine wp_region_held_drew (S := (fun wx => wx.heap[W]? = W3.heap[W]? ∧ wx.heap[w.heap.size]? = W3.heap[w.heap.size]?)) (by kernel_rfl) (⟨rfl, rfl⟩) (fun hHeld => ?_)
      refine wpAnyH_take (i := 0) (v := ?_) opn0 (by kernel_rfl) (by kernel_rfl) (by kernel_rfl) (fun _ _ _ h => h) (Or.inl ⟨by kernel_rfl, ?_⟩) (by assumption) ?_
      rotate_left 1
      · intro wz hSw
        try dsimp only at hSw
        go_simp
        all_goals with_reducible rfl
      try simp only [Act.put, List.setIfInBounds_toArray, List.set_cons_zero, List.set_cons_succ]
      refine wpAnyH_take (i := 1) (v := ?_) opn1 (by kernel_rfl) (by kernel_rfl) (by kernel_rfl) (fun _ _ _ h => h) (Or.inl ⟨by kernel_rfl, ?_⟩) (by assumption) ?_
      rotate_left 1
      · intro wz hSw
        try dsimp only at hSw
        go_simp
        all_goals with_reducible rfl
      try simp only [Act.put, List.setIfInBounds_toArray, List.set_cons_zero, List.set_cons_succ]
      refine wpAnyH_take (i := 2) (v := ?_) opn2 (by kernel_rfl) (by kernel_rfl) (by kernel_rfl) (fun _ _ _ h => h) (Or.inl ⟨by kernel_rfl, ?_⟩) (by assumption) ?_
      rotate_left 1
      · intro wz hSw
        try dsimp only at hSw
        go_simp
        all_goals with_reducible rfl
      try simp only [Act.put, List.setIfInBounds_toArray, List.set_cons_zero, List.set_cons_succ]
      refine wpAnyH_take (i := 3) (v := ?_) opn3 (by kernel_rfl) (by kernel_rfl) (by kernel_rfl) (fun _ _ _ h => h) (Or.inl ⟨by kernel_rfl, ?_⟩) (by assumption) ?_
      rotate_left 1
      · intro wz hSw
        try dsimp only at hSw
        have hq : wz.cell? ⟨W, 4, none⟩ = some (.pointer (some ⟨P, 0, none⟩)) := (World.cell?_of_block (w := W3) (a := ⟨W, 4, none⟩) hSw.1).trans (unhide HPC)
        go_simp
        all_goals with_reducible rfl
      try simp only [Act.put, List.setIfInBounds_toArray, List.set_cons_zero, List.set_cons_succ]
      refine wpAnyH_take (i := 4) (v := ?_) opn4 (by kernel_rfl) (by kernel_rfl) (by kernel_rfl) (fun _ _ _ h => h) (Or.inl ⟨by kernel_rfl, ?_⟩) (by assumption) ?_
      rotate_left 1
      · intro wz hSw
        try dsimp only at hSw
        obtain ⟨⟨x0, x1, x2, x3⟩, ⟨x4, x5, x6, x7, x8⟩, xf⟩ := nine (hSw.2.trans (unhide HP4))
        go_simp
        all_goals with_reducible rfl
      try simp only [Act.put, List.setIfInBounds_toArray, List.set_cons_zero, List.set_cons_succ]
      refine wpAnyH_ready (rs := [5]) (by kernel_rfl) (by simp) ?_
      refine AllReadyH.cons opn5 (fun K hK => ?_) AllReadyH.nil
      rw [if_pos (by kernel_rfl)]
      go_simp
      refine (unhide HPS).mono ?_
      rintro e w4 ⟨rfl, hT⟩
      obtain ⟨o4, r4, n4⟩ := (unhide HPT) _ hT
      have hk1 : w4.heap[W]? = W3.heap[W]? := hT.same (unhide HK4W).1 (unhide HK4W).2
      have hk2 : w4.heap[w.heap.size]? = W3.heap[w.heap.size]? := hT.same (unhide HK4X).1 (unhide HK4X).2
      have HFIN := hide (And.intro r4 ((unhide HN4).trans n4))
      clear hT r4 n4
      refine hK.out _ _ (⟨hk1, hk2⟩) (fun hHeldN => ?_)
      clear hHeld hK K
      have hHeld := hHeldN
      clear hHeldN
      try simp only [Act.put, List.setIfInBounds_toArray, List.set_cons_zero, List.set_cons_succ]
      clear hk1 hk2
      refine wpAnyH_done (by kernel_rfl) ?_ _
      refine bodyPost_end (v := .tuple #[]) (by simp [results, Tryz.results197, go_sem]) rfl ?_
      exact ⟨rfl, _, (unhide HFIN).1, (unhide HFIN).2⟩

theorem serve_any {N : Nat} {w : World} {W : Nat} {o : WOwn} {A : AW} (h : WRep N w W o A) (p : APkt) (hs : SmallP p) :
    Calls Tryz.prog 197 #[.pointer (some ⟨W, 0, none⟩), p.val] w fun e w' => e = .returned (.tuple #[]) ∧ WTurn N w W o w' (A.serve p) := by
  by_cases he : (aCall A.log p.client p.no p.call).err = 0
  · exact serve_ok h p hs he
  · exact serve_err h p hs he
set_option maxRecDepth 100000 in
set_option maxHeartbeats 4000000 in
theorem deliver_any {N : Nat} {w : World} {W : Nat} {o : WOwn} {A : AW} (h : WRep N w W o A) (p : APkt) (hs : SmallP p) :
    Calls Tryz.prog 165 #[.pointer (some ⟨W, 0, none⟩), p.val] w fun e w' => e = .returned (.tuple #[]) ∧ WTurn N w W o w' (A.come p) := by
  obtain ⟨V, hV⟩ : ∃ V, V = w.alloc (.cells #[.bool p.reply, .int .i64 p.client, .int .i64 p.no, .int .i64 p.call.kind, .string p.call.name, .string p.call.dst, .string p.call.text, .int .i64 p.code, .string p.ans] 102) := ⟨_, rfl⟩
  have hBV : Below w.heap.size w V := by rw [hV]; exact (Below.refl _ _).alloc (Nat.le_refl _) _
  have hXV : V.heap[w.heap.size]? = some (.cells #[.bool p.reply, .int .i64 p.client, .int .i64 p.no, .int .i64 p.call.kind, .string p.call.name, .string p.call.dst, .string p.call.text, .int .i64 p.code, .string p.ans] 102 (0, 0)) := by rw [hV]; exact heap_alloc_new _ _
  have hlV : w.heap.size < V.heap.size := (Array.getElem?_eq_some_iff.1 hXV).1
  have hrV := h.below hBV
  have HBV := hide hBV
  have HXV := hide hXV
  have HV := hide hV
  cases hr : p.reply
  · have e1 : A.come p = A.serve p := by unfold AW.come; rw [hr]; rfl
    rw [e1]
    have HSV := hide (serve_any hrV p hs)
    have HT := hide (fun w' (hT : WTurn N V W o w' (A.serve p)) => hT.before hBV h.size)
    obtain ⟨⟨x0, x1, x2, x3⟩, ⟨x4, x5, x6, x7, x8⟩, xf⟩ := nine hXV
    generalize A.serve p = A2 at HSV HT ⊢
    clear h e1 hV hBV hXV hrV hs
    obtain ⟨pr, pc, pn, ⟨pk, pa, pb, pt⟩, pd, pu⟩ := p
    dsimp only [APkt.val] at *
    subst hr
    go_enter Tryz.func165, Tryz.ntmps165
    go_wp2_with fail
    rw [← unhide HV]
    refine (unhide HSV).mono ?_
    rintro e w1 ⟨rfl, hT⟩
    have HT3 := hide ((unhide HT) _ hT)
    clear hT
    go_wp2
    refine bodyPost_end (v := .tuple #[]) (by simp [results, Tryz.results165, go_sem]) rfl ?_
    exact ⟨rfl, unhide HT3⟩
  · have e1 : A.come p = A.hear p := by unfold AW.come; rw [hr]; rfl
    rw [e1]
    have HSV := hide (whear_any hrV p hs)
    have HT := hide (fun w' (hT : WTurn N V W o w' (A.hear p)) => hT.before hBV h.size)
    obtain ⟨⟨x0, x1, x2, x3⟩, ⟨x4, x5, x6, x7, x8⟩, xf⟩ := nine hXV
    generalize A.hear p = A2 at HSV HT ⊢
    clear h e1 hV hBV hXV hrV hs
    obtain ⟨pr, pc, pn, ⟨pk, pa, pb, pt⟩, pd, pu⟩ := p
    dsimp only [APkt.val] at *
    subst hr
    go_enter Tryz.func165, Tryz.ntmps165
    go_wp2_with fail
    rw [← unhide HV]
    refine (unhide HSV).mono ?_
    rintro e w1 ⟨rfl, hT⟩
    have HT3 := hide ((unhide HT) _ hT)
    clear hT
    go_wp2
    refine bodyPost_end (v := .tuple #[]) (by simp [results, Tryz.results165, go_sem]) rfl ?_
    exact ⟨rfl, unhide HT3⟩

end Go.Proofs.YtffgolanmaenfacGreatDoor
