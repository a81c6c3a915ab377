/- A client: Hear. -/
import Derived.Test.YtfpommjolbipmabKf
namespace Go.Proofs.Ytfpommjolbipmab
open Go.RowKit
set_option linter.unusedSimpArgs false
set_option linter.unusedVariables false

theorem set8 {w : World} {X : Nat} {t : TypeId} {y0 y1 y2 y3 y4 y5 y6 y7 a0 a1 a2 a3 a4 a5 a6 a7 : Value} (h : w.heap[X]? = some (.cells #[y0, y1, y2, y3, y4, y5, y6, y7] t (0, 0))) :
    ((((((((w.setCell ⟨X, 0, none⟩ a0).setCell ⟨X, 1, none⟩ a1).setCell ⟨X, 2, none⟩ a2).setCell ⟨X, 3, none⟩ a3).setCell ⟨X, 4, none⟩ a4).setCell ⟨X, 5, none⟩ a5).setCell ⟨X, 6, none⟩ a6).setCell ⟨X, 7, none⟩ a7).heap[X]? = some (.cells #[a0, a1, a2, a3, a4, a5, a6, a7] t (0, 0)) ∧
    Kept [X] w ((((((((w.setCell ⟨X, 0, none⟩ a0).setCell ⟨X, 1, none⟩ a1).setCell ⟨X, 2, none⟩ a2).setCell ⟨X, 3, none⟩ a3).setCell ⟨X, 4, none⟩ a4).setCell ⟨X, 5, none⟩ a5).setCell ⟨X, 6, none⟩ a6).setCell ⟨X, 7, none⟩ a7) := by
  have k : ∀ (W : World) (o : Nat) (u : Value), Kept [X] W (W.setCell ⟨X, o, none⟩ u) := fun W o u => kept_setCell [X] W X o u (by simp)
  have k0 := Kept.refl [X] w
  have h1 : (w.setCell ⟨X, 0, none⟩ a0).heap[X]? = some (.cells #[a0, y1, y2, y3, y4, y5, y6, y7] t (0, 0)) := heap_setCell_same h a0
  have k1 := k0.trans (k w 0 a0) (fun x hx => .inl hx)
  generalize w.setCell ⟨X, 0, none⟩ a0 = w1 at *
  have h2 : (w1.setCell ⟨X, 1, none⟩ a1).heap[X]? = some (.cells #[a0, a1, y2, y3, y4, y5, y6, y7] t (0, 0)) := heap_setCell_same h1 a1
  have k2 := k1.trans (k w1 1 a1) (fun x hx => .inl hx)
  generalize w1.setCell ⟨X, 1, none⟩ a1 = w2 at *
  have h3 : (w2.setCell ⟨X, 2, none⟩ a2).heap[X]? = some (.cells #[a0, a1, a2, y3, y4, y5, y6, y7] t (0, 0)) := heap_setCell_same h2 a2
  have k3 := k2.trans (k w2 2 a2) (fun x hx => .inl hx)
  generalize w2.setCell ⟨X, 2, none⟩ a2 = w3 at *
  have h4 : (w3.setCell ⟨X, 3, none⟩ a3).heap[X]? = some (.cells #[a0, a1, a2, a3, y4, y5, y6, y7] t (0, 0)) := heap_setCell_same h3 a3
  have k4 := k3.trans (k w3 3 a3) (fun x hx => .inl hx)
  generalize w3.setCell ⟨X, 3, none⟩ a3 = w4 at *
  have h5 : (w4.setCell ⟨X, 4, none⟩ a4).heap[X]? = some (.cells #[a0, a1, a2, a3, a4, y5, y6, y7] t (0, 0)) := heap_setCell_same h4 a4
  have k5 := k4.trans (k w4 4 a4) (fun x hx => .inl hx)
  generalize w4.setCell ⟨X, 4, none⟩ a4 = w5 at *
  have h6 : (w5.setCell ⟨X, 5, none⟩ a5).heap[X]? = some (.cells #[a0, a1, a2, a3, a4, a5, y6, y7] t (0, 0)) := heap_setCell_same h5 a5
  have k6 := k5.trans (k w5 5 a5) (fun x hx => .inl hx)
  generalize w5.setCell ⟨X, 5, none⟩ a5 = w6 at *
  have h7 : (w6.setCell ⟨X, 6, none⟩ a6).heap[X]? = some (.cells #[a0, a1, a2, a3, a4, a5, a6, y7] t (0, 0)) := heap_setCell_same h6 a6
  have k7 := k6.trans (k w6 6 a6) (fun x hx => .inl hx)
  generalize w6.setCell ⟨X, 6, none⟩ a6 = w7 at *
  have h8 : (w7.setCell ⟨X, 7, none⟩ a7).heap[X]? = some (.cells #[a0, a1, a2, a3, a4, a5, a6, a7] t (0, 0)) := heap_setCell_same h7 a7
  have k8 := k7.trans (k w7 7 a7) (fun x hx => .inl hx)
  generalize w7.setCell ⟨X, 7, none⟩ a7 = w8 at *
  exact ⟨h8, k8⟩

set_option maxRecDepth 100000 in
set_option maxHeartbeats 4000000 in
theorem Hear_none {N : Nat} {w : World} {X : Nat} {v : Value} {c : ACli} (h : KRep N w X v c) (p : APkt) (hp : c.hears p = false) :
    Calls Try.prog 30 #[.pointer (some ⟨X, 0, none⟩), p.val] w fun e w' => e = .returned (.bool false) ∧ KTurn N w X v w' c := by
  obtain ⟨V, hV⟩ : ∃ V, V = w.alloc (.cells (pArr p) 33) := ⟨_, rfl⟩
  have hBV : Below w.heap.size w V := by rw [hV]; exact (Below.refl _ _).alloc (Nat.le_refl _) _
  have HAW := hide (awaits_any (h.below hBV) p)
  rw [hp] at HAW
  have HT : Hid (∀ w', Below V.heap.size V w' → KTurn N w X v w' c) := fun w' hb => OTurn.of_below h.o (hBV.trans (hb.mono hBV.size))
  have HV := hide hV
  obtain ⟨y, pc, pn, ⟨pk, s1, s2, s3⟩, d, u⟩ := p
  dsimp only [APkt.val, pArr] at *
  clear h hBV hV hp
  go_enter Try.func30, Try.ntmps30
  go_wp2_with fail
  rw [← unhide HV]
  refine (unhide HAW).mono ?_
  rintro e w1 ⟨rfl, b1⟩
  go_wp2
  go_ret
  exact ⟨rfl, (unhide HT) _ b1⟩

set_option maxRecDepth 100000 in
set_option maxHeartbeats 4000000 in
theorem Hear_some {N : Nat} {w : World} {X : Nat} {v : Value} {c : ACli} (h : KRep N w X v c) (p : APkt) (hsm : SmallP p) (hp : c.hears p = true) :
    Calls Try.prog 30 #[.pointer (some ⟨X, 0, none⟩), p.val] w fun e w' => e = .returned (.bool true) ∧ KTurn N w X v w' (c.heard p) := by
  have e2 : c.heard p = ⟨c.me, c.done ++ [c.rcd p], zeroCall, false⟩ := by unfold ACli.heard; rw [if_pos hp]
  rw [e2]
  clear e2
  obtain ⟨V, hV⟩ : ∃ V, V = w.alloc (.cells (pArr p) 33) := ⟨_, rfl⟩
  have hBV : Below w.heap.size w V := by rw [hV]; exact (Below.refl _ _).alloc (Nat.le_refl _) _
  have hPV : V.heap[w.heap.size]? = some (.cells (pArr p) 33 (0, 0)) := by rw [hV]; exact heap_alloc_new _ _
  have hrV := h.below hBV
  have hXV : X < V.heap.size := hrV.o.lt
  have hzV : V.heap.size = w.heap.size + 1 := by rw [hV]; simp
  have HAW := hide (awaits_any hrV p)
  rw [hp] at HAW
  have HNO : Hid (∀ W, Below V.heap.size V W → Calls Try.prog 39 #[.pointer (some ⟨X, 0, none⟩)] W fun e w' => e = .returned (.int .i64 c.no) ∧ w' = W) := fun W hW => number_any (hrV.below hW)
  have HCA := hide (fun W => cloneAnswer_any p.code p.ans W hsm.2.2.2)
  have HF : Hid (∀ W, Below V.heap.size V W → W.cell? ⟨X, 0, none⟩ = some (.int .i64 c.me) ∧ W.cell? ⟨X, 2, none⟩ = some (.int .i64 c.call.kind) ∧ W.cell? ⟨X, 3, none⟩ = some (.string c.call.name) ∧ W.cell? ⟨X, 4, none⟩ = some (.string c.call.dst) ∧ W.cell? ⟨X, 5, none⟩ = some (.string c.call.text) ∧ W.cell? ⟨w.heap.size, 7, none⟩ = some (.int .i64 p.code) ∧ W.cell? ⟨w.heap.size, 8, none⟩ = some (.string p.ans)) := fun W hW => by
    obtain ⟨⟨y0, y1, y2, y3⟩, ⟨y4, y5, y6⟩, yf⟩ := seven (hrV.below hW).o.blk
    obtain ⟨⟨z0, z1, z2, z3⟩, ⟨z4, z5, z6, z7, z8⟩, _⟩ := nine ((hW.block _ (by omega)).trans hPV)
    exact ⟨y0, y2, y3, y4, y5, z7, z8⟩
  have HH := hide h
  have HOP : Hid (c.op = true) := by
    unfold ACli.hears at hp
    simp only [Bool.and_eq_true] at hp
    exact hp.1.1.1.1
  obtain ⟨i0, hi0, hz0, hz1', hz2⟩ := info_parts info63
  have HBV := hide hBV
  have HV := hide hV
  have hXl := h.o.lt
  unfold ACli.rcd
  generalize c.no = cno at HNO ⊢
  obtain ⟨me, done, ⟨ck, ca, cb, ct⟩, op⟩ := c
  obtain ⟨y, pc, pn, ⟨pk, s1, s2, s3⟩, d, u⟩ := p
  dsimp only [APkt.val, pArr] at *
  clear h hBV hV hp hrV hPV hsm
  go_enter Try.func30, Try.ntmps30
  go_wp2_with fail
  rw [← unhide HV]
  refine (unhide HAW).mono ?_
  rintro e w1 ⟨rfl, b1⟩
  go_wp2_with fail
  obtain ⟨x0, x2, x3, x4, x5, x7, x8⟩ := (unhide HF) w1 b1
  have hz1 := b1.size
  have hX1 : X < w1.heap.size := by omega
  have hP1 : w.heap.size < w1.heap.size := by omega
  have hne1 : w1.heap.size ≠ X := by omega
  have hne2 : w1.heap.size ≠ w.heap.size := by omega
  go_region_held3 (fun W => W.cell? ⟨X, 0, none⟩ = some (.int .i64 me) ∧ W.cell? ⟨X, 2, none⟩ = some (.int .i64 ck) ∧ W.cell? ⟨X, 3, none⟩ = some (.string ca) ∧ W.cell? ⟨X, 4, none⟩ = some (.string cb) ∧ W.cell? ⟨X, 5, none⟩ = some (.string ct) ∧ W.cell? ⟨w.heap.size, 7, none⟩ = some (.int .i64 d) ∧ W.cell? ⟨w.heap.size, 8, none⟩ = some (.string u)) (first | (go_keep; done) | (refine ⟨?_, ?_, ?_, ?_, ?_, ?_, ?_⟩ <;> (rw [al_old _ _ _ _ (by assumption)]; assumption)) | (simp [World.cell?_setCell_far, hne1, hne2, q0, q2, q3, q4, q5, q7, q8]; done)) (first
    | (go_at_call 39; refine ((unhide HNO) _ (by first | exact b1.trans ((below_drew w1).mono hz1) | exact b1.trans ((below_drew_alloc w1 _).mono hz1) | exact b1.trans ((below_alloc_drew w1 _).mono hz1))).mono ?_; rintro e w2 ⟨rfl, hw2⟩; obtain rfl := hw2.symm; clear hw2)
    | (go_at_call 41; refine ((unhide HCA) _).mono ?_; rintro e w3 ⟨rfl, b3⟩; have bV3 : Below V.heap.size V w3 := (by first | exact b1.trans (((below_drew w1).trans b3).mono hz1) | exact b1.trans (((below_drew_alloc w1 _).trans (b3.mono (by simp))).mono hz1) | exact b1.trans (((below_alloc_drew w1 _).trans (b3.mono (by simp))).mono hz1)); obtain ⟨q0, q2, q3, q4, q5, q7, q8⟩ := (unhide HF) w3 bV3; try (have hR3 : w3.heap[w1.heap.size]? = some (.cells #[.int .i64 0, .int .i64 0, .int .i64 0, .string ⟨#[]⟩, .string ⟨#[]⟩, .string ⟨#[]⟩, .int .i64 0, .string ⟨#[]⟩] 63 (0, 0)) := (b3.block w1.heap.size (by simp)).trans (heap_alloc_new w1 _); obtain ⟨⟨m0, m1, m2, m3⟩, ⟨m4, m5, m6, m7⟩, mf⟩ := eight hR3)))
  all_goals have hz3 := bV3.size
  all_goals first
    | (obtain ⟨W, hW⟩ : ∃ W, W = w3.alloc (.cells #[.int .i64 me, .int .i64 cno, .int .i64 ck, .string ca, .string cb, .string ct, .int .i64 d, .string u] 63) := ⟨_, rfl⟩
       obtain ⟨Bk, hBk⟩ : ∃ B, B = w3.heap.size := ⟨_, rfl⟩
       have hWB : W.heap[Bk]? = some (.cells #[.int .i64 me, .int .i64 cno, .int .i64 ck, .string ca, .string cb, .string ct, .int .i64 d, .string u] 63 (0, 0)) := by rw [hW, hBk]; exact heap_alloc_new _ _
       have hBW : Below V.heap.size V W := by rw [hW]; exact bV3.alloc bV3.size _
       have hBkV : V.heap.size ≤ Bk := by omega
       rw [← hW, ← hBk]
       clear hW hBk)
    | (obtain ⟨hs1, hs2⟩ := set8 (a0 := .int .i64 me) (a1 := .int .i64 cno) (a2 := .int .i64 ck) (a3 := .string ca) (a4 := .string cb) (a5 := .string ct) (a6 := .int .i64 d) (a7 := .string u) hR3
       obtain ⟨W, hW⟩ : ∃ W, W = ((((((((w3.setCell ⟨w1.heap.size, 0, none⟩ (.int .i64 me)).setCell ⟨w1.heap.size, 1, none⟩ (.int .i64 cno)).setCell ⟨w1.heap.size, 2, none⟩ (.int .i64 ck)).setCell ⟨w1.heap.size, 3, none⟩ (.string ca)).setCell ⟨w1.heap.size, 4, none⟩ (.string cb)).setCell ⟨w1.heap.size, 5, none⟩ (.string ct)).setCell ⟨w1.heap.size, 6, none⟩ (.int .i64 d)).setCell ⟨w1.heap.size, 7, none⟩ (.string u)) := ⟨_, rfl⟩
       obtain ⟨Bk, hBk⟩ : ∃ B, B = w1.heap.size := ⟨_, rfl⟩
       rw [← hW] at hs1 hs2
       have hWB : W.heap[Bk]? = some (.cells #[.int .i64 me, .int .i64 cno, .int .i64 ck, .string ca, .string cb, .string ct, .int .i64 d, .string u] 63 (0, 0)) := by rw [hBk]; exact hs1
       have hBW : Below V.heap.size V W := bV3.trans (hs2.below (by omega) (by simp; omega))
       have hBkV : V.heap.size ≤ Bk := by omega
       rw [← hW, ← hBk]
       clear hW hBk hs1 hs2)
  all_goals
    have hbwW : Below w.heap.size w W := (unhide HBV).trans (hBW.mono (unhide HBV).size)
    have hrW := (unhide HH).below hbwW
    obtain ⟨a, cap, hv⟩ := hrW.o.form
    subst hv
    obtain ⟨k, hk⟩ : ∃ k, done.length = k := ⟨_, rfl⟩
    rw [hk] at hrW
    have nB := hrW.o.nd
    have HRW := hide hrW
    have HbwW := hide hbwW
    have hk200 : k < 200 := by rw [← hk]; exact hrW.ok.room (unhide HOP)
    have HOR : Hid (∀ wx, Below W.heap.size W wx → wx.ownsRow N 63 8 (.slice a k cap) k (done.flatMap rcells)) := fun wx hb => by have := ((unhide HRW).below (w' := wx) hb).o.row; rw [hk] at this; exact this
    have HFX : Hid (∀ wx, Below W.heap.size W wx → Can wx X 1 (.slice a k cap)) := fun wx hb => by
      obtain ⟨⟨y0, y1, y2, y3⟩, ⟨y4, y5, y6⟩, yf⟩ := seven ((unhide HRW).below (w' := wx) hb).o.blk
      exact ⟨y1, yf 1⟩
    have hBWl : Bk < W.heap.size := (Array.getElem?_eq_some_iff.1 hWB).1
    have hXW : X < W.heap.size := hrW.o.lt
    have HNN : Hid (N ≤ W.heap.size) := hrW.o.size
    obtain ⟨⟨m0, m1, m2, m3⟩, ⟨m4, m5, m6, m7⟩, mf⟩ := eight hWB
    have hc1 := ((unhide HFX) W (Below.refl _ _)).1
    have hf1 := ((unhide HFX) W (Below.refl _ _)).2
    have HK := hide hk
    clear hrW hbwW hk x0 x2 x3 x4 x5 x7 x8 q0 q2 q3 q4 q5 q7 q8 b1 hne1 hne2 hX1 hP1 hz1
    go_wp2_with fail
    go_region_law (first
      | (refine step_append_lies _ (by rfl) _ _ _ (by rfl) N 63 i0 _ 8 96 Try.underlying51 hi0 hz0 hz1' hz2 rfl (by omega) (.slice a k cap) k (done.flatMap rcells) (by rfl) (HOR.out _ (below_alloc_drew W _))
          ⟨W.heap.size, 0, none⟩ 1 1 [.int .i64 me, .int .i64 cno, .int .i64 ck, .string ca, .string cb, .string ct, .int .i64 d, .string u] (by rfl) (by rfl) (World.news_of_block (cs := #[.int .i64 me, .int .i64 cno, .int .i64 ck, .string ca, .string cb, .string ct, .int .i64 d, .string u]) (t := 63) (fr := (0, 0)) (alloc_drew_new W _)) (by simp [Value.oneCell'])
          (by omega) (by unfold maxLen; omega) (by omega) (by have h4 := unhide HNN; simp; omega) (W.heap.size + 1) (by simp) ?_; intro g cap' w5 hown2 hgrow hat hlt; have hc2 := (HFX.out _ (below_alloc_drew W _)).grown hgrow nB; have hc3 := hc2.1; have hf3 := hc2.2))
    all_goals
      have hbA : Below W.heap.size W (W.alloc (.cells #[.int .i64 me, .int .i64 cno, .int .i64 ck, .string ca, .string cb, .string ct, .int .i64 d, .string u] 63)).drew := below_alloc_drew W _
      have hrA := (unhide HRW).below hbA
      have hXA : w5.heap[X]? = some (.cells #[.int .i64 me, .slice a k cap, .int .i64 ck, .string ca, .string cb, .string ct, .bool op] 73 (0, 0)) := by
        rw [hgrow.block X hrA.o.lt (fun e => nB e.symm)]
        have := hrA.o.blk
        unfold kcells at this
        exact this
      have hX6 : (w5.setCell ⟨X, 1, none⟩ (.slice (some ⟨g, 0, none⟩) (k + 1) cap')).heap[X]? = some (.cells #[.int .i64 me, .slice (some ⟨g, 0, none⟩) (k + 1) cap', .int .i64 ck, .string ca, .string cb, .string ct, .bool op] 73 (0, 0)) := heap_setCell_same hXA _
      have hk6 := kept_setCell [X] w5 X 1 (.slice (some ⟨g, 0, none⟩) (k + 1) cap') (by simp)
      obtain ⟨W6, hW6⟩ : ∃ W6, W6 = w5.setCell ⟨X, 1, none⟩ (.slice (some ⟨g, 0, none⟩) (k + 1) cap') := ⟨_, rfl⟩
      rw [← hW6] at hX6 hk6
      obtain ⟨hs1, hs2⟩ := set5 (a2 := .int .i64 0) (a3 := .string ⟨#[]⟩) (a4 := .string ⟨#[]⟩) (a5 := .string ⟨#[]⟩) (a6 := .bool false) hX6
      have hT : KTurn N _ X (.slice a k cap) _ ⟨me, done ++ [⟨me, cno, ⟨ck, ca, cb, ct⟩, d, u⟩], zeroCall, false⟩ := hrA.o.push (f' := kcells ⟨me, done ++ [⟨me, cno, ⟨ck, ca, cb, ct⟩, d, u⟩], zeroCall, false⟩) (n := k + 1) (r := ⟨me, cno, ⟨ck, ca, cb, ct⟩, d, u⟩) hgrow (by rw [unhide HK]) hown2 (by simpa using hat) (hk6.trans hs2 (fun x hx => .inl hx)) hs1
      have hT2 := OTurn.before ((unhide HbwW).trans (hbA.mono (unhide HbwW).size)) hT
      have HT := hide hT2
      obtain ⟨⟨y0, y1, y2, y3⟩, ⟨y4, y5, y6⟩, yf⟩ := seven hX6
      rw [← hW6]
      clear hT hT2 hs1 hs2 hX6 hk6 hW6 hXA hrA hbA hown2 hgrow hat hlt hc2 hc3 hf3 hc1 hf1 m0 m1 m2 m3 m4 m5 m6 m7 mf
      go_wp2
      go_ret
      exact ⟨rfl, by rw [unhide HK]; exact unhide HT⟩

theorem Hear_any {N : Nat} {w : World} {X : Nat} {v : Value} {c : ACli} (h : KRep N w X v c) (p : APkt) (hsm : SmallP p) :
    Calls Try.prog 30 #[.pointer (some ⟨X, 0, none⟩), p.val] w fun e w' => e = .returned (.bool (c.hears p)) ∧ KTurn N w X v w' (c.heard p) := by
  cases hp : c.hears p
  · have e : c.heard p = c := by unfold ACli.heard; rw [hp]; rfl
    rw [e]
    exact Hear_none h p hp
  · exact Hear_some h p hsm hp

end Go.Proofs.Ytfpommjolbipmab
