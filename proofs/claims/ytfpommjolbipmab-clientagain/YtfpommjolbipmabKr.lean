/- ClientDoes: the walk. -/
import Derived.Test.YtfpommjolbipmabKq
namespace Go.Proofs.Ytfpommjolbipmab
open Go.RowKit
set_option linter.unusedSimpArgs false
set_option linter.unusedVariables false

theorem KG.start (me : Int) (w : World) : KG w.heap.size ((w.alloc (.cells #[.int .i64 me, .slice none 0 0, .int .i64 0, .string ⟨#[]⟩, .string ⟨#[]⟩, .string ⟨#[]⟩, .bool false] 73)).alloc (.cells #[.int .i64 me, .int .i64 0, .int .i64 0, .string ⟨#[]⟩, .string ⟨#[]⟩, .string ⟨#[]⟩, .bool false, .slice none 0 0] 53)) w.heap.size (.slice none 0 0) ⟨me, [], zeroCall, false⟩ (w.heap.size + 1) (.slice none 0 0) ⟨me, [], zeroCall, false⟩ zeroCall := by
  refine ⟨(KRep.start me w).below ((Below.refl _ _).alloc (Nat.le_refl _) _), ⟨⟨by omega, ?_, World.ownsRow_nil _ _ _ _, by simp [Value.ownBlock]⟩, COk.start me, by simp⟩, ?_⟩
  · have := heap_alloc_new (w.alloc (.cells #[.int .i64 me, .slice none 0 0, .int .i64 0, .string ⟨#[]⟩, .string ⟨#[]⟩, .string ⟨#[]⟩, .bool false] 73)) (.cells #[.int .i64 me, .int .i64 0, .int .i64 0, .string ⟨#[]⟩, .string ⟨#[]⟩, .string ⟨#[]⟩, .bool false, .slice none 0 0] 53)
    rw [al_size] at this
    exact this
  · intro b hb hm
    simp [powns, Value.ownBlock] at hb hm
    omega
theorem GRep.cell6 {N : Nat} {w : World} {X : Nat} {v : Value} {c : ACli} {y : ACall} (h : GRep N w X v c y) : w.cell? ⟨X, 6, none⟩ = some (.bool c.op) := by
  obtain ⟨_, ⟨_, _, k6, _⟩, _⟩ := eight h.o.blk
  exact k6
theorem GRep.cell7 {N : Nat} {w : World} {X : Nat} {v : Value} {c : ACli} {y : ACall} (h : GRep N w X v c y) : w.cell? ⟨X, 7, none⟩ = some v := by
  obtain ⟨_, ⟨_, _, _, k7⟩, _⟩ := eight h.o.blk
  exact k7

set_option maxRecDepth 100000 in
set_option maxHeartbeats 8000000 in
theorem kdoes_walk (me : Int) (a0 : Option Addr) (n0 c0 : Nat) (ls : List AKStep) (w : World) (hl : KStepsAt w a0 n0 ls) :
    Calls Try.prog 6 #[.int .i64 me, .slice a0 n0 c0] w fun e w' => e = .returned (.bool true) ∧ Below w.heap.size w w' := by
  have HBG := hide clientBegun_any
  have HL := hide hl
  have hn0 := hl.2.1
  unfold maxLen at hn0
  have HGR := hide (fun W (hb : Below w.heap.size w W) => greatClient_any a0 n0 c0 ls W (hl.below hb))
  clear hl
  go_enter Try.func6, Try.ntmps6
  go_wp2_with fail
  refine ((unhide HBG) _).mono ?_
  rintro e w1 ⟨rfl, b1⟩
  have HB1 := hide b1
  go_wp2_with fail
  refine ((unhide HGR) _ b1).mono ?_
  rintro e w2 ⟨⟨r, rfl⟩, b2⟩
  have HB2 := hide (b1.trans (b2.mono b1.size))
  clear b1 b2 HB1
  cases r
  rotate_left 1
  · go_wp2
    go_ret
    exact ⟨rfl, unhide HB2⟩
  by_cases hme : me < 0 ∨ 3 ≤ me
  · have HNW := hide (New_none me w2 hme)
    go_wp2_with fail
    refine (unhide HNW).mono ?_
    rintro e w3 ⟨rfl, hw3⟩
    obtain rfl := hw3.symm
    clear hw3
    by_cases h0 : me < 0
    · clear hme
      go_wp2
      go_ret
      exact ⟨rfl, unhide HB2⟩
    · have h3 : (3 : Int) ≤ me := by omega
      clear hme
      go_wp2
      go_ret
      exact ⟨rfl, unhide HB2⟩
  have HNW := hide (New_some me w2 hme)
  go_wp2_with fail
  refine (unhide HNW).mono ?_
  rintro e w3 ⟨rfl, rfl⟩
  have h0 : ¬ me < 0 := by omega
  have h3 : ¬ (3 : Int) ≤ me := by omega
  clear hme
  have HK0 := hide (KG.start me w2)
  have HB3 : Hid (Below w2.heap.size w2 ((w2.alloc (.cells #[.int .i64 me, .slice none 0 0, .int .i64 0, .string ⟨#[]⟩, .string ⟨#[]⟩, .string ⟨#[]⟩, .bool false] 73)).alloc (.cells #[.int .i64 me, .int .i64 0, .int .i64 0, .string ⟨#[]⟩, .string ⟨#[]⟩, .string ⟨#[]⟩, .bool false, .slice none 0 0] 53))) := ((Below.refl _ _).alloc (Nat.le_refl _) _).alloc (by simp) _
  have hzw : w.heap.size ≤ w2.heap.size := (unhide HB2).size
  obtain ⟨Y, hY⟩ : ∃ Y, Y = w2.heap.size + 1 := ⟨_, rfl⟩
  rw [← hY] at HK0
  go_wp2_with fail
  rw [← hY]
  clear hY
  go_loopw [7, 8, 9, 10, 11] (fun i _ _ _ _ wr => ∃ (q : Nat) (v u : Value) (c : ACli) (y : ACall), q ≤ n0 ∧ i = .int .i64 (q : Int) ∧ Hid (KG w2.heap.size wr w2.heap.size v c Y u c y) ∧ Hid (Below w2.heap.size w2 wr)) (fun i _ _ _ _ _ => n0 - (intOf i).toNat)
  case atStart => exact ⟨0, _, _, _, _, Nat.zero_le _, rfl, unhide HK0, unhide HB3⟩
  case round =>
    obtain ⟨q, v, u, c, y, hq, rfl, HK, HB⟩ := hrel
    have HBw := hide ((unhide HB2).trans ((unhide HB).mono hzw))
    by_cases hlt : (q : Int) < (n0 : Int)
    · obtain ⟨x, hx⟩ : ∃ x, ls[q]? = some x := ⟨_, List.getElem?_eq_getElem (by rw [(unhide HL).1]; omega)⟩
      obtain ⟨b, off, rfl, hc⟩ := ((unhide HL).below (unhide HBw)).2.2.2 (by omega)
      obtain ⟨b', off', hb', hcl⟩ := (unhide HL).2.2.2 (by omega)
      cases hb'
      have hbl : b < w.heap.size := (hcl q x hx).lt
      have HAT := hide (hc q x hx)
      have hsz := (unhide HL).2.2.1 x (List.mem_of_getElem? hx)
      have HKD := hide ((unhide HK).below (below_drew wr))
      have HST := hide (clientStep_any (unhide HKD) x hsz)
      have HBD : Hid (Below w2.heap.size w2 wr.drew) := (unhide HB).drew
      have hqi : (0 : Int) ≤ (q : Int) := by omega
      obtain ⟨c2, hc2⟩ : ∃ c2, c.step x = c2 := ⟨_, rfl⟩
      rw [hc2] at HST
      clear hc hcl hx hsz hc2
      obtain ⟨act, ⟨ck, ca, cb, ct⟩, ⟨r, pc, pn, ⟨pk, s1, s2, s3⟩, d, u2⟩, ad, au⟩ := x
      dsimp only [AKStep.val] at HST
      go_wp2_with fail
      refine wp_region_held_drew (S := (fun wx => KStepAt wx b (off + q * 16) ⟨act, ⟨ck, ca, cb, ct⟩, ⟨r, pc, pn, ⟨pk, s1, s2, s3⟩, d, u2⟩, ad, au⟩)) (by kernel_rfl) ((unhide HAT).same rfl) (fun hHeld => ?_)
      refine wpAnyH_take (i := 0) (v := ?_) opn0 (by kernel_rfl) (by kernel_rfl) (by kernel_rfl) (fun _ _ _ h => h) (Or.inl ⟨by kernel_rfl, ?_⟩) (by assumption) ?_
      rotate_left 1
      · intro wz hSw
        try dsimp only at hSw
        go_simp
        all_goals with_reducible rfl
      try simp only [Act.put, List.setIfInBounds_toArray, List.set_cons_zero, List.set_cons_succ]
      refine wpAnyH_take (i := 1) (v := ?_) opn1 (by kernel_rfl) (by kernel_rfl) (by kernel_rfl) (fun _ _ _ h => h) (Or.inl ⟨by kernel_rfl, ?_⟩) (by assumption) ?_
      rotate_left 1
      · intro wz hSw
        try dsimp only at hSw
        go_simp
        all_goals with_reducible rfl
      try simp only [Act.put, List.setIfInBounds_toArray, List.set_cons_zero, List.set_cons_succ]
      refine wpAnyH_take (i := 2) (v := ?_) opn2 (by kernel_rfl) (by kernel_rfl) (by kernel_rfl) (fun _ _ _ h => h) (Or.inl ⟨by kernel_rfl, ?_⟩) (by assumption) ?_
      rotate_left 1
      · intro wz hSw
        try dsimp only at hSw
        go_simp
        all_goals with_reducible rfl
      try simp only [Act.put, List.setIfInBounds_toArray, List.set_cons_zero, List.set_cons_succ]
      refine wpAnyH_take (i := 3) (v := ?_) opn3 (by kernel_rfl) (by kernel_rfl) (by kernel_rfl) (fun _ _ _ h => h) (Or.inl ⟨by kernel_rfl, ?_⟩) (by assumption) ?_
      rotate_left 1
      · intro wz hSw
        try dsimp only at hSw
        go_simp
        all_goals with_reducible rfl
      try simp only [Act.put, List.setIfInBounds_toArray, List.set_cons_zero, List.set_cons_succ]
      refine wpAnyH_take (i := 4) (v := ?_) opn4 (by kernel_rfl) (by kernel_rfl) (by kernel_rfl) (fun _ _ _ h => h) (Or.inl ⟨by kernel_rfl, ?_⟩) (by assumption) ?_
      rotate_left 1
      · intro wz hSw
        try dsimp only at hSw
        go_simp
        all_goals with_reducible rfl
      try simp only [Act.put, List.setIfInBounds_toArray, List.set_cons_zero, List.set_cons_succ]
      refine wpAnyH_take (i := 5) (v := ?_) opn5 (by kernel_rfl) (by kernel_rfl) (by kernel_rfl) (fun _ _ _ h => h) (Or.inl ⟨by kernel_rfl, ?_⟩) (by assumption) ?_
      rotate_left 1
      · intro wz hSw
        try dsimp only at hSw
        obtain ⟨e0, e1, e2, e3, e4, e5, e6, e7, e8, e9, e10, e11, e12, e13, e14, e15⟩ := hSw
        go_simp
        all_goals with_reducible rfl
      try simp only [Act.put, List.setIfInBounds_toArray, List.set_cons_zero, List.set_cons_succ]
      refine wpAnyH_ready (rs := [6]) (by kernel_rfl) (by simp) ?_
      refine AllReadyH.cons opn6 (fun K hK => ?_) AllReadyH.nil
      rw [if_pos (by kernel_rfl)]
      go_simp
      refine (unhide HST).mono ?_
      rintro e w4 ⟨rfl, y4, hT⟩
      have hb4 := KGT.below (unhide HKD) hT
      have hx4 := (unhide HAT).same (hb4.block b (by omega))
      obtain ⟨v4, u4, h4, _, _⟩ := hT
      have HK4 := hide h4
      have HB4 := hide ((unhide HBD).trans hb4)
      clear h4 hb4
      refine hK.out _ _ hx4 (fun hHeldN => ?_)
      clear hHeld hK K
      have hHeld := hHeldN
      clear hHeldN
      try simp only [Act.put, List.setIfInBounds_toArray, List.set_cons_zero, List.set_cons_succ]
      refine wpAnyH_take (i := 7) (v := ?_) opn7 (by kernel_rfl) (by kernel_rfl) (by kernel_rfl) (fun _ _ _ h => h) (Or.inl ⟨by kernel_rfl, ?_⟩) (by assumption) ?_
      rotate_left 1
      · intro wz hSw
        try dsimp only at hSw
        go_simp
        all_goals with_reducible rfl
      try simp only [Act.put, List.setIfInBounds_toArray, List.set_cons_zero, List.set_cons_succ]
      refine wpAnyH_take (i := 8) (v := ?_) opn8 (by kernel_rfl) (by kernel_rfl) (by kernel_rfl) (fun _ _ _ h => h) (Or.inl ⟨by kernel_rfl, ?_⟩) (by assumption) ?_
      rotate_left 1
      · intro wz hSw
        try dsimp only at hSw
        go_simp
        all_goals with_reducible rfl
      try simp only [Act.put, List.setIfInBounds_toArray, List.set_cons_zero, List.set_cons_succ]
      refine wpAnyH_weak (S' := (fun wx => KStepAt wx b (off + q * 16) ⟨act, ⟨ck, ca, cb, ct⟩, ⟨r, pc, pn, ⟨pk, s1, s2, s3⟩, d, u2⟩, ad, au⟩ ∧ wx.cell? ⟨Y, 6, none⟩ = some (.bool c2.op))) (fun _ h => h.1) _ _ _ _ ?_
      replace hHeld := (show ((fun wx => KStepAt wx b (off + q * 16) ⟨act, ⟨ck, ca, cb, ct⟩, ⟨r, pc, pn, ⟨pk, s1, s2, s3⟩, d, u2⟩, ad, au⟩ ∧ wx.cell? ⟨Y, 6, none⟩ = some (.bool c2.op))) _ from ⟨hHeld, (unhide HK4).g.cell6⟩)
      refine wpAnyH_take (i := 9) (v := ?_) opn9 (by kernel_rfl) (by kernel_rfl) (by kernel_rfl) (fun _ _ _ h => h) (Or.inl ⟨by kernel_rfl, ?_⟩) (by assumption) ?_
      rotate_left 1
      · intro wz hSw
        try dsimp only at hSw
        go_simp
        all_goals with_reducible rfl
      try simp only [Act.put, List.setIfInBounds_toArray, List.set_cons_zero, List.set_cons_succ]
      refine wpAnyH_take (i := 11) (v := ?_) opn11 (by kernel_rfl) (by kernel_rfl) (by kernel_rfl) (fun _ _ _ h => h) (Or.inl ⟨by kernel_rfl, ?_⟩) (by assumption) ?_
      rotate_left 1
      · intro wz hSw
        try dsimp only at hSw
        go_simp
        all_goals with_reducible rfl
      try simp only [Act.put, List.setIfInBounds_toArray, List.set_cons_zero, List.set_cons_succ]
      refine wpAnyH_take (i := 12) (v := ?_) opn12 (by kernel_rfl) (by kernel_rfl) (by kernel_rfl) (fun _ _ _ h => h) (Or.inl ⟨by kernel_rfl, ?_⟩) (by assumption) ?_
      rotate_left 1
      · intro wz hSw
        try dsimp only at hSw
        go_simp
        all_goals with_reducible rfl
      try simp only [Act.put, List.setIfInBounds_toArray, List.set_cons_zero, List.set_cons_succ]
      refine wpAnyH_take (i := 13) (v := ?_) opn13 (by kernel_rfl) (by kernel_rfl) (by kernel_rfl) (fun _ _ _ h => h) (Or.inl ⟨by kernel_rfl, ?_⟩) (by assumption) ?_
      rotate_left 1
      · intro wz hSw
        try dsimp only at hSw
        go_simp
        all_goals with_reducible rfl
      try simp only [Act.put, List.setIfInBounds_toArray, List.set_cons_zero, List.set_cons_succ]
      refine wpAnyH_take (i := 14) (v := ?_) opn14 (by kernel_rfl) (by kernel_rfl) (by kernel_rfl) (fun _ _ _ h => h) (Or.inl ⟨by kernel_rfl, ?_⟩) (by assumption) ?_
      rotate_left 1
      · intro wz hSw
        try dsimp only at hSw
        have hq := hSw.2
        go_simp
        all_goals with_reducible rfl
      try simp only [Act.put, List.setIfInBounds_toArray, List.set_cons_zero, List.set_cons_succ]
      refine wpAnyH_ready (rs := [10]) (by kernel_rfl) (by simp) ?_
      refine AllReadyH.cons opn10 (fun K hK => ?_) AllReadyH.nil
      rw [if_pos (by kernel_rfl)]
      go_simp
      refine (Open_any (unhide HK4).k).mono ?_
      rintro e w4' ⟨rfl, hw4'⟩
      obtain rfl := hw4'.symm
      clear hw4'
      refine hK.out _ _ hHeld (fun hHeldN => ?_)
      clear hHeld hK K
      have hHeld := hHeldN
      clear hHeldN
      try simp only [Act.put, List.setIfInBounds_toArray, List.set_cons_zero, List.set_cons_succ]
      refine wpAnyH_take (i := 15) (v := ?_) opn15 (by kernel_rfl) (by kernel_rfl) (by kernel_rfl) (fun _ _ _ h => h) (Or.inl ⟨by kernel_rfl, ?_⟩) (by assumption) ?_
      rotate_left 1
      · intro wz hSw
        try dsimp only at hSw
        have hq : (c2.op != c2.op) = false := by simp
        go_simp
        all_goals with_reducible rfl
      try simp only [Act.put, List.setIfInBounds_toArray, List.set_cons_zero, List.set_cons_succ]
      refine wpAnyH_take (i := 16) (v := ?_) opn16 (by kernel_rfl) (by kernel_rfl) (by kernel_rfl) (fun _ _ _ h => h) (Or.inl ⟨by kernel_rfl, ?_⟩) (by assumption) ?_
      rotate_left 1
      · intro wz hSw
        try dsimp only at hSw
        go_simp
        all_goals with_reducible rfl
      try simp only [Act.put, List.setIfInBounds_toArray, List.set_cons_zero, List.set_cons_succ]
      refine wpAnyH_done (by kernel_rfl) ?_ _
      clear hHeld hx4
      have HS1 := hide (Send_any (unhide HK4).k)
      have HS2 : Hid (∀ W, Below w4.heap.size w4 W → Calls Try.prog 26 #[.pointer (some ⟨Y, 0, none⟩)] W fun e w' => e = .returned (.tuple #[c2.pkt.val, .bool c2.op]) ∧ Below W.heap.size W w') := fun W hW => GSend_any ((unhide HK4).below hW).g
      have eP := fun W => neqP c2.pkt c2.pkt W
      rw [pktB_self] at eP
      generalize c2.pkt = m at HS1 HS2 eP
      obtain ⟨op, hop⟩ : ∃ b, c2.op = b := ⟨_, rfl⟩
      rw [hop] at HS1 HS2
      clear hop
      obtain ⟨mr, mc, mn, ⟨mk, m1, m2, m3⟩, md, mu⟩ := m
      dsimp only [APkt.val, Bool.not_true] at HS1 HS2 eP
      go_wp2_with fail
      refine (unhide HS1).mono ?_
      rintro e w5 ⟨rfl, b5⟩
      obtain ⟨W5, hW5⟩ : ∃ W, W = w5.alloc (.cells #[.bool mr, .int .i64 mc, .int .i64 mn, .int .i64 mk, .string m1, .string m2, .string m3, .int .i64 md, .string mu] 33) := ⟨_, rfl⟩
      have hB5 : Below w4.heap.size w4 W5 := by rw [hW5]; exact b5.alloc b5.size _
      have hP5 : W5.heap[w5.heap.size]? = some (.cells #[.bool mr, .int .i64 mc, .int .i64 mn, .int .i64 mk, .string m1, .string m2, .string m3, .int .i64 md, .string mu] 33 (0, 0)) := by rw [hW5]; exact heap_alloc_new _ _
      have HB5 := hide hB5
      have HP5 := hide hP5
      have HW5 := hide hW5
      have hl5 : w5.heap.size < W5.heap.size := (Array.getElem?_eq_some_iff.1 hP5).1
      clear b5 hB5 hP5 hW5
      go_wp2_with fail
      rw [← unhide HW5]
      refine ((unhide HS2) _ (unhide HB5)).mono ?_
      rintro e w6 ⟨rfl, b6⟩
      have hP6 := (b6.block _ hl5).trans (unhide HP5)
      have hz6 := b6.size
      have hl6 : w5.heap.size < w6.heap.size := by omega
      obtain ⟨⟨p0, p1, p2, p3⟩, ⟨p4, p5, p6, p7, p8⟩, pf⟩ := nine hP6
      have hB6 : Below w4.heap.size w4 (w6.alloc (.cells #[.bool mr, .int .i64 mc, .int .i64 mn, .int .i64 mk, .string m1, .string m2, .string m3, .int .i64 md, .string mu] 33)) := ((unhide HB5).trans (b6.mono (unhide HB5).size)).alloc (by have := (unhide HB5).size; omega) _
      have HKZ := hide ((unhide HK4).below hB6)
      have HBZ := hide ((unhide HB4).trans (hB6.mono (unhide HB4).size))
      clear b6 hP6 hB6
      go_wp2
      go_roundw
      case rel => exact ⟨q + 1, v4, u4, c2, y4, by omega, by go_num, unhide HKZ, unhide HBZ⟩
      case measure => simp [intOf]; omega
    · have HDN := hide (Done_any ((unhide HK).below (below_drew wr)).k rfl)
      have HKD := hide ((unhide HK).below (below_drew wr))
      obtain ⟨n, hn⟩ : ∃ n, c.done.length = n := ⟨_, rfl⟩
      rw [hn] at HDN
      obtain ⟨a, cap, rfl⟩ := (unhide HK).g.o.form
      rw [hn] at HKD
      have HN := hide hn
      have hn2 : n ≤ 200 := by rw [← hn]; exact (unhide HK).k.ok.few
      have HBD : Hid (Below w.heap.size w wr.drew) := (unhide HBw).drew
      have hYl : Y < wr.heap.size := (unhide HK).g.o.lt
      clear hn
      go_wp2_with fail
      refine wp_region_held_drew (S := (fun wx => wx.cell? ⟨Y, 7, none⟩ = some (.slice a n cap))) (by kernel_rfl) (unhide HKD).g.cell7 (fun hHeld => ?_)
      refine wpAnyH_take (i := 0) (v := ?_) opn0 (by kernel_rfl) (by kernel_rfl) (by kernel_rfl) (fun _ _ _ h => h) (Or.inl ⟨by kernel_rfl, ?_⟩) (by assumption) ?_
      rotate_left 1
      · intro wz hSw
        try dsimp only at hSw
        go_simp
        all_goals with_reducible rfl
      try simp only [Act.put, List.setIfInBounds_toArray, List.set_cons_zero, List.set_cons_succ]
      refine wpAnyH_take (i := 2) (v := ?_) opn2 (by kernel_rfl) (by kernel_rfl) (by kernel_rfl) (fun _ _ _ h => h) (Or.inl ⟨by kernel_rfl, ?_⟩) (by assumption) ?_
      rotate_left 1
      · intro wz hSw
        try dsimp only at hSw
        go_simp
        all_goals with_reducible rfl
      try simp only [Act.put, List.setIfInBounds_toArray, List.set_cons_zero, List.set_cons_succ]
      refine wpAnyH_take (i := 3) (v := ?_) opn3 (by kernel_rfl) (by kernel_rfl) (by kernel_rfl) (fun _ _ _ h => h) (Or.inl ⟨by kernel_rfl, ?_⟩) (by assumption) ?_
      rotate_left 1
      · intro wz hSw
        try dsimp only at hSw
        go_simp
        all_goals with_reducible rfl
      try simp only [Act.put, List.setIfInBounds_toArray, List.set_cons_zero, List.set_cons_succ]
      refine wpAnyH_take (i := 4) (v := ?_) opn4 (by kernel_rfl) (by kernel_rfl) (by kernel_rfl) (fun _ _ _ h => h) (Or.inl ⟨by kernel_rfl, ?_⟩) (by assumption) ?_
      rotate_left 1
      · intro wz hSw
        try dsimp only at hSw
        go_simp
        all_goals with_reducible rfl
      try simp only [Act.put, List.setIfInBounds_toArray, List.set_cons_zero, List.set_cons_succ]
      refine wpAnyH_take (i := 5) (v := ?_) opn5 (by kernel_rfl) (by kernel_rfl) (by kernel_rfl) (fun _ _ _ h => h) (Or.inl ⟨by kernel_rfl, ?_⟩) (by assumption) ?_
      rotate_left 1
      · intro wz hSw
        try dsimp only at hSw
        have hq := hSw
        go_simp
        all_goals with_reducible rfl
      try simp only [Act.put, List.setIfInBounds_toArray, List.set_cons_zero, List.set_cons_succ]
      refine wpAnyH_ready (rs := [1]) (by kernel_rfl) (by simp) ?_
      refine AllReadyH.cons opn1 (fun K hK => ?_) AllReadyH.nil
      rw [if_pos (by kernel_rfl)]
      go_simp
      refine (unhide HDN).mono ?_
      rintro e w5 ⟨g, cp, rfl, ho, b5⟩
      have hx5 := (b5.cell (p := ⟨Y, 7, none⟩) hYl).trans (unhide HKD).g.cell7
      have HB5 := hide ((unhide HBD).trans (b5.mono (unhide HBD).size))
      have HSR := hide (SameRecords_eq (some ⟨g, 0, none⟩) a n cp cap c.done w5 (recs_row ho (unhide HN)) (recs_row (by have := ((unhide HKD).below b5).g.o.row; rw [unhide HN] at this; exact this) (unhide HN)) (by omega))
      clear ho b5
      refine hK.out _ _ hx5 (fun hHeldN => ?_)
      clear hHeld hK K
      have hHeld := hHeldN
      clear hHeldN
      try simp only [Act.put, List.setIfInBounds_toArray, List.set_cons_zero, List.set_cons_succ]
      refine wpAnyH_ready (rs := [6]) (by kernel_rfl) (by simp) ?_
      refine AllReadyH.cons opn6 (fun K hK => ?_) AllReadyH.nil
      rw [if_pos (by kernel_rfl)]
      go_simp
      refine (unhide HSR).mono ?_
      rintro e w6 ⟨rfl, b6⟩
      have hx6 := (b6.cell (p := ⟨Y, 7, none⟩) (World.block_lt_of_cell? _ _ hx5)).trans hx5
      have HB6 := hide ((unhide HB5).trans (b6.mono (unhide HB5).size))
      clear b6
      refine hK.out _ _ hx6 (fun hHeldN => ?_)
      clear hHeld hK K
      have hHeld := hHeldN
      clear hHeldN
      try simp only [Act.put, List.setIfInBounds_toArray, List.set_cons_zero, List.set_cons_succ]
      refine wpAnyH_take (i := 7) (v := ?_) opn7 (by kernel_rfl) (by kernel_rfl) (by kernel_rfl) (fun _ _ _ h => h) (Or.inl ⟨by kernel_rfl, ?_⟩) (by assumption) ?_
      rotate_left 1
      · intro wz hSw
        try dsimp only at hSw
        go_simp
        all_goals with_reducible rfl
      try simp only [Act.put, List.setIfInBounds_toArray, List.set_cons_zero, List.set_cons_succ]
      refine wpAnyH_done (by kernel_rfl) ?_ _
      clear hHeld hx5 hx6
      go_wp2
      go_ret
      exact ⟨rfl, unhide HB6⟩

end Go.Proofs.Ytfpommjolbipmab
