/- StoreRefuses holds: for all lists of steps and every step the statement postilionlaw.StoreRefuses returns true, and its arguments read behind it as they read before. No condition. -/
import Derived.Test.YtlndphpidkacgaaJ6
namespace Go.Proofs.Ytlndphpidkacgaa
open Go.RowKit
set_option linter.unusedSimpArgs false
set_option linter.unusedVariables false

/-- What stands while StoreRefuses goes on behind its steps: the store, the names that were, the numbers that were last. -/
structure RefSt (N : Nat) (w5 wc : World) (S B : Nat) (own : List Nat) (lv : Value) (L L0 : List ARec) (g cn M b : Nat) (cs : Array Value) : Prop where
  s : SRep N wc S B own lv L
  b5 : Below N w5 wc
  nm : wc.ownsRow 0 9 1 (.slice (some ⟨g, 0, none⟩) M cn) M ((sNames (behind L0)).map .string)
  gn : g ∉ sown S own lv
  lb : wc.heap[b]? = some (.cells cs 92 (0, 0))
  ln : b ∉ sown S own lv
  gl : g ≠ b
  lN : N ≤ b
theorem RefSt.set {N : Nat} {w5 wc : World} {S B : Nat} {own : List Nat} {lv : Value} {L L0 : List ARec} {g cn M b : Nat} {cs : Array Value} (h : RefSt N w5 wc S B own lv L L0 g cn M b cs) (hN : N ≤ wc.heap.size) (q : Nat) (v : Value) : RefSt N w5 (wc.setCell ⟨b, q, none⟩ v) S B own lv L L0 g cn M b (cs.setIfInBounds q v) := by
  have hk := kept_setCell [b] wc b q v (by simp)
  refine ⟨h.s.kept hk (fun k h1 h2 => ?_), h.b5.trans (hk.below hN (fun k h1 => ?_)), ownsRow_same h.nm (fun k h1 => ?_), h.gn, heap_setCell_same h.lb v, h.ln, h.gl, h.lN⟩
  · simp at h2; subst h2; exact h.ln h1
  · simp at h1; subst h1; exact h.lN
  · have : k = g := by simpa [Value.ownBlock] using h1.symm
    subst this
    exact Below.heap_setCell _ _ _ _ h.gl
theorem RefSt.below {N : Nat} {w5 wc wd : World} {S B : Nat} {own : List Nat} {lv : Value} {L L0 : List ARec} {g cn M b : Nat} {cs : Array Value} (h : RefSt N w5 wc S B own lv L L0 g cn M b cs) (hN : N ≤ wc.heap.size) (hb : Below wc.heap.size wc wd) : RefSt N w5 wd S B own lv L L0 g cn M b cs :=
  ⟨h.s.below hb, h.b5.trans (hb.mono hN), ownsRow_same h.nm (fun k h1 => hb.block k (h.nm.lt k h1).2), h.gn, (hb.block b (Array.getElem?_eq_some_iff.1 h.lb).1).trans h.lb, h.ln, h.gl, h.lN⟩
theorem RefSt.turn {N : Nat} {w5 wc wd : World} {S B B' : Nat} {own own' : List Nat} {lv lv' : Value} {L L' L0 : List ARec} {g cn M b : Nat} {cs : Array Value} (h : RefSt N w5 wc S B own lv L L0 g cn M b cs) (hs : SRep N wd S B' own' lv' L') (hn : Next N wc wd (sown S own lv) (sown S own' lv')) : RefSt N w5 wd S B' own' lv' L' L0 g cn M b cs := by
  have hg := (h.nm.lt g rfl).2
  have hb := (Array.getElem?_eq_some_iff.1 h.lb).1
  refine ⟨hs, h.b5.trans hn.below, ownsRow_same h.nm (fun k h1 => ?_), (hn.keep g hg h.gn).1, (hn.keep b hb h.ln).2.trans h.lb, (hn.keep b hb h.ln).1, h.gl, h.lN⟩
  have : k = g := by simpa [Value.ownBlock] using h1.symm
  subst this
  exact (hn.keep _ hg h.gn).2

set_option maxRecDepth 100000 in
set_option maxHeartbeats 8000000 in
theorem refuses_walk (a0 : Option Addr) (n0 c0 : Nat) (ls : List AStep) (x : AStep) (w : World) (hl : StepsAt w a0 n0 ls) (hx1 : x.call.name.size ≤ maxLen) (hx2 : x.call.dst.size ≤ maxLen) (hx3 : x.call.text.size ≤ maxLen) :
    Calls Try.prog 14 #[.slice a0 n0 c0, x.val] w fun e w' => e = .returned (.bool true) ∧ Below w.heap.size w w' := by
  have hB0 : Below w.heap.size w (w.alloc (.cells (xcells x).toArray 81)) := (Below.refl _ _).alloc (Nat.le_refl _) _
  have hX0 : (w.alloc (.cells (xcells x).toArray 81)).heap[w.heap.size]? = some (.cells (xcells x).toArray 81 (0, 0)) := heap_alloc_new w _
  have HBG := hide storeBegun_any
  have HG0 := hide (fun W (h : Below w.heap.size w W) => greatStore_any a0 n0 c0 ls W (hl.below h))
  have HGC := hide (fun W => greatCall_any x.call.kind x.call.name x.call.dst x.call.text W)
  have HIC := hide (fun W => IsChange_any x.call.kind W)
  have HNW := hide (fun W => SNew_any W)
  have HL := hide hl
  have HB0 := hide hB0
  have HX0 := hide hX0
  have hn0 := hl.2.1
  unfold maxLen at hn0
  have HSZ := hide (And.intro hx1 (And.intro hx2 hx3))
  clear hB0 hX0 hl hx1 hx2 hx3
  obtain ⟨xa, xc, xn, xp, ⟨xk, xs1, xs2, xs3⟩⟩ := x
  dsimp only [AStep.val, xcells] at *
  go_enter Try.func14, Try.ntmps14
  go_wp2_with fail
  refine ((unhide HBG) _).mono ?_
  rintro e w1 ⟨rfl, b1⟩
  have HX1 := hide ((b1.block w.heap.size (by simp)).trans (unhide HX0))
  have HB1 := hide ((unhide HB0).trans (b1.mono (unhide HB0).size))
  have hz1 : w.heap.size < w1.heap.size := (Array.getElem?_eq_some_iff.1 (unhide HX1)).1
  clear b1
  go_wp2_with fail
  refine ((unhide HG0) _ (unhide HB1)).mono ?_
  rintro e w2 ⟨⟨r2, rfl⟩, b2⟩
  have HX2 := hide ((b2.block w.heap.size hz1).trans (unhide HX1))
  have HB2 := hide ((unhide HB1).trans (b2.mono (unhide HB1).size))
  have hz2 : w.heap.size < w2.heap.size := (Array.getElem?_eq_some_iff.1 (unhide HX2)).1
  clear b2
  cases r2
  case true =>
    go_wp2
    go_ret
    exact ⟨rfl, unhide HB2⟩
  obtain ⟨⟨x0, x1, x2, x3⟩, ⟨x4, x5, x6, x7⟩, _⟩ := eight (unhide HX2)
  go_wp2_with fail
  refine ((unhide HGC) _).mono ?_
  rintro e w5 ⟨⟨r4, rfl⟩, b4⟩
  clear x0 x1 x2 x3 x4 x5 x6 x7
  have HX4 := hide ((b4.block w.heap.size hz2).trans (unhide HX2))
  have HB4 := hide ((unhide HB2).trans (b4.mono (unhide HB2).size))
  have hz4 : w.heap.size < w5.heap.size := (Array.getElem?_eq_some_iff.1 (unhide HX4)).1
  clear b4
  cases r4
  case true =>
    go_wp2
    go_ret
    exact ⟨rfl, unhide HB4⟩
  go_wp2_with fail
  refine ((unhide HNW) _).mono ?_
  rintro e w6 ⟨S, B6, own6, lv6, rfl, hs6, b6⟩
  have hp := Pair.start hs6 b6.size
  have HP6 := hide hp
  have HB6 : Hid (Below w5.heap.size w5 (w6.alloc (.cells #[.slice none 0 0] 78))) := b6.alloc b6.size _
  clear hs6 b6 hp
  go_wp2_with fail
  go_loopw [7] (fun i wr => ∃ (q B : Nat) (own : List Nat) (lv rv : Value) (L : List ARec), q ≤ n0 ∧ i = .int .i64 (q : Int) ∧ Hid (Pair w5.heap.size wr S B own lv L w6.heap.size rv L) ∧ Hid (Below w5.heap.size w5 wr)) (fun i _ => n0 - (intOf i).toNat)
  case atStart => exact ⟨0, B6, own6, lv6, _, [], Nat.zero_le _, rfl, unhide HP6, unhide HB6⟩
  case round =>
    obtain ⟨q, B, own, lv, rv, L, hq, rfl, HP, HB⟩ := hrel
    have HBw := hide ((unhide HB4).trans ((unhide HB).mono (unhide HB4).size))
    by_cases hlt : (q : Int) < (n0 : Int)
    · obtain ⟨y, hy⟩ : ∃ y, ls[q]? = some y := ⟨_, List.getElem?_eq_getElem (by rw [(unhide HL).1]; omega)⟩
      obtain ⟨b, off, rfl, hc⟩ := ((unhide HL).below (unhide HBw)).2.2.2 (by omega)
      obtain ⟨g0, g1, g2, g3, g4, g5, g6, g7⟩ := hc q y hy
      have hsz := (unhide HL).2.2.1 y (List.mem_of_getElem? hy)
      have HST := hide (storeStep_any (unhide HP) y (unhide HB).size hsz.1 hsz.2.1 hsz.2.2)
      generalize aStep L y = L2 at HST
      clear hc hy hsz
      obtain ⟨ya, yc, yn, yp, ⟨yk, ys1, ys2, ys3⟩⟩ := y
      dsimp only [AStep.val] at *
      go_wp2_with fail
      refine (unhide HST).mono ?_
      rintro e w7 ⟨⟨v, rfl, _⟩, B7, own7, lv7, rv7, hp7, hn7⟩
      have HP7 := hide hp7
      have HB7 := hide ((unhide HB).trans hn7.below)
      clear hp7 hn7
      go_wp2
      go_roundw
      case rel => exact ⟨q + 1, B7, own7, lv7, rv7, L2, by omega, by go_num, unhide HP7, unhide HB7⟩
      case measure => simp [intOf]; omega
    · have hss := (unhide HP).ss
      obtain ⟨T, hT⟩ : ∃ T, (logB L).length = T := ⟨_, rfl⟩
      have HTT := hide hT
      obtain ⟨M, hM⟩ : ∃ M, (behind L).length = M := ⟨_, rfl⟩
      have HMM := hide hM
      have hM1000 := behind_few L hM
      obtain ⟨sL, hsL⟩ : ∃ s : ByteArray, s = ⟨(logB L).toArray⟩ := ⟨_, rfl⟩
      have HSL := hide hsL
      clear hT hM hsL
      go_wp2_with fail
      refine wp_region_held_drew (S := (fun wx => SRep w5.heap.size wx S B own lv L ∧ Below wr.heap.size wr wx)) (by kernel_rfl) ⟨(unhide HP).s.below (below_dr wr), below_dr wr⟩ (fun hHeld => ?_)
      refine wpAnyH_take (i := 0) (v := ?_) opn0 (by kernel_rfl) (by kernel_rfl) (by kernel_rfl) (fun _ _ _ h => h) (Or.inl ⟨by rfl, ?_⟩) (by assumption) ?_
      rotate_left 1
      · intro wz hSw
        try dsimp only at hSw
        go_simp
        all_goals with_reducible rfl
      try simp only [Act.put, List.setIfInBounds_toArray, List.set_cons_zero, List.set_cons_succ]
      refine wpAnyH_take (i := 3) (v := ?_) opn3 (by kernel_rfl) (by kernel_rfl) (by kernel_rfl) (fun _ _ _ h => h) (Or.inl ⟨by rfl, ?_⟩) (by assumption) ?_
      rotate_left 1
      · intro wz hSw
        try dsimp only at hSw
        go_simp
        all_goals with_reducible rfl
      try simp only [Act.put, List.setIfInBounds_toArray, List.set_cons_zero, List.set_cons_succ]
      refine wpAnyH_take (i := 4) (v := ?_) opn4 (by kernel_rfl) (by kernel_rfl) (by kernel_rfl) (fun _ _ _ h => h) (Or.inl ⟨by rfl, ?_⟩) (by assumption) ?_
      rotate_left 1
      · intro wz hSw
        try dsimp only at hSw
        go_simp
        all_goals with_reducible rfl
      try simp only [Act.put, List.setIfInBounds_toArray, List.set_cons_zero, List.set_cons_succ]
      refine wpAnyH_take (i := 5) (v := ?_) opn5 (by kernel_rfl) (by kernel_rfl) (by kernel_rfl) (fun _ _ _ h => h) (Or.inl ⟨by rfl, ?_⟩) (by assumption) ?_
      rotate_left 1
      · intro wz hSw
        try dsimp only at hSw
        go_simp
        all_goals with_reducible rfl
      try simp only [Act.put, List.setIfInBounds_toArray, List.set_cons_zero, List.set_cons_succ]
      refine wpAnyH_take (i := 6) (v := ?_) opn6 (by kernel_rfl) (by kernel_rfl) (by kernel_rfl) (fun _ _ _ h => h) (Or.inl ⟨by rfl, ?_⟩) (by assumption) ?_
      rotate_left 1
      · intro wz hSw
        try dsimp only at hSw
        have hq := hSw.1.ptr
        go_simp
        all_goals with_reducible rfl
      try simp only [Act.put, List.setIfInBounds_toArray, List.set_cons_zero, List.set_cons_succ]
      refine wpAnyH_ready (rs := [1]) (by kernel_rfl) (by simp) ?_
      refine AllReadyH.cons opn1 (fun K hK => ?_) AllReadyH.nil
      go_simp
      refine (Log_T hHeld.1 hss (unhide HTT)).mono ?_
      rintro e w8 ⟨la, lc, rfl, ol, b8⟩
      have hbr : BRow w8 0 (.slice la T lc) (logB L) := ownsRow_base ol (Nat.zero_le _)
      refine hK.out _ _ ⟨hHeld.1.below b8, hHeld.2.trans (b8.mono hHeld.2.size)⟩ (fun hHeldN => ?_)
      clear hHeld hK K
      have hHeld := hHeldN
      clear hHeldN
      try simp only [Act.put, List.setIfInBounds_toArray, List.set_cons_zero, List.set_cons_succ]
      refine wpAnyH_weak (S' := fun wx => (SRep w5.heap.size wx S B own lv L ∧ Below wr.heap.size wr wx) ∧ BRow wx 0 (.slice la T lc) (logB L)) (fun _ h => h.1) _ _ _ _ ?_
      replace hHeld := (show (fun wx => (SRep w5.heap.size wx S B own lv L ∧ Below wr.heap.size wr wx) ∧ BRow wx 0 (.slice la T lc) (logB L)) _ from ⟨hHeld, hbr⟩)
      refine wpAnyH_take (i := 2) (v := ?_) opn2 (by kernel_rfl) (by kernel_rfl) (by kernel_rfl) (fun _ _ _ h => h) (Or.inl ⟨by rfl, ?_⟩) (by assumption) ?_
      rotate_left 1
      · intro wz hSw
        try dsimp only at hSw
        have hq : (convert 48 9 (.slice la T lc)).run Try.prog wz = .ok (.string sL) wz := by rw [unhide HSL]; exact conv_row hSw.2 (unhide HTT)
        go_simp
        all_goals with_reducible rfl
      try simp only [Act.put, List.setIfInBounds_toArray, List.set_cons_zero, List.set_cons_succ]
      refine wpAnyH_ready (rs := [7]) (by kernel_rfl) (by simp) ?_
      refine AllReadyH.cons opn7 (fun K hK => ?_) AllReadyH.nil
      go_simp
      refine (Names_M hHeld.1.1.files (unhide HMM)).mono ?_
      rintro e w9 ⟨g, cn, rfl, on, b9⟩
      have hgz : w8.heap.size ≤ g := (on.lt g rfl).1
      have hz8 : wr.heap.size ≤ w8.heap.size := hHeld.1.2.size
      have hon : w9.ownsRow 0 9 1 (.slice (some ⟨g, 0, none⟩) M cn) M ((sNames (behind L)).map .string) := ownsRow_base on (Nat.zero_le _)
      refine hK.out _ _ ⟨⟨hHeld.1.1.below b9, hHeld.1.2.trans (b9.mono hHeld.1.2.size)⟩, hHeld.2.below b9⟩ (fun hHeldN => ?_)
      clear hHeld hK K
      have hHeld := hHeldN
      clear hHeldN
      try simp only [Act.put, List.setIfInBounds_toArray, List.set_cons_zero, List.set_cons_succ]
      refine wpAnyH_take (i := 8) (v := ?_) opn8 (by kernel_rfl) (by kernel_rfl) (by kernel_rfl) (fun _ _ _ h => h) (Or.inl ⟨by rfl, ?_⟩) (by assumption) ?_
      rotate_left 1
      · intro wz hSw
        try dsimp only at hSw
        go_simp
        all_goals with_reducible rfl
      try simp only [Act.put, List.setIfInBounds_toArray, List.set_cons_zero, List.set_cons_succ]
      refine wpAnyH_take (i := 9) (v := ?_) opn9 (by kernel_rfl) (by kernel_rfl) (by kernel_rfl) (fun _ _ _ h => h) (Or.inl ⟨by rfl, ?_⟩) (by assumption) ?_
      rotate_left 1
      · intro wz hSw
        try dsimp only at hSw
        go_simp
        all_goals with_reducible rfl
      try simp only [Act.put, List.setIfInBounds_toArray, List.set_cons_zero, List.set_cons_succ]
      refine wpAnyH_done (by kernel_rfl) ?_ _
      have hgn : g ∉ sown S own lv := fun hm => by have := (sown_ge (unhide HP).s g hm).2; omega
      have hbn : w9.heap.size ∉ sown S own lv := fun hm => by have := (sown_ge hHeld.1.1 _ hm).2; omega
      have hz9 : wr.heap.size ≤ w9.heap.size := hHeld.1.2.size
      have hzr : w5.heap.size ≤ wr.heap.size := (unhide HB).size
      have hR0 : RefSt w5.heap.size w5 (w9.alloc (.cells #[.int .i64 0, .int .i64 0, .int .i64 0] 92)) S B own lv L L g cn M w9.heap.size #[.int .i64 0, .int .i64 0, .int .i64 0] := by
        have hba : Below w9.heap.size w9 (w9.alloc (.cells #[.int .i64 0, .int .i64 0, .int .i64 0] 92)) := (Below.refl _ _).alloc (Nat.le_refl _) _
        have hbw : Below w5.heap.size w5 w9 := (unhide HB).trans (hHeld.1.2.mono hzr)
        have hglt := (hon.lt g rfl).2
        exact ⟨hHeld.1.1.below hba, hbw.trans (hba.mono (by omega)), ownsRow_same hon (fun k h1 => hba.block k (hon.lt k h1).2), hgn, heap_alloc_new _ _, hbn, by omega, by omega⟩
      have HR0 := hide hR0
      clear hR0 hHeld hon hgn hbn hgz hz8 on b8 b9 ol hbr
      go_wp2_with fail
      go_loopw [11] (fun i wc => ∃ (q1 : Nat) (cs : Array Value), q1 ≤ 3 ∧ i = .int .i64 (q1 : Int) ∧ Hid (RefSt w5.heap.size w5 wc S B own lv L L g cn M w9.heap.size cs) ∧ Hid (cs.size = 3 ∧ ∀ j : Nat, j < q1 → cs[j]? = some (.int .i64 (lastR L j).no))) (fun i _ => 3 - (intOf i).toNat)
      case atStart => exact ⟨0, _, Nat.zero_le _, rfl, unhide HR0, rfl, fun j h => absurd h (Nat.not_lt_zero _)⟩
      case round =>
        obtain ⟨q1, cs, hq1, rfl, HR, HCC⟩ := hrel
        by_cases hlt1 : (q1 : Int) < 3
        · have hls := SLast_any (unhide HR).s (q1 : Int)
          rw [if_neg (by omega)] at hls
          obtain ⟨ln, hln⟩ : ∃ n, (lastR L (q1 : Int)).no = n := ⟨_, rfl⟩
          rw [hln] at hls
          have HLS := hide hls
          have HLN := hide hln
          obtain ⟨u, hu⟩ : ∃ u, cs[q1]? = some u := ⟨_, Array.getElem?_eq_getElem (by rw [(unhide HCC).1]; omega)⟩
          have hcell : wr.cell? ⟨w9.heap.size, q1, none⟩ = some u := by rw [cell_of_row wr w9.heap.size q1 _ _ _ (unhide HR).lb]; exact hu
          have hfroz : wr.frozen? ⟨w9.heap.size, q1, none⟩ = false := frozen_of_row wr w9.heap.size q1 _ _ (unhide HR).lb
          have HR2 := hide ((unhide HR).set (unhide HR).b5.size q1 (.int .i64 ln))
          clear hls hln hu
          go_wp2_with fail
          refine (unhide HLS).mono ?_
          rintro e wd ⟨rfl, rfl⟩
          go_wp2
          go_roundw
          case rel =>
            refine ⟨q1 + 1, _, by omega, by go_num, unhide HR2, by simp [(unhide HCC).1], fun j hj => ?_⟩
            rw [Array.getElem?_setIfInBounds]
            split
            · rename_i h; subst h; rw [if_pos (by rw [(unhide HCC).1]; omega), unhide HLN]
            · exact (unhide HCC).2 j (by omega)
          case measure => simp [intOf]; omega
        · obtain rfl : q1 = 3 := by omega
          have HXc := hide (((unhide HR).b5.block w.heap.size hz4).trans (unhide HX4))
          by_cases hxa : xa = 1
          · have hxa1 : (xa == 1) = true := by simpa using hxa
            clear hxa
            obtain ⟨⟨x0, x1, x2, x3⟩, ⟨x4, x5, x6, x7⟩, _⟩ := eight (unhide HXc)
            have hcm := came_tear (unhide HR).s.good hss xc xn xp ⟨xk, xs1, xs2, xs3⟩
            have hcs := STear_any (unhide HR).s xc xn xp ⟨xk, xs1, xs2, xs3⟩ hss (unhide HR).b5.size (unhide HSZ).1 (unhide HSZ).2.1 (unhide HSZ).2.2
            generalize aTear L xc xn ⟨xk, xs1, xs2, xs3⟩ xp = R at hcs hcm
            obtain ⟨ee, L'⟩ := R
            dsimp only at hcs hcm
            have HCM := hide hcm
            have HCS := hide hcs
            clear hcm hcs
            go_wp2_with fail
            refine (unhide HCS).mono ?_
            rintro e wt ⟨rfl, hT⟩
            obtain ⟨B', own', lv', hs', hn'⟩ := hT
            have HRt := hide ((unhide HR).turn hs' hn')
            have hXt := ((unhide HRt).b5.block w.heap.size hz4).trans (unhide HX4)
            have HXt := hide hXt
            have hzt : w5.heap.size ≤ wt.heap.size := (unhide HRt).b5.size
            clear hs' hn' x0 x1 x2 x3 x4 x5 x6 x7 HCS hXt
            by_cases hee : ee = 0
            · subst hee
              obtain ⟨⟨x0, x1, x2, x3⟩, ⟨x4, x5, x6, x7⟩, _⟩ := eight (unhide HXt)
              go_wp2_with fail
              refine ((unhide HIC) _).mono ?_
              rintro e wi ⟨rfl, hwi⟩
              have hwi2 := hwi.symm
              clear hwi
              subst hwi2
              clear x0 x1 x2 x3 x4 x5 x6 x7
              rcases hch : changesB xk with _ | _
              · rw [hch] at HCM
                obtain rfl : L' = L := (unhide HCM).same (.inr rfl)
                go_wp2_with fail
                go_loopw [13] (fun i wl => ∃ (q : Nat), q ≤ 3 ∧ i = .int .i64 (q : Int) ∧ Hid (RefSt w5.heap.size w5 wl S B' own' lv' L' L' g cn M w9.heap.size cs)) (fun i _ => 3 - (intOf i).toNat)
                case atStart => exact ⟨0, Nat.zero_le _, rfl, unhide HRt⟩
                case round =>
                  obtain ⟨q3, hq3, rfl, HR3⟩ := hrel
                  by_cases hlt3 : (q3 : Int) < 3
                  · have hcell : wr.cell? ⟨w9.heap.size, q3, none⟩ = some (.int .i64 (lastR L' q3).no) := by rw [cell_of_row wr w9.heap.size q3 _ _ _ (unhide HR3).lb]; exact (unhide HCC).2 q3 (by omega)
                    obtain ⟨ln, hln⟩ : ∃ n, (lastR L' (q3 : Int)).no = n := ⟨_, rfl⟩
                    rw [hln] at hcell
                    have HLN3 := hide hln
                    have hneq : (ln != ln) = false := by simp
                    clear hln
                    go_wp2_with fail
                    refine wp_region_held_drew (S := (fun wx => SRep w5.heap.size wx S B' own' lv' L' ∧ wx.cell? ⟨w9.heap.size, q3, none⟩ = some (.int .i64 ln) ∧ wx = wr.drew)) (by kernel_rfl) ⟨(unhide HR3).s.below (below_dr wr), hcell, rfl⟩ (fun hHeld => ?_)
                    refine wpAnyH_take (i := 0) (v := ?_) opn0 (by kernel_rfl) (by kernel_rfl) (by kernel_rfl) (fun _ _ _ h => h) (Or.inl ⟨by rfl, ?_⟩) (by assumption) ?_
                    rotate_left 1
                    · intro wz hSw
                      try dsimp only at hSw
                      go_simp
                      all_goals with_reducible rfl
                    try simp only [Act.put, List.setIfInBounds_toArray, List.set_cons_zero, List.set_cons_succ]
                    refine wpAnyH_take (i := 1) (v := ?_) opn1 (by kernel_rfl) (by kernel_rfl) (by kernel_rfl) (fun _ _ _ h => h) (Or.inl ⟨by rfl, ?_⟩) (by assumption) ?_
                    rotate_left 1
                    · intro wz hSw
                      try dsimp only at hSw
                      go_simp
                      all_goals with_reducible rfl
                    try simp only [Act.put, List.setIfInBounds_toArray, List.set_cons_zero, List.set_cons_succ]
                    refine wpAnyH_take (i := 3) (v := ?_) opn3 (by kernel_rfl) (by kernel_rfl) (by kernel_rfl) (fun _ _ _ h => h) (Or.inl ⟨by rfl, ?_⟩) (by assumption) ?_
                    rotate_left 1
                    · intro wz hSw
                      try dsimp only at hSw
                      go_simp
                      all_goals with_reducible rfl
                    try simp only [Act.put, List.setIfInBounds_toArray, List.set_cons_zero, List.set_cons_succ]
                    refine wpAnyH_take (i := 4) (v := ?_) opn4 (by kernel_rfl) (by kernel_rfl) (by kernel_rfl) (fun _ _ _ h => h) (Or.inl ⟨by rfl, ?_⟩) (by assumption) ?_
                    rotate_left 1
                    · intro wz hSw
                      try dsimp only at hSw
                      go_simp
                      all_goals with_reducible rfl
                    try simp only [Act.put, List.setIfInBounds_toArray, List.set_cons_zero, List.set_cons_succ]
                    refine wpAnyH_take (i := 5) (v := ?_) opn5 (by kernel_rfl) (by kernel_rfl) (by kernel_rfl) (fun _ _ _ h => h) (Or.inl ⟨by rfl, ?_⟩) (by assumption) ?_
                    rotate_left 1
                    · intro wz hSw
                      try dsimp only at hSw
                      have hq := hSw.2.1
                      go_simp
                      all_goals with_reducible rfl
                    try simp only [Act.put, List.setIfInBounds_toArray, List.set_cons_zero, List.set_cons_succ]
                    refine wpAnyH_ready (rs := [2]) (by kernel_rfl) (by simp) ?_
                    refine AllReadyH.cons opn2 (fun K hK => ?_) AllReadyH.nil
                    go_simp
                    refine (SLast_any hHeld.1 (q3 : Int)).mono ?_
                    rintro e w12 ⟨rfl, rfl⟩
                    rw [if_neg (by omega), unhide HLN3]
                    refine hK.out _ _ hHeld (fun hHeldN => ?_)
                    clear hHeld hK K
                    have hHeld := hHeldN
                    clear hHeldN
                    try simp only [Act.put, List.setIfInBounds_toArray, List.set_cons_zero, List.set_cons_succ]
                    refine wpAnyH_take (i := 6) (v := ?_) opn6 (by kernel_rfl) (by kernel_rfl) (by kernel_rfl) (fun _ _ _ h => h) (Or.inl ⟨by rfl, ?_⟩) (by assumption) ?_
                    rotate_left 1
                    · intro wz hSw
                      try dsimp only at hSw
                      go_simp
                      all_goals with_reducible rfl
                    try simp only [Act.put, List.setIfInBounds_toArray, List.set_cons_zero, List.set_cons_succ]
                    refine wpAnyH_done (by kernel_rfl) ?_ _
                    have HR4 := hide ((unhide HR3).below (unhide HR3).b5.size (below_dr wr))
                    clear hHeld
                    go_wp2
                    go_roundw
                    case rel => exact ⟨q3 + 1, by omega, by go_num, unhide HR4⟩
                    case measure => simp [intOf]; omega
                  · have HB12 := hide (Below.refl wr.heap.size wr)
                    go_wp2_with fail
                    refine (Log_T (unhide HR3).s (unhide HCM).ss (unhide HTT)).mono ?_
                    rintro e w13 ⟨la2, lc2, rfl, ol2, b13⟩
                    have hcv2 : (convert 48 9 (.slice la2 T lc2)).run Try.prog w13 = .ok (.string sL) w13 := by rw [unhide HSL]; exact conv_row ol2 (unhide HTT)
                    have hsq : (sL.toList == sL.toList) = true := by simp
                    have HR13 := hide ((unhide HR3).below (unhide HR3).b5.size b13)
                    have hptr := (unhide HR13).s.ptr
                    clear ol2 b13
                    go_wp2_with fail
                    refine (Names_M (unhide HR13).s.files (unhide HMM)).mono ?_
                    rintro e w14 ⟨g2, cn2, rfl, on2, b14⟩
                    have HR14 := hide ((unhide HR13).below (unhide HR13).b5.size b14)
                    have HS14 := hide (SameTexts_any (some ⟨g2, 0, none⟩) (some ⟨g, 0, none⟩) M M cn2 cn _ _ w14 (ownsRow_base on2 (Nat.zero_le _)) (unhide HR14).nm hM1000 hM1000)
                    clear on2 b14 hptr hcv2
                    go_wp2_with fail
                    refine (unhide HS14).mono ?_
                    rintro e w15 ⟨rfl, b15⟩
                    have hb15 := (unhide HR14).b5.trans (b15.mono (unhide HR14).b5.size)
                    have HB15 := hide ((unhide HB4).trans (hb15.mono (unhide HB4).size))
                    try rw [decide_eq_true (rfl : sNames (behind L') = sNames (behind L'))]
                    try simp only [decide_true]
                    clear b15 hb15
                    go_wp2
                    go_ret
                    exact ⟨rfl, unhide HB15⟩
              · rw [hch] at HCM
                obtain ⟨hr0, hr2⟩ := (unhide HCM).range rfl rfl
                obtain ⟨c, rfl⟩ : ∃ c : Nat, xc = (c : Int) := ⟨xc.toNat, by omega⟩
                obtain ⟨⟨x0, x1, x2, x3⟩, ⟨x4, x5, x6, x7⟩, _⟩ := eight (unhide HXt)
                have hcell : wt.cell? ⟨w9.heap.size, c, none⟩ = some (.int .i64 (lastR L c).no) := by rw [cell_of_row wt w9.heap.size c _ _ _ (unhide HRt).lb]; exact (unhide HCC).2 c (by omega)
                have hle := (unhide HCM).last c
                have hlen := (unhide HCM).len
                obtain ⟨T2, hT2⟩ : ∃ T, (logB L').length = T := ⟨_, rfl⟩
                rw [hT2, unhide HTT] at hlen
                have HT2 := hide hT2
                obtain ⟨lnew, hlnew⟩ : ∃ n, (lastR L' (c : Int)).no = n := ⟨_, rfl⟩
                have HLNW := hide hlnew
                rw [hlnew] at hle
                generalize (lastR L (c : Int)).no = ln at hcell hle
                have hsz : sL.size = T := by rw [unhide HSL]; show (logB L).toArray.size = T; rw [List.size_toArray]; exact unhide HTT
                have hmn : min (c : Int) 2 = c := by omega
                have hmx : max 0 (c : Int) = c := by omega
                have hc3 : (c : Int) < 3 := by omega
                have hge1 : ln ≤ lnew := hle
                have hge2 : (T : Int) ≤ (T2 : Int) := by omega
                clear hle hlen hT2 hlnew
                go_wp2_with fail
                refine wp_region_held_drew (S := (fun wx => SRep w5.heap.size wx S B' own' lv' L' ∧ Below wt.heap.size wt wx ∧ wx.cell? ⟨w.heap.size, 1, none⟩ = some (.int .i64 (c : Int)) ∧ wx.cell? ⟨w9.heap.size, c, none⟩ = some (.int .i64 ln))) (by kernel_rfl) ⟨(unhide HRt).s.below (below_dr wt), below_dr wt, x1, hcell⟩ (fun hHeld => ?_)
                clear x0 x1 x2 x3 x4 x5 x6 x7 hcell
                refine wpAnyH_take (i := 0) (v := ?_) opn0 (by kernel_rfl) (by kernel_rfl) (by kernel_rfl) (fun _ _ _ h => h) (Or.inl ⟨by rfl, ?_⟩) (by assumption) ?_
                rotate_left 1
                · intro wz hSw
                  try dsimp only at hSw
                  go_simp
                  all_goals with_reducible rfl
                try simp only [Act.put, List.setIfInBounds_toArray, List.set_cons_zero, List.set_cons_succ]
                refine wpAnyH_take (i := 1) (v := ?_) opn1 (by kernel_rfl) (by kernel_rfl) (by kernel_rfl) (fun _ _ _ h => h) (Or.inl ⟨by rfl, ?_⟩) (by assumption) ?_
                rotate_left 1
                · intro wz hSw
                  try dsimp only at hSw
                  go_simp
                  all_goals with_reducible rfl
                try simp only [Act.put, List.setIfInBounds_toArray, List.set_cons_zero, List.set_cons_succ]
                refine wpAnyH_take (i := 2) (v := ?_) opn2 (by kernel_rfl) (by kernel_rfl) (by kernel_rfl) (fun _ _ _ h => h) (Or.inl ⟨by rfl, ?_⟩) (by assumption) ?_
                rotate_left 1
                · intro wz hSw
                  try dsimp only at hSw
                  have hq := hSw.2.2.1
                  go_simp
                  all_goals with_reducible rfl
                try simp only [Act.put, List.setIfInBounds_toArray, List.set_cons_zero, List.set_cons_succ]
                refine wpAnyH_take (i := 4) (v := ?_) opn4 (by kernel_rfl) (by kernel_rfl) (by kernel_rfl) (fun _ _ _ h => h) (Or.inl ⟨by rfl, ?_⟩) (by assumption) ?_
                rotate_left 1
                · intro wz hSw
                  try dsimp only at hSw
                  go_simp
                  all_goals with_reducible rfl
                try simp only [Act.put, List.setIfInBounds_toArray, List.set_cons_zero, List.set_cons_succ]
                refine wpAnyH_take (i := 5) (v := ?_) opn5 (by kernel_rfl) (by kernel_rfl) (by kernel_rfl) (fun _ _ _ h => h) (Or.inl ⟨by rfl, ?_⟩) (by assumption) ?_
                rotate_left 1
                · intro wz hSw
                  try dsimp only at hSw
                  have hq := hSw.2.2.1
                  go_simp
                  all_goals with_reducible rfl
                try simp only [Act.put, List.setIfInBounds_toArray, List.set_cons_zero, List.set_cons_succ]
                refine wpAnyH_take (i := 6) (v := ?_) opn6 (by kernel_rfl) (by kernel_rfl) (by kernel_rfl) (fun _ _ _ h => h) (Or.inl ⟨by rfl, ?_⟩) (by assumption) ?_
                rotate_left 1
                · intro wz hSw
                  try dsimp only at hSw
                  go_simp
                  all_goals with_reducible rfl
                try simp only [Act.put, List.setIfInBounds_toArray, List.set_cons_zero, List.set_cons_succ]
                refine wpAnyH_take (i := 7) (v := ?_) opn7 (by kernel_rfl) (by kernel_rfl) (by kernel_rfl) (fun _ _ _ h => h) (Or.inl ⟨by rfl, ?_⟩) (by assumption) ?_
                rotate_left 1
                · intro wz hSw
                  try dsimp only at hSw
                  go_simp
                  all_goals with_reducible rfl
                try simp only [Act.put, List.setIfInBounds_toArray, List.set_cons_zero, List.set_cons_succ]
                refine wpAnyH_take (i := 8) (v := ?_) opn8 (by kernel_rfl) (by kernel_rfl) (by kernel_rfl) (fun _ _ _ h => h) (Or.inl ⟨by rfl, ?_⟩) (by assumption) ?_
                rotate_left 1
                · intro wz hSw
                  try dsimp only at hSw
                  go_simp
                  all_goals with_reducible rfl
                try simp only [Act.put, List.setIfInBounds_toArray, List.set_cons_zero, List.set_cons_succ]
                refine wpAnyH_take (i := 9) (v := ?_) opn9 (by kernel_rfl) (by kernel_rfl) (by kernel_rfl) (fun _ _ _ h => h) (Or.inl ⟨by rfl, ?_⟩) (by assumption) ?_
                rotate_left 1
                · intro wz hSw
                  try dsimp only at hSw
                  have hq := hSw.2.2.2
                  go_simp
                  all_goals with_reducible rfl
                try simp only [Act.put, List.setIfInBounds_toArray, List.set_cons_zero, List.set_cons_succ]
                refine wpAnyH_ready (rs := [3]) (by kernel_rfl) (by simp) ?_
                refine AllReadyH.cons opn3 (fun K hK => ?_) AllReadyH.nil
                go_simp
                refine (SLast_any hHeld.1 (c : Int)).mono ?_
                rintro e w12 ⟨rfl, rfl⟩
                rw [if_neg (by omega), unhide HLNW]
                refine hK.out _ _ hHeld (fun hHeldN => ?_)
                clear hHeld hK K
                have hHeld := hHeldN
                clear hHeldN
                try simp only [Act.put, List.setIfInBounds_toArray, List.set_cons_zero, List.set_cons_succ]
                refine wpAnyH_take (i := 10) (v := ?_) opn10 (by kernel_rfl) (by kernel_rfl) (by kernel_rfl) (fun _ _ _ h => h) (Or.inl ⟨by rfl, ?_⟩) (by assumption) ?_
                rotate_left 1
                · intro wz hSw
                  try dsimp only at hSw
                  go_simp
                  all_goals with_reducible rfl
                try simp only [Act.put, List.setIfInBounds_toArray, List.set_cons_zero, List.set_cons_succ]
                refine wpAnyH_take (i := 11) (v := ?_) opn11 (by kernel_rfl) (by kernel_rfl) (by kernel_rfl) (fun _ _ _ h => h) (Or.inl ⟨by rfl, ?_⟩) (by assumption) ?_
                rotate_left 1
                · intro wz hSw
                  try dsimp only at hSw
                  go_simp
                  all_goals with_reducible rfl
                try simp only [Act.put, List.setIfInBounds_toArray, List.set_cons_zero, List.set_cons_succ]
                refine wpAnyH_take (i := 12) (v := ?_) opn12 (by kernel_rfl) (by kernel_rfl) (by kernel_rfl) (fun _ _ _ h => h) (Or.inl ⟨by rfl, ?_⟩) (by assumption) ?_
                rotate_left 1
                · intro wz hSw
                  try dsimp only at hSw
                  go_simp
                  all_goals with_reducible rfl
                try simp only [Act.put, List.setIfInBounds_toArray, List.set_cons_zero, List.set_cons_succ]
                refine wpAnyH_take (i := 15) (v := ?_) opn15 (by kernel_rfl) (by kernel_rfl) (by kernel_rfl) (fun _ _ _ h => h) (Or.inl ⟨by rfl, ?_⟩) (by assumption) ?_
                rotate_left 1
                · intro wz hSw
                  try dsimp only at hSw
                  go_simp
                  all_goals with_reducible rfl
                try simp only [Act.put, List.setIfInBounds_toArray, List.set_cons_zero, List.set_cons_succ]
                refine wpAnyH_take (i := 16) (v := ?_) opn16 (by kernel_rfl) (by kernel_rfl) (by kernel_rfl) (fun _ _ _ h => h) (Or.inl ⟨by rfl, ?_⟩) (by assumption) ?_
                rotate_left 1
                · intro wz hSw
                  try dsimp only at hSw
                  go_simp
                  all_goals with_reducible rfl
                try simp only [Act.put, List.setIfInBounds_toArray, List.set_cons_zero, List.set_cons_succ]
                refine wpAnyH_ready (rs := [13]) (by kernel_rfl) (by simp) ?_
                refine AllReadyH.cons opn13 (fun K hK => ?_) AllReadyH.nil
                go_simp
                refine (Log_T hHeld.1 (unhide HCM).ss (unhide HT2)).mono ?_
                rintro e w13 ⟨la2, lc2, rfl, ol2, b13⟩
                refine hK.out _ _ ⟨hHeld.1.below b13, hHeld.2.1.trans (b13.mono hHeld.2.1.size), (b13.cell (p := ⟨w.heap.size, 1, none⟩) (World.block_lt_of_cell? _ _ hHeld.2.2.1)).trans hHeld.2.2.1, (b13.cell (p := ⟨w9.heap.size, c, none⟩) (World.block_lt_of_cell? _ _ hHeld.2.2.2)).trans hHeld.2.2.2⟩ (fun hHeldN => ?_)
                clear hHeld hK K
                have hHeld := hHeldN
                clear hHeldN
                try simp only [Act.put, List.setIfInBounds_toArray, List.set_cons_zero, List.set_cons_succ]
                refine wpAnyH_take (i := 14) (v := ?_) opn14 (by kernel_rfl) (by kernel_rfl) (by kernel_rfl) (fun _ _ _ h => h) (Or.inl ⟨by rfl, ?_⟩) (by assumption) ?_
                rotate_left 1
                · intro wz hSw
                  try dsimp only at hSw
                  go_simp
                  all_goals with_reducible rfl
                try simp only [Act.put, List.setIfInBounds_toArray, List.set_cons_zero, List.set_cons_succ]
                refine wpAnyH_take (i := 17) (v := ?_) opn17 (by kernel_rfl) (by kernel_rfl) (by kernel_rfl) (fun _ _ _ h => h) (Or.inl ⟨by rfl, ?_⟩) (by assumption) ?_
                rotate_left 1
                · intro wz hSw
                  try dsimp only at hSw
                  go_simp
                  all_goals with_reducible rfl
                try simp only [Act.put, List.setIfInBounds_toArray, List.set_cons_zero, List.set_cons_succ]
                refine wpAnyH_take (i := 18) (v := ?_) opn18 (by kernel_rfl) (by kernel_rfl) (by kernel_rfl) (fun _ _ _ h => h) (Or.inl ⟨by rfl, ?_⟩) (by assumption) ?_
                rotate_left 1
                · intro wz hSw
                  try dsimp only at hSw
                  go_simp
                  all_goals with_reducible rfl
                try simp only [Act.put, List.setIfInBounds_toArray, List.set_cons_zero, List.set_cons_succ]
                refine wpAnyH_take (i := 19) (v := ?_) opn19 (by kernel_rfl) (by kernel_rfl) (by kernel_rfl) (fun _ _ _ h => h) (Or.inl ⟨by rfl, ?_⟩) (by assumption) ?_
                rotate_left 1
                · intro wz hSw
                  try dsimp only at hSw
                  go_simp
                  all_goals with_reducible rfl
                try simp only [Act.put, List.setIfInBounds_toArray, List.set_cons_zero, List.set_cons_succ]
                refine wpAnyH_done (by kernel_rfl) ?_ _
                have HBF := hide ((unhide HB4).trans ((((unhide HRt).b5.trans (hHeld.2.1.mono hzt))).mono (unhide HB4).size))
                clear hHeld
                go_wp2
                go_ret
                exact ⟨rfl, unhide HBF⟩
            · have hee1 : (ee == 0) = false := by simpa using hee
              have HEE := hide hee
              clear hee
              obtain rfl : L' = L := (unhide HCM).same (.inl (unhide HEE))
              go_wp2_with fail
              go_loopw [13] (fun i wl => ∃ (q : Nat), q ≤ 3 ∧ i = .int .i64 (q : Int) ∧ Hid (RefSt w5.heap.size w5 wl S B' own' lv' L' L' g cn M w9.heap.size cs)) (fun i _ => 3 - (intOf i).toNat)
              case atStart => exact ⟨0, Nat.zero_le _, rfl, unhide HRt⟩
              case round =>
                obtain ⟨q3, hq3, rfl, HR3⟩ := hrel
                by_cases hlt3 : (q3 : Int) < 3
                · have hcell : wr.cell? ⟨w9.heap.size, q3, none⟩ = some (.int .i64 (lastR L' q3).no) := by rw [cell_of_row wr w9.heap.size q3 _ _ _ (unhide HR3).lb]; exact (unhide HCC).2 q3 (by omega)
                  obtain ⟨ln, hln⟩ : ∃ n, (lastR L' (q3 : Int)).no = n := ⟨_, rfl⟩
                  rw [hln] at hcell
                  have HLN3 := hide hln
                  have hneq : (ln != ln) = false := by simp
                  clear hln
                  go_wp2_with fail
                  refine wp_region_held_drew (S := (fun wx => SRep w5.heap.size wx S B' own' lv' L' ∧ wx.cell? ⟨w9.heap.size, q3, none⟩ = some (.int .i64 ln) ∧ wx = wr.drew)) (by kernel_rfl) ⟨(unhide HR3).s.below (below_dr wr), hcell, rfl⟩ (fun hHeld => ?_)
                  refine wpAnyH_take (i := 0) (v := ?_) opn0 (by kernel_rfl) (by kernel_rfl) (by kernel_rfl) (fun _ _ _ h => h) (Or.inl ⟨by rfl, ?_⟩) (by assumption) ?_
                  rotate_left 1
                  · intro wz hSw
                    try dsimp only at hSw
                    go_simp
                    all_goals with_reducible rfl
                  try simp only [Act.put, List.setIfInBounds_toArray, List.set_cons_zero, List.set_cons_succ]
                  refine wpAnyH_take (i := 1) (v := ?_) opn1 (by kernel_rfl) (by kernel_rfl) (by kernel_rfl) (fun _ _ _ h => h) (Or.inl ⟨by rfl, ?_⟩) (by assumption) ?_
                  rotate_left 1
                  · intro wz hSw
                    try dsimp only at hSw
                    go_simp
                    all_goals with_reducible rfl
                  try simp only [Act.put, List.setIfInBounds_toArray, List.set_cons_zero, List.set_cons_succ]
                  refine wpAnyH_take (i := 3) (v := ?_) opn3 (by kernel_rfl) (by kernel_rfl) (by kernel_rfl) (fun _ _ _ h => h) (Or.inl ⟨by rfl, ?_⟩) (by assumption) ?_
                  rotate_left 1
                  · intro wz hSw
                    try dsimp only at hSw
                    go_simp
                    all_goals with_reducible rfl
                  try simp only [Act.put, List.setIfInBounds_toArray, List.set_cons_zero, List.set_cons_succ]
                  refine wpAnyH_take (i := 4) (v := ?_) opn4 (by kernel_rfl) (by kernel_rfl) (by kernel_rfl) (fun _ _ _ h => h) (Or.inl ⟨by rfl, ?_⟩) (by assumption) ?_
                  rotate_left 1
                  · intro wz hSw
                    try dsimp only at hSw
                    go_simp
                    all_goals with_reducible rfl
                  try simp only [Act.put, List.setIfInBounds_toArray, List.set_cons_zero, List.set_cons_succ]
                  refine wpAnyH_take (i := 5) (v := ?_) opn5 (by kernel_rfl) (by kernel_rfl) (by kernel_rfl) (fun _ _ _ h => h) (Or.inl ⟨by rfl, ?_⟩) (by assumption) ?_
                  rotate_left 1
                  · intro wz hSw
                    try dsimp only at hSw
                    have hq := hSw.2.1
                    go_simp
                    all_goals with_reducible rfl
                  try simp only [Act.put, List.setIfInBounds_toArray, List.set_cons_zero, List.set_cons_succ]
                  refine wpAnyH_ready (rs := [2]) (by kernel_rfl) (by simp) ?_
                  refine AllReadyH.cons opn2 (fun K hK => ?_) AllReadyH.nil
                  go_simp
                  refine (SLast_any hHeld.1 (q3 : Int)).mono ?_
                  rintro e w12 ⟨rfl, rfl⟩
                  rw [if_neg (by omega), unhide HLN3]
                  refine hK.out _ _ hHeld (fun hHeldN => ?_)
                  clear hHeld hK K
                  have hHeld := hHeldN
                  clear hHeldN
                  try simp only [Act.put, List.setIfInBounds_toArray, List.set_cons_zero, List.set_cons_succ]
                  refine wpAnyH_take (i := 6) (v := ?_) opn6 (by kernel_rfl) (by kernel_rfl) (by kernel_rfl) (fun _ _ _ h => h) (Or.inl ⟨by rfl, ?_⟩) (by assumption) ?_
                  rotate_left 1
                  · intro wz hSw
                    try dsimp only at hSw
                    go_simp
                    all_goals with_reducible rfl
                  try simp only [Act.put, List.setIfInBounds_toArray, List.set_cons_zero, List.set_cons_succ]
                  refine wpAnyH_done (by kernel_rfl) ?_ _
                  have HR4 := hide ((unhide HR3).below (unhide HR3).b5.size (below_dr wr))
                  clear hHeld
                  go_wp2
                  go_roundw
                  case rel => exact ⟨q3 + 1, by omega, by go_num, unhide HR4⟩
                  case measure => simp [intOf]; omega
                · have HB12 := hide (Below.refl wr.heap.size wr)
                  go_wp2_with fail
                  refine (Log_T (unhide HR3).s (unhide HCM).ss (unhide HTT)).mono ?_
                  rintro e w13 ⟨la2, lc2, rfl, ol2, b13⟩
                  have hcv2 : (convert 48 9 (.slice la2 T lc2)).run Try.prog w13 = .ok (.string sL) w13 := by rw [unhide HSL]; exact conv_row ol2 (unhide HTT)
                  have hsq : (sL.toList == sL.toList) = true := by simp
                  have HR13 := hide ((unhide HR3).below (unhide HR3).b5.size b13)
                  have hptr := (unhide HR13).s.ptr
                  clear ol2 b13
                  go_wp2_with fail
                  refine (Names_M (unhide HR13).s.files (unhide HMM)).mono ?_
                  rintro e w14 ⟨g2, cn2, rfl, on2, b14⟩
                  have HR14 := hide ((unhide HR13).below (unhide HR13).b5.size b14)
                  have HS14 := hide (SameTexts_any (some ⟨g2, 0, none⟩) (some ⟨g, 0, none⟩) M M cn2 cn _ _ w14 (ownsRow_base on2 (Nat.zero_le _)) (unhide HR14).nm hM1000 hM1000)
                  clear on2 b14 hptr hcv2
                  go_wp2_with fail
                  refine (unhide HS14).mono ?_
                  rintro e w15 ⟨rfl, b15⟩
                  have hb15 := (unhide HR14).b5.trans (b15.mono (unhide HR14).b5.size)
                  have HB15 := hide ((unhide HB4).trans (hb15.mono (unhide HB4).size))
                  try rw [decide_eq_true (rfl : sNames (behind L') = sNames (behind L'))]
                  try simp only [decide_true]
                  clear b15 hb15
                  go_wp2
                  go_ret
                  exact ⟨rfl, unhide HB15⟩
          · have hxa1 : (xa == 1) = false := by simpa using hxa
            clear hxa
            obtain ⟨⟨x0, x1, x2, x3⟩, ⟨x4, x5, x6, x7⟩, _⟩ := eight (unhide HXc)
            have hcm := came_call (unhide HR).s.good hss xc xn ⟨xk, xs1, xs2, xs3⟩
            have hcs := SCall_any (unhide HR).s xc xn ⟨xk, xs1, xs2, xs3⟩ (by omega) (unhide HR).b5.size (unhide HSZ).1 (unhide HSZ).2.1 (unhide HSZ).2.2
            generalize aCall L xc xn ⟨xk, xs1, xs2, xs3⟩ = R at hcs hcm
            obtain ⟨rcode, rtext, ee, L'⟩ := R
            dsimp only at hcs hcm
            have HCM := hide hcm
            have HCS := hide hcs
            clear hcm hcs
            go_wp2_with fail
            refine (unhide HCS).mono ?_
            rintro e wt ⟨rfl, hT⟩
            obtain ⟨B', own', lv', hs', hn'⟩ := hT
            have HRt := hide ((unhide HR).turn hs' hn')
            have hXt := ((unhide HRt).b5.block w.heap.size hz4).trans (unhide HX4)
            have HXt := hide hXt
            have hzt : w5.heap.size ≤ wt.heap.size := (unhide HRt).b5.size
            clear hs' hn' x0 x1 x2 x3 x4 x5 x6 x7 HCS hXt
            by_cases hee : ee = 0
            · subst hee
              obtain ⟨⟨x0, x1, x2, x3⟩, ⟨x4, x5, x6, x7⟩, _⟩ := eight (unhide HXt)
              go_wp2_with fail
              refine ((unhide HIC) _).mono ?_
              rintro e wi ⟨rfl, hwi⟩
              have hwi2 := hwi.symm
              clear hwi
              subst hwi2
              clear x0 x1 x2 x3 x4 x5 x6 x7
              rcases hch : changesB xk with _ | _
              · rw [hch] at HCM
                obtain rfl : L' = L := (unhide HCM).same (.inr rfl)
                go_wp2_with fail
                go_loopw [13] (fun i wl => ∃ (q : Nat), q ≤ 3 ∧ i = .int .i64 (q : Int) ∧ Hid (RefSt w5.heap.size w5 wl S B' own' lv' L' L' g cn M w9.heap.size cs)) (fun i _ => 3 - (intOf i).toNat)
                case atStart => exact ⟨0, Nat.zero_le _, rfl, unhide HRt⟩
                case round =>
                  obtain ⟨q3, hq3, rfl, HR3⟩ := hrel
                  by_cases hlt3 : (q3 : Int) < 3
                  · have hcell : wr.cell? ⟨w9.heap.size, q3, none⟩ = some (.int .i64 (lastR L' q3).no) := by rw [cell_of_row wr w9.heap.size q3 _ _ _ (unhide HR3).lb]; exact (unhide HCC).2 q3 (by omega)
                    obtain ⟨ln, hln⟩ : ∃ n, (lastR L' (q3 : Int)).no = n := ⟨_, rfl⟩
                    rw [hln] at hcell
                    have HLN3 := hide hln
                    have hneq : (ln != ln) = false := by simp
                    clear hln
                    go_wp2_with fail
                    refine wp_region_held_drew (S := (fun wx => SRep w5.heap.size wx S B' own' lv' L' ∧ wx.cell? ⟨w9.heap.size, q3, none⟩ = some (.int .i64 ln) ∧ wx = wr.drew)) (by kernel_rfl) ⟨(unhide HR3).s.below (below_dr wr), hcell, rfl⟩ (fun hHeld => ?_)
                    refine wpAnyH_take (i := 0) (v := ?_) opn0 (by kernel_rfl) (by kernel_rfl) (by kernel_rfl) (fun _ _ _ h => h) (Or.inl ⟨by rfl, ?_⟩) (by assumption) ?_
                    rotate_left 1
                    · intro wz hSw
                      try dsimp only at hSw
                      go_simp
                      all_goals with_reducible rfl
                    try simp only [Act.put, List.setIfInBounds_toArray, List.set_cons_zero, List.set_cons_succ]
                    refine wpAnyH_take (i := 1) (v := ?_) opn1 (by kernel_rfl) (by kernel_rfl) (by kernel_rfl) (fun _ _ _ h => h) (Or.inl ⟨by rfl, ?_⟩) (by assumption) ?_
                    rotate_left 1
                    · intro wz hSw
                      try dsimp only at hSw
                      go_simp
                      all_goals with_reducible rfl
                    try simp only [Act.put, List.setIfInBounds_toArray, List.set_cons_zero, List.set_cons_succ]
                    refine wpAnyH_take (i := 3) (v := ?_) opn3 (by kernel_rfl) (by kernel_rfl) (by kernel_rfl) (fun _ _ _ h => h) (Or.inl ⟨by rfl, ?_⟩) (by assumption) ?_
                    rotate_left 1
                    · intro wz hSw
                      try dsimp only at hSw
                      go_simp
                      all_goals with_reducible rfl
                    try simp only [Act.put, List.setIfInBounds_toArray, List.set_cons_zero, List.set_cons_succ]
                    refine wpAnyH_take (i := 4) (v := ?_) opn4 (by kernel_rfl) (by kernel_rfl) (by kernel_rfl) (fun _ _ _ h => h) (Or.inl ⟨by rfl, ?_⟩) (by assumption) ?_
                    rotate_left 1
                    · intro wz hSw
                      try dsimp only at hSw
                      go_simp
                      all_goals with_reducible rfl
                    try simp only [Act.put, List.setIfInBounds_toArray, List.set_cons_zero, List.set_cons_succ]
                    refine wpAnyH_take (i := 5) (v := ?_) opn5 (by kernel_rfl) (by kernel_rfl) (by kernel_rfl) (fun _ _ _ h => h) (Or.inl ⟨by rfl, ?_⟩) (by assumption) ?_
                    rotate_left 1
                    · intro wz hSw
                      try dsimp only at hSw
                      have hq := hSw.2.1
                      go_simp
                      all_goals with_reducible rfl
                    try simp only [Act.put, List.setIfInBounds_toArray, List.set_cons_zero, List.set_cons_succ]
                    refine wpAnyH_ready (rs := [2]) (by kernel_rfl) (by simp) ?_
                    refine AllReadyH.cons opn2 (fun K hK => ?_) AllReadyH.nil
                    go_simp
                    refine (SLast_any hHeld.1 (q3 : Int)).mono ?_
                    rintro e w12 ⟨rfl, rfl⟩
                    rw [if_neg (by omega), unhide HLN3]
                    refine hK.out _ _ hHeld (fun hHeldN => ?_)
                    clear hHeld hK K
                    have hHeld := hHeldN
                    clear hHeldN
                    try simp only [Act.put, List.setIfInBounds_toArray, List.set_cons_zero, List.set_cons_succ]
                    refine wpAnyH_take (i := 6) (v := ?_) opn6 (by kernel_rfl) (by kernel_rfl) (by kernel_rfl) (fun _ _ _ h => h) (Or.inl ⟨by rfl, ?_⟩) (by assumption) ?_
                    rotate_left 1
                    · intro wz hSw
                      try dsimp only at hSw
                      go_simp
                      all_goals with_reducible rfl
                    try simp only [Act.put, List.setIfInBounds_toArray, List.set_cons_zero, List.set_cons_succ]
                    refine wpAnyH_done (by kernel_rfl) ?_ _
                    have HR4 := hide ((unhide HR3).below (unhide HR3).b5.size (below_dr wr))
                    clear hHeld
                    go_wp2
                    go_roundw
                    case rel => exact ⟨q3 + 1, by omega, by go_num, unhide HR4⟩
                    case measure => simp [intOf]; omega
                  · have HB12 := hide (Below.refl wr.heap.size wr)
                    go_wp2_with fail
                    refine (Log_T (unhide HR3).s (unhide HCM).ss (unhide HTT)).mono ?_
                    rintro e w13 ⟨la2, lc2, rfl, ol2, b13⟩
                    have hcv2 : (convert 48 9 (.slice la2 T lc2)).run Try.prog w13 = .ok (.string sL) w13 := by rw [unhide HSL]; exact conv_row ol2 (unhide HTT)
                    have hsq : (sL.toList == sL.toList) = true := by simp
                    have HR13 := hide ((unhide HR3).below (unhide HR3).b5.size b13)
                    have hptr := (unhide HR13).s.ptr
                    clear ol2 b13
                    go_wp2_with fail
                    refine (Names_M (unhide HR13).s.files (unhide HMM)).mono ?_
                    rintro e w14 ⟨g2, cn2, rfl, on2, b14⟩
                    have HR14 := hide ((unhide HR13).below (unhide HR13).b5.size b14)
                    have HS14 := hide (SameTexts_any (some ⟨g2, 0, none⟩) (some ⟨g, 0, none⟩) M M cn2 cn _ _ w14 (ownsRow_base on2 (Nat.zero_le _)) (unhide HR14).nm hM1000 hM1000)
                    clear on2 b14 hptr hcv2
                    go_wp2_with fail
                    refine (unhide HS14).mono ?_
                    rintro e w15 ⟨rfl, b15⟩
                    have hb15 := (unhide HR14).b5.trans (b15.mono (unhide HR14).b5.size)
                    have HB15 := hide ((unhide HB4).trans (hb15.mono (unhide HB4).size))
                    try rw [decide_eq_true (rfl : sNames (behind L') = sNames (behind L'))]
                    try simp only [decide_true]
                    clear b15 hb15
                    go_wp2
                    go_ret
                    exact ⟨rfl, unhide HB15⟩
              · rw [hch] at HCM
                obtain ⟨hr0, hr2⟩ := (unhide HCM).range rfl rfl
                obtain ⟨c, rfl⟩ : ∃ c : Nat, xc = (c : Int) := ⟨xc.toNat, by omega⟩
                obtain ⟨⟨x0, x1, x2, x3⟩, ⟨x4, x5, x6, x7⟩, _⟩ := eight (unhide HXt)
                have hcell : wt.cell? ⟨w9.heap.size, c, none⟩ = some (.int .i64 (lastR L c).no) := by rw [cell_of_row wt w9.heap.size c _ _ _ (unhide HRt).lb]; exact (unhide HCC).2 c (by omega)
                have hle := (unhide HCM).last c
                have hlen := (unhide HCM).len
                obtain ⟨T2, hT2⟩ : ∃ T, (logB L').length = T := ⟨_, rfl⟩
                rw [hT2, unhide HTT] at hlen
                have HT2 := hide hT2
                obtain ⟨lnew, hlnew⟩ : ∃ n, (lastR L' (c : Int)).no = n := ⟨_, rfl⟩
                have HLNW := hide hlnew
                rw [hlnew] at hle
                generalize (lastR L (c : Int)).no = ln at hcell hle
                have hsz : sL.size = T := by rw [unhide HSL]; show (logB L).toArray.size = T; rw [List.size_toArray]; exact unhide HTT
                have hmn : min (c : Int) 2 = c := by omega
                have hmx : max 0 (c : Int) = c := by omega
                have hc3 : (c : Int) < 3 := by omega
                have hge1 : ln ≤ lnew := hle
                have hge2 : (T : Int) ≤ (T2 : Int) := by omega
                clear hle hlen hT2 hlnew
                go_wp2_with fail
                refine wp_region_held_drew (S := (fun wx => SRep w5.heap.size wx S B' own' lv' L' ∧ Below wt.heap.size wt wx ∧ wx.cell? ⟨w.heap.size, 1, none⟩ = some (.int .i64 (c : Int)) ∧ wx.cell? ⟨w9.heap.size, c, none⟩ = some (.int .i64 ln))) (by kernel_rfl) ⟨(unhide HRt).s.below (below_dr wt), below_dr wt, x1, hcell⟩ (fun hHeld => ?_)
                clear x0 x1 x2 x3 x4 x5 x6 x7 hcell
                refine wpAnyH_take (i := 0) (v := ?_) opn0 (by kernel_rfl) (by kernel_rfl) (by kernel_rfl) (fun _ _ _ h => h) (Or.inl ⟨by rfl, ?_⟩) (by assumption) ?_
                rotate_left 1
                · intro wz hSw
                  try dsimp only at hSw
                  go_simp
                  all_goals with_reducible rfl
                try simp only [Act.put, List.setIfInBounds_toArray, List.set_cons_zero, List.set_cons_succ]
                refine wpAnyH_take (i := 1) (v := ?_) opn1 (by kernel_rfl) (by kernel_rfl) (by kernel_rfl) (fun _ _ _ h => h) (Or.inl ⟨by rfl, ?_⟩) (by assumption) ?_
                rotate_left 1
                · intro wz hSw
                  try dsimp only at hSw
                  go_simp
                  all_goals with_reducible rfl
                try simp only [Act.put, List.setIfInBounds_toArray, List.set_cons_zero, List.set_cons_succ]
                refine wpAnyH_take (i := 2) (v := ?_) opn2 (by kernel_rfl) (by kernel_rfl) (by kernel_rfl) (fun _ _ _ h => h) (Or.inl ⟨by rfl, ?_⟩) (by assumption) ?_
                rotate_left 1
                · intro wz hSw
                  try dsimp only at hSw
                  have hq := hSw.2.2.1
                  go_simp
                  all_goals with_reducible rfl
                try simp only [Act.put, List.setIfInBounds_toArray, List.set_cons_zero, List.set_cons_succ]
                refine wpAnyH_take (i := 4) (v := ?_) opn4 (by kernel_rfl) (by kernel_rfl) (by kernel_rfl) (fun _ _ _ h => h) (Or.inl ⟨by rfl, ?_⟩) (by assumption) ?_
                rotate_left 1
                · intro wz hSw
                  try dsimp only at hSw
                  go_simp
                  all_goals with_reducible rfl
                try simp only [Act.put, List.setIfInBounds_toArray, List.set_cons_zero, List.set_cons_succ]
                refine wpAnyH_take (i := 5) (v := ?_) opn5 (by kernel_rfl) (by kernel_rfl) (by kernel_rfl) (fun _ _ _ h => h) (Or.inl ⟨by rfl, ?_⟩) (by assumption) ?_
                rotate_left 1
                · intro wz hSw
                  try dsimp only at hSw
                  have hq := hSw.2.2.1
                  go_simp
                  all_goals with_reducible rfl
                try simp only [Act.put, List.setIfInBounds_toArray, List.set_cons_zero, List.set_cons_succ]
                refine wpAnyH_take (i := 6) (v := ?_) opn6 (by kernel_rfl) (by kernel_rfl) (by kernel_rfl) (fun _ _ _ h => h) (Or.inl ⟨by rfl, ?_⟩) (by assumption) ?_
                rotate_left 1
                · intro wz hSw
                  try dsimp only at hSw
                  go_simp
                  all_goals with_reducible rfl
                try simp only [Act.put, List.setIfInBounds_toArray, List.set_cons_zero, List.set_cons_succ]
                refine wpAnyH_take (i := 7) (v := ?_) opn7 (by kernel_rfl) (by kernel_rfl) (by kernel_rfl) (fun _ _ _ h => h) (Or.inl ⟨by rfl, ?_⟩) (by assumption) ?_
                rotate_left 1
                · intro wz hSw
                  try dsimp only at hSw
                  go_simp
                  all_goals with_reducible rfl
                try simp only [Act.put, List.setIfInBounds_toArray, List.set_cons_zero, List.set_cons_succ]
                refine wpAnyH_take (i := 8) (v := ?_) opn8 (by kernel_rfl) (by kernel_rfl) (by kernel_rfl) (fun _ _ _ h => h) (Or.inl ⟨by rfl, ?_⟩) (by assumption) ?_
                rotate_left 1
                · intro wz hSw
                  try dsimp only at hSw
                  go_simp
                  all_goals with_reducible rfl
                try simp only [Act.put, List.setIfInBounds_toArray, List.set_cons_zero, List.set_cons_succ]
                refine wpAnyH_take (i := 9) (v := ?_) opn9 (by kernel_rfl) (by kernel_rfl) (by kernel_rfl) (fun _ _ _ h => h) (Or.inl ⟨by rfl, ?_⟩) (by assumption) ?_
                rotate_left 1
                · intro wz hSw
                  try dsimp only at hSw
                  have hq := hSw.2.2.2
                  go_simp
                  all_goals with_reducible rfl
                try simp only [Act.put, List.setIfInBounds_toArray, List.set_cons_zero, List.set_cons_succ]
                refine wpAnyH_ready (rs := [3]) (by kernel_rfl) (by simp) ?_
                refine AllReadyH.cons opn3 (fun K hK => ?_) AllReadyH.nil
                go_simp
                refine (SLast_any hHeld.1 (c : Int)).mono ?_
                rintro e w12 ⟨rfl, rfl⟩
                rw [if_neg (by omega), unhide HLNW]
                refine hK.out _ _ hHeld (fun hHeldN => ?_)
                clear hHeld hK K
                have hHeld := hHeldN
                clear hHeldN
                try simp only [Act.put, List.setIfInBounds_toArray, List.set_cons_zero, List.set_cons_succ]
                refine wpAnyH_take (i := 10) (v := ?_) opn10 (by kernel_rfl) (by kernel_rfl) (by kernel_rfl) (fun _ _ _ h => h) (Or.inl ⟨by rfl, ?_⟩) (by assumption) ?_
                rotate_left 1
                · intro wz hSw
                  try dsimp only at hSw
                  go_simp
                  all_goals with_reducible rfl
                try simp only [Act.put, List.setIfInBounds_toArray, List.set_cons_zero, List.set_cons_succ]
                refine wpAnyH_take (i := 11) (v := ?_) opn11 (by kernel_rfl) (by kernel_rfl) (by kernel_rfl) (fun _ _ _ h => h) (Or.inl ⟨by rfl, ?_⟩) (by assumption) ?_
                rotate_left 1
                · intro wz hSw
                  try dsimp only at hSw
                  go_simp
                  all_goals with_reducible rfl
                try simp only [Act.put, List.setIfInBounds_toArray, List.set_cons_zero, List.set_cons_succ]
                refine wpAnyH_take (i := 12) (v := ?_) opn12 (by kernel_rfl) (by kernel_rfl) (by kernel_rfl) (fun _ _ _ h => h) (Or.inl ⟨by rfl, ?_⟩) (by assumption) ?_
                rotate_left 1
                · intro wz hSw
                  try dsimp only at hSw
                  go_simp
                  all_goals with_reducible rfl
                try simp only [Act.put, List.setIfInBounds_toArray, List.set_cons_zero, List.set_cons_succ]
                refine wpAnyH_take (i := 15) (v := ?_) opn15 (by kernel_rfl) (by kernel_rfl) (by kernel_rfl) (fun _ _ _ h => h) (Or.inl ⟨by rfl, ?_⟩) (by assumption) ?_
                rotate_left 1
                · intro wz hSw
                  try dsimp only at hSw
                  go_simp
                  all_goals with_reducible rfl
                try simp only [Act.put, List.setIfInBounds_toArray, List.set_cons_zero, List.set_cons_succ]
                refine wpAnyH_take (i := 16) (v := ?_) opn16 (by kernel_rfl) (by kernel_rfl) (by kernel_rfl) (fun _ _ _ h => h) (Or.inl ⟨by rfl, ?_⟩) (by assumption) ?_
                rotate_left 1
                · intro wz hSw
                  try dsimp only at hSw
                  go_simp
                  all_goals with_reducible rfl
                try simp only [Act.put, List.setIfInBounds_toArray, List.set_cons_zero, List.set_cons_succ]
                refine wpAnyH_ready (rs := [13]) (by kernel_rfl) (by simp) ?_
                refine AllReadyH.cons opn13 (fun K hK => ?_) AllReadyH.nil
                go_simp
                refine (Log_T hHeld.1 (unhide HCM).ss (unhide HT2)).mono ?_
                rintro e w13 ⟨la2, lc2, rfl, ol2, b13⟩
                refine hK.out _ _ ⟨hHeld.1.below b13, hHeld.2.1.trans (b13.mono hHeld.2.1.size), (b13.cell (p := ⟨w.heap.size, 1, none⟩) (World.block_lt_of_cell? _ _ hHeld.2.2.1)).trans hHeld.2.2.1, (b13.cell (p := ⟨w9.heap.size, c, none⟩) (World.block_lt_of_cell? _ _ hHeld.2.2.2)).trans hHeld.2.2.2⟩ (fun hHeldN => ?_)
                clear hHeld hK K
                have hHeld := hHeldN
                clear hHeldN
                try simp only [Act.put, List.setIfInBounds_toArray, List.set_cons_zero, List.set_cons_succ]
                refine wpAnyH_take (i := 14) (v := ?_) opn14 (by kernel_rfl) (by kernel_rfl) (by kernel_rfl) (fun _ _ _ h => h) (Or.inl ⟨by rfl, ?_⟩) (by assumption) ?_
                rotate_left 1
                · intro wz hSw
                  try dsimp only at hSw
                  go_simp
                  all_goals with_reducible rfl
                try simp only [Act.put, List.setIfInBounds_toArray, List.set_cons_zero, List.set_cons_succ]
                refine wpAnyH_take (i := 17) (v := ?_) opn17 (by kernel_rfl) (by kernel_rfl) (by kernel_rfl) (fun _ _ _ h => h) (Or.inl ⟨by rfl, ?_⟩) (by assumption) ?_
                rotate_left 1
                · intro wz hSw
                  try dsimp only at hSw
                  go_simp
                  all_goals with_reducible rfl
                try simp only [Act.put, List.setIfInBounds_toArray, List.set_cons_zero, List.set_cons_succ]
                refine wpAnyH_take (i := 18) (v := ?_) opn18 (by kernel_rfl) (by kernel_rfl) (by kernel_rfl) (fun _ _ _ h => h) (Or.inl ⟨by rfl, ?_⟩) (by assumption) ?_
                rotate_left 1
                · intro wz hSw
                  try dsimp only at hSw
                  go_simp
                  all_goals with_reducible rfl
                try simp only [Act.put, List.setIfInBounds_toArray, List.set_cons_zero, List.set_cons_succ]
                refine wpAnyH_take (i := 19) (v := ?_) opn19 (by kernel_rfl) (by kernel_rfl) (by kernel_rfl) (fun _ _ _ h => h) (Or.inl ⟨by rfl, ?_⟩) (by assumption) ?_
                rotate_left 1
                · intro wz hSw
                  try dsimp only at hSw
                  go_simp
                  all_goals with_reducible rfl
                try simp only [Act.put, List.setIfInBounds_toArray, List.set_cons_zero, List.set_cons_succ]
                refine wpAnyH_done (by kernel_rfl) ?_ _
                have HBF := hide ((unhide HB4).trans ((((unhide HRt).b5.trans (hHeld.2.1.mono hzt))).mono (unhide HB4).size))
                clear hHeld
                go_wp2
                go_ret
                exact ⟨rfl, unhide HBF⟩
            · have hee1 : (ee == 0) = false := by simpa using hee
              have HEE := hide hee
              clear hee
              obtain rfl : L' = L := (unhide HCM).same (.inl (unhide HEE))
              go_wp2_with fail
              go_loopw [13] (fun i wl => ∃ (q : Nat), q ≤ 3 ∧ i = .int .i64 (q : Int) ∧ Hid (RefSt w5.heap.size w5 wl S B' own' lv' L' L' g cn M w9.heap.size cs)) (fun i _ => 3 - (intOf i).toNat)
              case atStart => exact ⟨0, Nat.zero_le _, rfl, unhide HRt⟩
              case round =>
                obtain ⟨q3, hq3, rfl, HR3⟩ := hrel
                by_cases hlt3 : (q3 : Int) < 3
                · have hcell : wr.cell? ⟨w9.heap.size, q3, none⟩ = some (.int .i64 (lastR L' q3).no) := by rw [cell_of_row wr w9.heap.size q3 _ _ _ (unhide HR3).lb]; exact (unhide HCC).2 q3 (by omega)
                  obtain ⟨ln, hln⟩ : ∃ n, (lastR L' (q3 : Int)).no = n := ⟨_, rfl⟩
                  rw [hln] at hcell
                  have HLN3 := hide hln
                  have hneq : (ln != ln) = false := by simp
                  clear hln
                  go_wp2_with fail
                  refine wp_region_held_drew (S := (fun wx => SRep w5.heap.size wx S B' own' lv' L' ∧ wx.cell? ⟨w9.heap.size, q3, none⟩ = some (.int .i64 ln) ∧ wx = wr.drew)) (by kernel_rfl) ⟨(unhide HR3).s.below (below_dr wr), hcell, rfl⟩ (fun hHeld => ?_)
                  refine wpAnyH_take (i := 0) (v := ?_) opn0 (by kernel_rfl) (by kernel_rfl) (by kernel_rfl) (fun _ _ _ h => h) (Or.inl ⟨by rfl, ?_⟩) (by assumption) ?_
                  rotate_left 1
                  · intro wz hSw
                    try dsimp only at hSw
                    go_simp
                    all_goals with_reducible rfl
                  try simp only [Act.put, List.setIfInBounds_toArray, List.set_cons_zero, List.set_cons_succ]
                  refine wpAnyH_take (i := 1) (v := ?_) opn1 (by kernel_rfl) (by kernel_rfl) (by kernel_rfl) (fun _ _ _ h => h) (Or.inl ⟨by rfl, ?_⟩) (by assumption) ?_
                  rotate_left 1
                  · intro wz hSw
                    try dsimp only at hSw
                    go_simp
                    all_goals with_reducible rfl
                  try simp only [Act.put, List.setIfInBounds_toArray, List.set_cons_zero, List.set_cons_succ]
                  refine wpAnyH_take (i := 3) (v := ?_) opn3 (by kernel_rfl) (by kernel_rfl) (by kernel_rfl) (fun _ _ _ h => h) (Or.inl ⟨by rfl, ?_⟩) (by assumption) ?_
                  rotate_left 1
                  · intro wz hSw
                    try dsimp only at hSw
                    go_simp
                    all_goals with_reducible rfl
                  try simp only [Act.put, List.setIfInBounds_toArray, List.set_cons_zero, List.set_cons_succ]
                  refine wpAnyH_take (i := 4) (v := ?_) opn4 (by kernel_rfl) (by kernel_rfl) (by kernel_rfl) (fun _ _ _ h => h) (Or.inl ⟨by rfl, ?_⟩) (by assumption) ?_
                  rotate_left 1
                  · intro wz hSw
                    try dsimp only at hSw
                    go_simp
                    all_goals with_reducible rfl
                  try simp only [Act.put, List.setIfInBounds_toArray, List.set_cons_zero, List.set_cons_succ]
                  refine wpAnyH_take (i := 5) (v := ?_) opn5 (by kernel_rfl) (by kernel_rfl) (by kernel_rfl) (fun _ _ _ h => h) (Or.inl ⟨by rfl, ?_⟩) (by assumption) ?_
                  rotate_left 1
                  · intro wz hSw
                    try dsimp only at hSw
                    have hq := hSw.2.1
                    go_simp
                    all_goals with_reducible rfl
                  try simp only [Act.put, List.setIfInBounds_toArray, List.set_cons_zero, List.set_cons_succ]
                  refine wpAnyH_ready (rs := [2]) (by kernel_rfl) (by simp) ?_
                  refine AllReadyH.cons opn2 (fun K hK => ?_) AllReadyH.nil
                  go_simp
                  refine (SLast_any hHeld.1 (q3 : Int)).mono ?_
                  rintro e w12 ⟨rfl, rfl⟩
                  rw [if_neg (by omega), unhide HLN3]
                  refine hK.out _ _ hHeld (fun hHeldN => ?_)
                  clear hHeld hK K
                  have hHeld := hHeldN
                  clear hHeldN
                  try simp only [Act.put, List.setIfInBounds_toArray, List.set_cons_zero, List.set_cons_succ]
                  refine wpAnyH_take (i := 6) (v := ?_) opn6 (by kernel_rfl) (by kernel_rfl) (by kernel_rfl) (fun _ _ _ h => h) (Or.inl ⟨by rfl, ?_⟩) (by assumption) ?_
                  rotate_left 1
                  · intro wz hSw
                    try dsimp only at hSw
                    go_simp
                    all_goals with_reducible rfl
                  try simp only [Act.put, List.setIfInBounds_toArray, List.set_cons_zero, List.set_cons_succ]
                  refine wpAnyH_done (by kernel_rfl) ?_ _
                  have HR4 := hide ((unhide HR3).below (unhide HR3).b5.size (below_dr wr))
                  clear hHeld
                  go_wp2
                  go_roundw
                  case rel => exact ⟨q3 + 1, by omega, by go_num, unhide HR4⟩
                  case measure => simp [intOf]; omega
                · have HB12 := hide (Below.refl wr.heap.size wr)
                  go_wp2_with fail
                  refine (Log_T (unhide HR3).s (unhide HCM).ss (unhide HTT)).mono ?_
                  rintro e w13 ⟨la2, lc2, rfl, ol2, b13⟩
                  have hcv2 : (convert 48 9 (.slice la2 T lc2)).run Try.prog w13 = .ok (.string sL) w13 := by rw [unhide HSL]; exact conv_row ol2 (unhide HTT)
                  have hsq : (sL.toList == sL.toList) = true := by simp
                  have HR13 := hide ((unhide HR3).below (unhide HR3).b5.size b13)
                  have hptr := (unhide HR13).s.ptr
                  clear ol2 b13
                  go_wp2_with fail
                  refine (Names_M (unhide HR13).s.files (unhide HMM)).mono ?_
                  rintro e w14 ⟨g2, cn2, rfl, on2, b14⟩
                  have HR14 := hide ((unhide HR13).below (unhide HR13).b5.size b14)
                  have HS14 := hide (SameTexts_any (some ⟨g2, 0, none⟩) (some ⟨g, 0, none⟩) M M cn2 cn _ _ w14 (ownsRow_base on2 (Nat.zero_le _)) (unhide HR14).nm hM1000 hM1000)
                  clear on2 b14 hptr hcv2
                  go_wp2_with fail
                  refine (unhide HS14).mono ?_
                  rintro e w15 ⟨rfl, b15⟩
                  have hb15 := (unhide HR14).b5.trans (b15.mono (unhide HR14).b5.size)
                  have HB15 := hide ((unhide HB4).trans (hb15.mono (unhide HB4).size))
                  try rw [decide_eq_true (rfl : sNames (behind L') = sNames (behind L'))]
                  try simp only [decide_true]
                  clear b15 hb15
                  go_wp2
                  go_ret
                  exact ⟨rfl, unhide HB15⟩

end Go.Proofs.Ytlndphpidkacgaa

namespace Go.Proofs.Ytlndphpidkacgaa
open Go.ChangeShapes Go.WideShapes Go.ChangeAt Go.RowKit Go.Deep Go.Joins
set_option linter.unusedSimpArgs false
set_option linter.unusedVariables false

set_option maxRecDepth 100000 in
theorem storeRefuses_lifted (os : Os) (started : os.Started) (H : Type) (enc : TypeId × Value → H) :
    ReturnsInHanded {} Try.checked os 14 .any (Rows.storeRefusesSpec.pre6 enc Try.prog Try.f14 Rows.storeRefusesRow.domain false) (Rows.storeRefusesSpec.post enc Try.prog Try.f14 false true false false) := by
  refine returnsInHanded_of_change (C := Try.checked) own0 started (by kernel_rfl) Try.func14
    (ChangeSpec.witness6 (enc := enc) (C := Try.checked) false ⟨#[], #[.slice none 0 0, .agg #[.int .i64 0, .int .i64 0, .int .i64 0, .int .i64 0, .int .i64 0, .string ByteArray.empty, .string ByteArray.empty, .string ByteArray.empty]], []⟩ 8 (by kernel_rfl) (by kernel_rfl) (by kernel_rfl) (by kernel_rfl)) ?_
  intro W base args ds gs before hval0 hW hcnd _
  have hval : ∀ (j : Nat) t v, Try.f14.params[j]? = some t → args[j]? = some v → Value.okWide Try.prog W .any base t v := hval0
  have hW' := hW
  obtain ⟨p, q, hA0, hV, rfl, hfz, hnd⟩ := hW
  have hA : DataW.TrodAll enc Try.prog W 0 (fun _ => true) true Try.f14.params.toList args.toList ds p := hA0
  rw [Try.params14] at hA hval
  obtain ⟨v0, vs0, d0, ds0, p0, q0, hargs, rfl, rfl, h0, r0⟩ := trodAll_cons hA
  obtain ⟨v1, vs1, d1, ds1, p1, q1, rfl, rfl, rfl, h1, r1⟩ := trodAll_cons r0
  obtain ⟨rfl, rfl, rfl⟩ := trodAll_nil r1
  obtain rfl : args = #[v0, v1] := by cases args; simp_all
  obtain ⟨rfl, rfl⟩ := trodVars_none hV
  have k0 := h0
  have lt0 : ∀ x ∈ p0, x.block < W.heap.size := by obtain ⟨m, hm⟩ := k0; exact DataW.trod_lt m _ _ _ hm
  have k1 := h1
  have lt1 : ∀ x ∈ p1, x.block < W.heap.size := by obtain ⟨m, hm⟩ := k1; exact DataW.trod_lt m _ _ _ hm
  obtain ⟨a0, len0, cap0, rfl⟩ := okWide_slice Try.underlying65 (hval 0 65 v0 rfl rfl)
  obtain ⟨ss0, c01⟩ : ∃ ss : List AStep, StepsAt W a0 len0 ss := by
    obtain ⟨fuel, hf⟩ := h0
    exact open_steps hf
  obtain ⟨x1, rfl, c11, c12, c13⟩ := open_stepv (hval 1 81 v1 rfl rfl) h1
  clear hA0 hval0
  refine (refuses_walk a0 len0 cap0 ss0 x1 W c01 c11 c12 c13).mono fun e W' ⟨he, bel⟩ => ?_
  subst he
  exact ⟨_, rfl, _, _, _, [], _, [], hW', trodAll_mk1 (shut_bool Try.underlying4 _), (trodAll_cons_mk (Below.trod laidOut0 (by kernel_rfl) (of_decide_eq_true (by kernel_rfl)) k0 bel lt0) (trodAll_cons_mk (Below.trod laidOut0 (by kernel_rfl) (of_decide_eq_true (by kernel_rfl)) k1 bel lt1) trodAll_mk0)), rfl, bel.frame _, fun h => by cases h⟩

theorem storeRefuses_over : Rows.storeRefusesRow.holds Try.pinned (OpenSpec.ofChange Rows.storeRefusesSpec) :=
  OpenClaim.holds_of_wide 14 Try.f14 rfl rfl rfl rfl rfl rfl rfl ⟨rfl, rfl, rfl, rfl, rfl⟩ rfl rfl rfl rfl rfl (by kernel_rfl) Try.func14 (by kernel_rfl)
    (of_decide_eq_true (by kernel_rfl)) (by unfold Func.isWrapper; first | (rw [if_pos (by decide +kernel)]; kernel_rfl) | (rw [if_neg (by decide +kernel)]; exact ⟨rfl, rfl⟩))
    (fun os started H enc _ => storeRefuses_lifted os started H enc)

theorem storeRefuses_holds : Rows.StoreRefusesSaid := storeRefuses_over
#print axioms storeRefuses_holds

end Go.Proofs.Ytlndphpidkacgaa

