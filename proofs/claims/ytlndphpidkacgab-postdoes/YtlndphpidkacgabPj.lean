/- PostDoes: the walk. -/
import Derived.Test.YtlndphpidkacgabPi
namespace Go.Proofs.Ytlndphpidkacgab
open Go.RowKit
set_option linter.unusedSimpArgs false
set_option linter.unusedVariables false

theorem below_dr (w : World) : Below w.heap.size w w.drew := ⟨rfl, rfl, rfl, Nat.le_refl _, fun _ _ => rfl⟩
theorem Both.start (w : World) : Both w.heap.size ((w.alloc (.cells #[.slice none 0 0] 47)).alloc (.cells #[.slice none 0 0] 27)) w.heap.size (.slice none 0 0) [] (w.heap.size + 1) (.slice none 0 0) [] := by
  have hb : Below (w.alloc (.cells #[.slice none 0 0] 47)).heap.size (w.alloc (.cells #[.slice none 0 0] 47)) ((w.alloc (.cells #[.slice none 0 0] 47)).alloc (.cells #[.slice none 0 0] 27)) := (Below.refl _ _).alloc (Nat.le_refl _) _
  refine ⟨(PRep.start 47 w).below hb, ⟨by omega, ?_, World.ownsRow_nil _ _ _ _, by simp [Value.ownBlock], by simp, by simp⟩, fun k h1 h2 => ?_⟩
  · have := heap_alloc_new (w.alloc (.cells #[.slice none 0 0] 47)) (.cells #[.slice none 0 0] 27)
    simpa using this
  · simp [powns, Value.ownBlock] at h1 h2
    omega
theorem Both.ge {N : Nat} {w : World} {P : Nat} {v : Value} {ms : List APkt} {B : Nat} {u : Value} {bs : List APkt} (h : Both N w P v ms B u bs) : ∀ k, k ∈ powns P v ∨ k ∈ powns B u → N ≤ k ∧ k < w.heap.size := fun k hk => by
  rcases hk with h1 | h1
  · exact h.p.ge k h1
  · exact h.b.ge k h1
/-- A block of the statement's own stands over a call. -/
theorem PTurn.blk {t : TypeId} {N : Nat} {w w' : World} {P : Nat} {v : Value} {ms' : List APkt} (hT : PTurn t N w P v w' ms') {X : Nat} (hX : X < w.heap.size) (hn : X ∉ powns P v) : w'.heap[X]? = w.heap[X]? := by
  obtain ⟨v', hr, hk, _⟩ := hT
  exact hk.block X hX hn
theorem aPStep_0 (ms : List APkt) (n : Int) (m : APkt) : aPStep ms ⟨0, n, m⟩ = aSend ms m := rfl
theorem aPStep_1 (ms : List APkt) (n : Int) (m : APkt) : aPStep ms ⟨1, n, m⟩ = aTakeL ms n := rfl
theorem aPStep_2 (ms : List APkt) (n : Int) (m : APkt) : aPStep ms ⟨2, n, m⟩ = aDblL ms n := rfl

set_option maxRecDepth 100000 in
set_option maxHeartbeats 8000000 in
theorem pdoes_walk (a0 : Option Addr) (n0 c0 : Nat) (ls : List APStep) (w : World) (hl : PStepsAt w a0 n0 ls) :
    Calls Try.prog 3 #[.slice a0 n0 c0] w fun e w' => e = .returned (.bool true) ∧ Below w.heap.size w w' := by
  have HBG := hide postBegun_any
  have HNW := hide (fun W => New_P W)
  have HL := hide hl
  have hn0 := hl.2.1
  unfold maxLen at hn0
  clear hl
  go_enter Try.func3, Try.ntmps3
  go_wp2_with fail
  refine ((unhide HBG) _).mono ?_
  rintro e w2 ⟨rfl, b2⟩
  have HB2 := hide b2
  clear b2
  by_cases hbig : (200 : Int) < (n0 : Int)
  · go_wp2
    go_ret
    exact ⟨rfl, unhide HB2⟩
  go_wp2_with fail
  refine ((unhide HNW) _).mono ?_
  rintro e w3 ⟨rfl, rfl⟩
  have HP0 := hide (Both.start w2)
  have HB0 : Hid (Below w2.heap.size w2 ((w2.alloc (.cells #[.slice none 0 0] 47)).alloc (.cells #[.slice none 0 0] 27))) := ((Below.refl _ _).alloc (Nat.le_refl _) _).alloc (by simp) _
  have hzw : w.heap.size ≤ w2.heap.size := (unhide HB2).size
  obtain ⟨B, hB⟩ : ∃ B, B = w2.heap.size + 1 := ⟨_, rfl⟩
  rw [← hB] at HP0
  have HNB := hide hB
  clear hB
  go_wp2_with fail
  rw [← unhide HNB]
  go_loopw [5] (fun i wr => ∃ (q : Nat) (v u : Value) (ms : List APkt), q ≤ n0 ∧ i = .int .i64 (q : Int) ∧ Hid (Both w2.heap.size wr w2.heap.size v ms B u ms) ∧ Hid (Below w2.heap.size w2 wr)) (fun i _ => n0 - (intOf i).toNat)
  case atStart => exact ⟨0, _, _, [], Nat.zero_le _, rfl, unhide HP0, unhide HB0⟩
  case round =>
    obtain ⟨q, v, u, ms, hq, rfl, HP, HB⟩ := hrel
    have HBw := hide ((unhide HB2).trans ((unhide HB).mono hzw))
    by_cases hlt : (q : Int) < (n0 : Int)
    · obtain ⟨y, hy⟩ : ∃ y, ls[q]? = some y := ⟨_, List.getElem?_eq_getElem (by rw [(unhide HL).1]; omega)⟩
      obtain ⟨b, off, rfl, hc⟩ := ((unhide HL).below (unhide HBw)).2.2.2 (by omega)
      obtain ⟨g0, g1, g2, g3, g4, g5, g6, g7, g8, g9, g10⟩ := hc q y hy
      have hsz := (unhide HL).2.2.1 y (List.mem_of_getElem? hy)
      obtain ⟨X, hX⟩ : ∃ X, X = wr.heap.size := ⟨_, rfl⟩
      obtain ⟨V, hV⟩ : ∃ V, V = wr.alloc (.cells (pxcells y).toArray 35) := ⟨_, rfl⟩
      have hbV : Below wr.heap.size wr V := by rw [hV]; exact (Below.refl _ _).alloc (Nat.le_refl _) _
      have hxb : V.heap[X]? = some (.cells (pxcells y).toArray 35 (0, 0)) := by rw [hV, hX]; exact heap_alloc_new _ _
      have HXV := hide (PStepAt.blk hxb)
      have HPV := hide ((unhide HP).below hbV)
      have HBV := hide ((unhide HB).trans (hbV.mono (unhide HB).size))
      have hXV : X < V.heap.size := (Array.getElem?_eq_some_iff.1 hxb).1
      have HXN : Hid (X ∉ powns w2.heap.size v ∧ X ∉ powns B u) := ⟨fun hm => by have := ((unhide HP).ge X (.inl hm)).2; omega, fun hm => by have := ((unhide HP).ge X (.inr hm)).2; omega⟩
      have HV := hide hV
      have HX := hide hX
      have HSM := hide hsz
      clear hc hy hsz hbV hxb hV hX
      obtain ⟨ya, yn, my⟩ := y
      dsimp only [pxcells] at *
      obtain ⟨sb, hsb⟩ : ∃ b, decide (ms.length < 40) = b := ⟨_, rfl⟩
      obtain ⟨db, hdb⟩ : ∃ b, aDblB ms = b := ⟨_, rfl⟩
      obtain ⟨tb, htb⟩ : ∃ b, aTakeB ms = b := ⟨_, rfl⟩
      have HSB := hide hsb
      have HDB := hide hdb
      have HTB := hide htb
      have hs1 : (sb != sb) = false := by simp
      have hs2 : (db != db) = false := by simp
      have hs3 : (tb != tb) = false := by simp
      clear hsb hdb htb
      obtain ⟨my0, my1, my2, ⟨my3, my4, my5, my6⟩, my7, my8⟩ := my
      dsimp only at *
      by_cases h0 : ya = 0
      · subst h0
        go_wp2_with fail
        rw [← unhide HV, ← unhide HX]
        clear g0 g1 g2 g3 g4 g5 g6 g7 g8 g9 g10
        refine wp_region_held_drew (S := (fun wx => PStepAt wx X 0 ⟨0, yn, ⟨my0, my1, my2, ⟨my3, my4, my5, my6⟩, my7, my8⟩⟩)) (by kernel_rfl) ((unhide HXV).same rfl) (fun hHeld => ?_)
        refine wpAnyH_take (i := 0) (v := ?_) opn0 (by kernel_rfl) (by kernel_rfl) (by kernel_rfl) (fun _ _ _ h => h) (Or.inl ⟨by rfl, ?_⟩) (by assumption) ?_
        rotate_left 1
        · intro wz hSw
          try dsimp only at hSw
          go_simp
          all_goals with_reducible rfl
        try simp only [Act.put, List.setIfInBounds_toArray, List.set_cons_zero, List.set_cons_succ]
        refine wpAnyH_take (i := 1) (v := ?_) opn1 (by kernel_rfl) (by kernel_rfl) (by kernel_rfl) (fun _ _ _ h => h) (Or.inl ⟨by rfl, ?_⟩) (by assumption) ?_
        rotate_left 1
        · intro wz hSw
          try dsimp only at hSw
          go_simp
          all_goals with_reducible rfl
        try simp only [Act.put, List.setIfInBounds_toArray, List.set_cons_zero, List.set_cons_succ]
        refine wpAnyH_take (i := 2) (v := ?_) opn2 (by kernel_rfl) (by kernel_rfl) (by kernel_rfl) (fun _ _ _ h => h) (Or.inl ⟨by rfl, ?_⟩) (by assumption) ?_
        rotate_left 1
        · intro wz hSw
          try dsimp only at hSw
          obtain ⟨y0, y1, x0, x1, x2, x3, x4, x5, x6, x7, x8⟩ := hSw
          simp only [Nat.zero_add] at *
          go_simp
          all_goals with_reducible rfl
        try simp only [Act.put, List.setIfInBounds_toArray, List.set_cons_zero, List.set_cons_succ]
        refine wpAnyH_take (i := 4) (v := ?_) opn4 (by kernel_rfl) (by kernel_rfl) (by kernel_rfl) (fun _ _ _ h => h) (Or.inl ⟨by rfl, ?_⟩) (by assumption) ?_
        rotate_left 1
        · intro wz hSw
          try dsimp only at hSw
          go_simp
          all_goals with_reducible rfl
        try simp only [Act.put, List.setIfInBounds_toArray, List.set_cons_zero, List.set_cons_succ]
        refine wpAnyH_take (i := 5) (v := ?_) opn5 (by kernel_rfl) (by kernel_rfl) (by kernel_rfl) (fun _ _ _ h => h) (Or.inl ⟨by rfl, ?_⟩) (by assumption) ?_
        rotate_left 1
        · intro wz hSw
          try dsimp only at hSw
          obtain ⟨y0, y1, x0, x1, x2, x3, x4, x5, x6, x7, x8⟩ := hSw
          simp only [Nat.zero_add] at *
          go_simp
          all_goals with_reducible rfl
        try simp only [Act.put, List.setIfInBounds_toArray, List.set_cons_zero, List.set_cons_succ]
        have hPd := (unhide HPV).below (below_dr V)
        have hc1 := PSend_any hPd.p ⟨my0, my1, my2, ⟨my3, my4, my5, my6⟩, my7, my8⟩ (unhide HSM)
        rw [unhide HSB] at hc1
        have HC1 := hide hc1
        have HPd := hide hPd
        clear hc1 hPd
        refine wpAnyH_ready (rs := [3]) (by kernel_rfl) (by simp) ?_
        refine AllReadyH.cons opn3 (fun K hK => ?_) AllReadyH.nil
        go_simp
        refine (unhide HC1).mono ?_
        rintro e w5 ⟨rfl, hT⟩
        have hbT := hT.below (unhide HPd).p
        obtain ⟨v2, hP5⟩ := (unhide HPd).turnP hT
        have hXB : X ∉ powns B u := (unhide HXN).2
        refine hK.out _ _ (hHeld.same (hT.blk hXV (unhide HXN).1)) (fun hHeldN => ?_)
        clear hHeld hK K
        have hHeld := hHeldN
        clear hHeldN
        try simp only [Act.put, List.setIfInBounds_toArray, List.set_cons_zero, List.set_cons_succ]
        have hB5 := ((unhide HBV).trans ((below_dr V).mono (unhide HBV).size)).trans hbT
        have hc2 := BSend_any hP5.b ⟨my0, my1, my2, ⟨my3, my4, my5, my6⟩, my7, my8⟩ (unhide HSM)
        rw [unhide HSB] at hc2
        have HC2 := hide hc2
        have HP5 := hide hP5
        have HB5 := hide hB5
        have hX5 : X < w5.heap.size := by have := hbT.size; have : V.drew.heap.size = V.heap.size := rfl; omega
        clear hT hbT hP5 hB5 hc2
        refine wpAnyH_ready (rs := [6]) (by kernel_rfl) (by simp) ?_
        refine AllReadyH.cons opn6 (fun K hK => ?_) AllReadyH.nil
        go_simp
        refine (unhide HC2).mono ?_
        rintro e wz ⟨rfl, hT⟩
        have hbT := hT.below (unhide HP5).b
        obtain ⟨u2, hPz⟩ := (unhide HP5).turnB hT
        refine hK.out _ _ (hHeld.same (hT.blk hX5 hXB)) (fun hHeldN => ?_)
        clear hHeld hK K
        have hHeld := hHeldN
        clear hHeldN
        try simp only [Act.put, List.setIfInBounds_toArray, List.set_cons_zero, List.set_cons_succ]
        have HPz := hide hPz
        have HBz := hide ((unhide HB5).trans hbT)
        clear hT hbT hPz
        refine wpAnyH_take (i := 7) (v := ?_) opn7 (by kernel_rfl) (by kernel_rfl) (by kernel_rfl) (fun _ _ _ h => h) (Or.inl ⟨by rfl, ?_⟩) (by assumption) ?_
        rotate_left 1
        · intro wz hSw
          try dsimp only at hSw
          go_simp
          all_goals with_reducible rfl
        try simp only [Act.put, List.setIfInBounds_toArray, List.set_cons_zero, List.set_cons_succ]
        refine wpAnyH_done (by kernel_rfl) ?_ _
        clear hHeld
        obtain ⟨ms2, hms2⟩ : ∃ l, aSend ms ⟨my0, my1, my2, ⟨my3, my4, my5, my6⟩, my7, my8⟩ = l := ⟨_, rfl⟩
        rw [hms2] at HPz
        clear hms2
        obtain ⟨k2, hk2⟩ : ∃ k, ms2.length = k := ⟨_, rfl⟩
        have HK2 := hide hk2
        obtain ⟨ua, uc, hu2⟩ := (unhide HPz).b.form
        rw [hk2] at hu2
        subst hu2
        have hk40 : k2 ≤ 40 := by rw [← hk2]; exact (unhide HPz).b.few
        have hkk : ((k2 : Int) != (k2 : Int)) = false := by simp
        clear hk2
        go_wp2_with fail
        refine wp_region_held_drew (S := (fun wx => Both w2.heap.size wx w2.heap.size v2 ms2 B (.slice ua k2 uc) ms2 ∧ Below w2.heap.size w2 wx)) (by kernel_rfl) ⟨(unhide HPz).below (below_dr _), (unhide HBz).trans ((below_dr _).mono (unhide HBz).size)⟩ (fun hHeld => ?_)
        refine wpAnyH_take (i := 0) (v := ?_) opn0 (by kernel_rfl) (by kernel_rfl) (by kernel_rfl) (fun _ _ _ h => h) (Or.inl ⟨by rfl, ?_⟩) (by assumption) ?_
        rotate_left 1
        · intro wz hSw
          try dsimp only at hSw
          go_simp
          all_goals with_reducible rfl
        try simp only [Act.put, List.setIfInBounds_toArray, List.set_cons_zero, List.set_cons_succ]
        refine wpAnyH_take (i := 2) (v := ?_) opn2 (by kernel_rfl) (by kernel_rfl) (by kernel_rfl) (fun _ _ _ h => h) (Or.inl ⟨by rfl, ?_⟩) (by assumption) ?_
        rotate_left 1
        · intro wz hSw
          try dsimp only at hSw
          have hq := hSw.1.b.can.1
          go_simp
          all_goals with_reducible rfl
        try simp only [Act.put, List.setIfInBounds_toArray, List.set_cons_zero, List.set_cons_succ]
        refine wpAnyH_take (i := 3) (v := ?_) opn3 (by kernel_rfl) (by kernel_rfl) (by kernel_rfl) (fun _ _ _ h => h) (Or.inl ⟨by rfl, ?_⟩) (by assumption) ?_
        rotate_left 1
        · intro wz hSw
          try dsimp only at hSw
          go_simp
          all_goals with_reducible rfl
        try simp only [Act.put, List.setIfInBounds_toArray, List.set_cons_zero, List.set_cons_succ]
        refine wpAnyH_ready (rs := [1]) (by kernel_rfl) (by simp) ?_
        refine AllReadyH.cons opn1 (fun K hK => ?_) AllReadyH.nil
        go_simp
        refine (Len_P hHeld.1.p (unhide HK2)).mono ?_
        rintro e wL ⟨rfl, rfl⟩
        refine hK.out _ _ hHeld (fun hHeldN => ?_)
        clear hHeld hK K
        have hHeld := hHeldN
        clear hHeldN
        try simp only [Act.put, List.setIfInBounds_toArray, List.set_cons_zero, List.set_cons_succ]
        refine wpAnyH_take (i := 4) (v := ?_) opn4 (by kernel_rfl) (by kernel_rfl) (by kernel_rfl) (fun _ _ _ h => h) (Or.inl ⟨by rfl, ?_⟩) (by assumption) ?_
        rotate_left 1
        · intro wz hSw
          try dsimp only at hSw
          go_simp
          all_goals with_reducible rfl
        try simp only [Act.put, List.setIfInBounds_toArray, List.set_cons_zero, List.set_cons_succ]
        refine wpAnyH_take (i := 5) (v := ?_) opn5 (by kernel_rfl) (by kernel_rfl) (by kernel_rfl) (fun _ _ _ h => h) (Or.inl ⟨by rfl, ?_⟩) (by assumption) ?_
        rotate_left 1
        · intro wz hSw
          try dsimp only at hSw
          go_simp
          all_goals with_reducible rfl
        try simp only [Act.put, List.setIfInBounds_toArray, List.set_cons_zero, List.set_cons_succ]
        refine wpAnyH_take (i := 6) (v := ?_) opn6 (by kernel_rfl) (by kernel_rfl) (by kernel_rfl) (fun _ _ _ h => h) (Or.inl ⟨by rfl, ?_⟩) (by assumption) ?_
        rotate_left 1
        · intro wz hSw
          try dsimp only at hSw
          go_simp
          all_goals with_reducible rfl
        try simp only [Act.put, List.setIfInBounds_toArray, List.set_cons_zero, List.set_cons_succ]
        refine wpAnyH_take (i := 8) (v := ?_) opn8 (by kernel_rfl) (by kernel_rfl) (by kernel_rfl) (fun _ _ _ h => h) (Or.inl ⟨by rfl, ?_⟩) (by assumption) ?_
        rotate_left 1
        · intro wz hSw
          try dsimp only at hSw
          have hq := hSw.1.b.can.1
          go_simp
          all_goals with_reducible rfl
        try simp only [Act.put, List.setIfInBounds_toArray, List.set_cons_zero, List.set_cons_succ]
        refine wpAnyH_ready (rs := [7]) (by kernel_rfl) (by simp) ?_
        refine AllReadyH.cons opn7 (fun K hK => ?_) AllReadyH.nil
        go_simp
        refine (List_P hHeld.1.p (unhide HK2)).mono ?_
        rintro e wM ⟨gl, cl, rfl, ol, bM⟩
        have hpl := pkts_row ol (unhide HK2)
        refine hK.out _ _ ⟨hHeld.1.below bM, hHeld.2.trans (bM.mono hHeld.2.size)⟩ (fun hHeldN => ?_)
        clear hHeld hK K
        have hHeld := hHeldN
        clear hHeldN
        try simp only [Act.put, List.setIfInBounds_toArray, List.set_cons_zero, List.set_cons_succ]
        have hbl : PktsAt wM ua k2 ms2 := by have := hHeld.1.b.row; rw [unhide HK2] at this; exact pkts_row this (unhide HK2)
        have HSP := hide (SamePackets_any (some ⟨gl, 0, none⟩) ua k2 k2 cl uc ms2 ms2 wM hpl hbl (by omega) (by omega) true ⟨fun _ => rfl, fun _ => rfl⟩)
        clear hpl hbl
        refine wpAnyH_ready (rs := [9]) (by kernel_rfl) (by simp) ?_
        refine AllReadyH.cons opn9 (fun K hK => ?_) AllReadyH.nil
        go_simp
        refine (unhide HSP).mono ?_
        rintro e wO ⟨rfl, bO⟩
        refine hK.out _ _ ⟨hHeld.1.below bO, hHeld.2.trans (bO.mono hHeld.2.size)⟩ (fun hHeldN => ?_)
        clear hHeld hK K
        have hHeld := hHeldN
        clear hHeldN
        try simp only [Act.put, List.setIfInBounds_toArray, List.set_cons_zero, List.set_cons_succ]
        refine wpAnyH_take (i := 10) (v := ?_) opn10 (by kernel_rfl) (by kernel_rfl) (by kernel_rfl) (fun _ _ _ h => h) (Or.inl ⟨by rfl, ?_⟩) (by assumption) ?_
        rotate_left 1
        · intro wz hSw
          try dsimp only at hSw
          go_simp
          all_goals with_reducible rfl
        try simp only [Act.put, List.setIfInBounds_toArray, List.set_cons_zero, List.set_cons_succ]
        refine wpAnyH_take (i := 11) (v := ?_) opn11 (by kernel_rfl) (by kernel_rfl) (by kernel_rfl) (fun _ _ _ h => h) (Or.inl ⟨by rfl, ?_⟩) (by assumption) ?_
        rotate_left 1
        · intro wz hSw
          try dsimp only at hSw
          go_simp
          all_goals with_reducible rfl
        try simp only [Act.put, List.setIfInBounds_toArray, List.set_cons_zero, List.set_cons_succ]
        refine wpAnyH_done (by kernel_rfl) ?_ _
        have HPF := hide hHeld.1
        have HBF := hide hHeld.2
        clear hHeld
        go_wp2
        go_roundw
        case rel => exact ⟨q + 1, _, _, ms2, by omega, by go_num, unhide HPF, unhide HBF⟩
        case measure => simp [intOf]; omega
      by_cases h1 : ya = 1
      · subst h1
        obtain ⟨tm, htm⟩ : ∃ t, aTakeM ms yn = t := ⟨_, rfl⟩
        have hc1 := PTake_any (unhide HPV).p yn
        rw [htm, unhide HTB] at hc1
        have HC1 := hide hc1
        have HTM := hide htm
        have eP := fun W => neqP tm tm W
        rw [pktB_self] at eP
        obtain ⟨t0, t1, t2, ⟨t3, t4, t5, t6⟩, t7, t8⟩ := tm
        dsimp only [APkt.val, Bool.not_true] at *
        clear hc1 htm
        go_wp2_with fail
        rw [← unhide HV]
        clear g0 g1 g2 g3 g4 g5 g6 g7 g8 g9 g10
        refine (unhide HC1).mono ?_
        rintro e w5 ⟨rfl, hT⟩
        have hx5 := (unhide HXV).same (hT.blk hXV (unhide HXN).1)
        have hbT := hT.below (unhide HPV).p
        obtain ⟨v2, hP5⟩ := (unhide HPV).turnP hT
        obtain ⟨V5, hV5⟩ : ∃ V, V = w5.alloc (.cells #[.bool t0, .int .i64 t1, .int .i64 t2, .int .i64 t3, .string t4, .string t5, .string t6, .int .i64 t7, .string t8] 33) := ⟨_, rfl⟩
        have hb5 : Below w5.heap.size w5 V5 := by rw [hV5]; exact (Below.refl _ _).alloc (Nat.le_refl _) _
        have hm5 : V5.heap[w5.heap.size]? = some (.cells #[.bool t0, .int .i64 t1, .int .i64 t2, .int .i64 t3, .string t4, .string t5, .string t6, .int .i64 t7, .string t8] 33 (0, 0)) := by rw [hV5]; exact heap_alloc_new _ _
        have hPV5 := hP5.below hb5
        have hB5 := (unhide HBV).trans hbT
        have HBV5 := hide (hB5.trans (hb5.mono hB5.size))
        have hc2 := BTake_any hPV5.b yn
        rw [unhide HTM, unhide HTB] at hc2
        have HC2 := hide hc2
        have HP5 := hide hPV5
        have HM5 := hide hm5
        have HM5N : Hid (w5.heap.size ∉ powns B u) := fun hm => by have := (hP5.b.ge _ hm).2; omega
        have HV5 := hide hV5
        obtain ⟨y0, y1, x0, x1, x2, x3, x4, x5, x6, x7, x8⟩ := hx5
        rw [unhide HX] at y0 y1
        clear hT hbT hP5 hb5 hm5 hPV5 hB5 hc2 hV5 x0 x1 x2 x3 x4 x5 x6 x7 x8
        simp only [Nat.zero_add] at y1
        have hxl : wr.heap.size < w5.heap.size := World.block_lt_of_cell? _ _ y0
        dsimp only [APkt.val] at HC2
        go_wp2_with fail
        rw [← unhide HV5]
        clear y0 y1
        refine (unhide HC2).mono ?_
        rintro e w6 ⟨rfl, hT⟩
        have hm6 := (hT.blk (Array.getElem?_eq_some_iff.1 (unhide HM5)).1 (unhide HM5N)).trans (unhide HM5)
        have hbT := hT.below (unhide HP5).b
        obtain ⟨u2, hP6⟩ := (unhide HP5).turnB hT
        obtain ⟨wz, hwz⟩ : ∃ V, V = w6.alloc (.cells #[.bool t0, .int .i64 t1, .int .i64 t2, .int .i64 t3, .string t4, .string t5, .string t6, .int .i64 t7, .string t8] 33) := ⟨_, rfl⟩
        have hb6 : Below w6.heap.size w6 wz := by rw [hwz]; exact (Below.refl _ _).alloc (Nat.le_refl _) _
        have hm7 := (hb6.block _ (Array.getElem?_eq_some_iff.1 hm6).1).trans hm6
        have hn7 : wz.heap[w6.heap.size]? = some (.cells #[.bool t0, .int .i64 t1, .int .i64 t2, .int .i64 t3, .string t4, .string t5, .string t6, .int .i64 t7, .string t8] 33 (0, 0)) := by rw [hwz]; exact heap_alloc_new _ _
        have hB6 := (unhide HBV5).trans hbT
        have HBz := hide (hB6.trans (hb6.mono hB6.size))
        have HPz := hide (hP6.below hb6)
        obtain ⟨⟨x0, x1, x2, x3⟩, ⟨x4, x5, x6, x7, x8⟩, _⟩ := nine hm6
        have hml : w5.heap.size < w6.heap.size := (Array.getElem?_eq_some_iff.1 hm6).1
        have HWZ := hide hwz
        clear hT hbT hP6 hb6 hm6 hm7 hn7 hB6 hwz
        obtain ⟨ms2, hms2⟩ : ∃ l, aTakeL ms yn = l := ⟨_, rfl⟩
        rw [hms2] at HPz
        clear hms2
        obtain ⟨k2, hk2⟩ : ∃ k, ms2.length = k := ⟨_, rfl⟩
        have HK2 := hide hk2
        obtain ⟨ua, uc, hu2⟩ := (unhide HPz).b.form
        rw [hk2] at hu2
        subst hu2
        have hk40 : k2 ≤ 40 := by rw [← hk2]; exact (unhide HPz).b.few
        have hkk : ((k2 : Int) != (k2 : Int)) = false := by simp
        clear hk2
        go_wp2_with fail
        rw [← unhide HWZ]
        clear x0 x1 x2 x3 x4 x5 x6 x7 x8
        refine wp_region_held_drew (S := (fun wx => Both w2.heap.size wx w2.heap.size v2 ms2 B (.slice ua k2 uc) ms2 ∧ Below w2.heap.size w2 wx)) (by kernel_rfl) ⟨(unhide HPz).below (below_dr _), (unhide HBz).trans ((below_dr _).mono (unhide HBz).size)⟩ (fun hHeld => ?_)
        refine wpAnyH_take (i := 0) (v := ?_) opn0 (by kernel_rfl) (by kernel_rfl) (by kernel_rfl) (fun _ _ _ h => h) (Or.inl ⟨by rfl, ?_⟩) (by assumption) ?_
        rotate_left 1
        · intro wz hSw
          try dsimp only at hSw
          go_simp
          all_goals with_reducible rfl
        try simp only [Act.put, List.setIfInBounds_toArray, List.set_cons_zero, List.set_cons_succ]
        refine wpAnyH_take (i := 2) (v := ?_) opn2 (by kernel_rfl) (by kernel_rfl) (by kernel_rfl) (fun _ _ _ h => h) (Or.inl ⟨by rfl, ?_⟩) (by assumption) ?_
        rotate_left 1
        · intro wz hSw
          try dsimp only at hSw
          have hq := hSw.1.b.can.1
          go_simp
          all_goals with_reducible rfl
        try simp only [Act.put, List.setIfInBounds_toArray, List.set_cons_zero, List.set_cons_succ]
        refine wpAnyH_take (i := 3) (v := ?_) opn3 (by kernel_rfl) (by kernel_rfl) (by kernel_rfl) (fun _ _ _ h => h) (Or.inl ⟨by rfl, ?_⟩) (by assumption) ?_
        rotate_left 1
        · intro wz hSw
          try dsimp only at hSw
          go_simp
          all_goals with_reducible rfl
        try simp only [Act.put, List.setIfInBounds_toArray, List.set_cons_zero, List.set_cons_succ]
        refine wpAnyH_ready (rs := [1]) (by kernel_rfl) (by simp) ?_
        refine AllReadyH.cons opn1 (fun K hK => ?_) AllReadyH.nil
        go_simp
        refine (Len_P hHeld.1.p (unhide HK2)).mono ?_
        rintro e wL ⟨rfl, rfl⟩
        refine hK.out _ _ hHeld (fun hHeldN => ?_)
        clear hHeld hK K
        have hHeld := hHeldN
        clear hHeldN
        try simp only [Act.put, List.setIfInBounds_toArray, List.set_cons_zero, List.set_cons_succ]
        refine wpAnyH_take (i := 4) (v := ?_) opn4 (by kernel_rfl) (by kernel_rfl) (by kernel_rfl) (fun _ _ _ h => h) (Or.inl ⟨by rfl, ?_⟩) (by assumption) ?_
        rotate_left 1
        · intro wz hSw
          try dsimp only at hSw
          go_simp
          all_goals with_reducible rfl
        try simp only [Act.put, List.setIfInBounds_toArray, List.set_cons_zero, List.set_cons_succ]
        refine wpAnyH_take (i := 5) (v := ?_) opn5 (by kernel_rfl) (by kernel_rfl) (by kernel_rfl) (fun _ _ _ h => h) (Or.inl ⟨by rfl, ?_⟩) (by assumption) ?_
        rotate_left 1
        · intro wz hSw
          try dsimp only at hSw
          go_simp
          all_goals with_reducible rfl
        try simp only [Act.put, List.setIfInBounds_toArray, List.set_cons_zero, List.set_cons_succ]
        refine wpAnyH_take (i := 6) (v := ?_) opn6 (by kernel_rfl) (by kernel_rfl) (by kernel_rfl) (fun _ _ _ h => h) (Or.inl ⟨by rfl, ?_⟩) (by assumption) ?_
        rotate_left 1
        · intro wz hSw
          try dsimp only at hSw
          go_simp
          all_goals with_reducible rfl
        try simp only [Act.put, List.setIfInBounds_toArray, List.set_cons_zero, List.set_cons_succ]
        refine wpAnyH_take (i := 8) (v := ?_) opn8 (by kernel_rfl) (by kernel_rfl) (by kernel_rfl) (fun _ _ _ h => h) (Or.inl ⟨by rfl, ?_⟩) (by assumption) ?_
        rotate_left 1
        · intro wz hSw
          try dsimp only at hSw
          have hq := hSw.1.b.can.1
          go_simp
          all_goals with_reducible rfl
        try simp only [Act.put, List.setIfInBounds_toArray, List.set_cons_zero, List.set_cons_succ]
        refine wpAnyH_ready (rs := [7]) (by kernel_rfl) (by simp) ?_
        refine AllReadyH.cons opn7 (fun K hK => ?_) AllReadyH.nil
        go_simp
        refine (List_P hHeld.1.p (unhide HK2)).mono ?_
        rintro e wM ⟨gl, cl, rfl, ol, bM⟩
        have hpl := pkts_row ol (unhide HK2)
        refine hK.out _ _ ⟨hHeld.1.below bM, hHeld.2.trans (bM.mono hHeld.2.size)⟩ (fun hHeldN => ?_)
        clear hHeld hK K
        have hHeld := hHeldN
        clear hHeldN
        try simp only [Act.put, List.setIfInBounds_toArray, List.set_cons_zero, List.set_cons_succ]
        have hbl : PktsAt wM ua k2 ms2 := by have := hHeld.1.b.row; rw [unhide HK2] at this; exact pkts_row this (unhide HK2)
        have HSP := hide (SamePackets_any (some ⟨gl, 0, none⟩) ua k2 k2 cl uc ms2 ms2 wM hpl hbl (by omega) (by omega) true ⟨fun _ => rfl, fun _ => rfl⟩)
        clear hpl hbl
        refine wpAnyH_ready (rs := [9]) (by kernel_rfl) (by simp) ?_
        refine AllReadyH.cons opn9 (fun K hK => ?_) AllReadyH.nil
        go_simp
        refine (unhide HSP).mono ?_
        rintro e wO ⟨rfl, bO⟩
        refine hK.out _ _ ⟨hHeld.1.below bO, hHeld.2.trans (bO.mono hHeld.2.size)⟩ (fun hHeldN => ?_)
        clear hHeld hK K
        have hHeld := hHeldN
        clear hHeldN
        try simp only [Act.put, List.setIfInBounds_toArray, List.set_cons_zero, List.set_cons_succ]
        refine wpAnyH_take (i := 10) (v := ?_) opn10 (by kernel_rfl) (by kernel_rfl) (by kernel_rfl) (fun _ _ _ h => h) (Or.inl ⟨by rfl, ?_⟩) (by assumption) ?_
        rotate_left 1
        · intro wz hSw
          try dsimp only at hSw
          go_simp
          all_goals with_reducible rfl
        try simp only [Act.put, List.setIfInBounds_toArray, List.set_cons_zero, List.set_cons_succ]
        refine wpAnyH_take (i := 11) (v := ?_) opn11 (by kernel_rfl) (by kernel_rfl) (by kernel_rfl) (fun _ _ _ h => h) (Or.inl ⟨by rfl, ?_⟩) (by assumption) ?_
        rotate_left 1
        · intro wz hSw
          try dsimp only at hSw
          go_simp
          all_goals with_reducible rfl
        try simp only [Act.put, List.setIfInBounds_toArray, List.set_cons_zero, List.set_cons_succ]
        refine wpAnyH_done (by kernel_rfl) ?_ _
        have HPF := hide hHeld.1
        have HBF := hide hHeld.2
        clear hHeld
        go_wp2
        go_roundw
        case rel => exact ⟨q + 1, _, _, ms2, by omega, by go_num, unhide HPF, unhide HBF⟩
        case measure => simp [intOf]; omega
      by_cases h2 : ya = 2
      · subst h2
        go_wp2_with fail
        rw [← unhide HV, ← unhide HX]
        clear g0 g1 g2 g3 g4 g5 g6 g7 g8 g9 g10
        refine wp_region_held_drew (S := (fun wx => PStepAt wx X 0 ⟨2, yn, ⟨my0, my1, my2, ⟨my3, my4, my5, my6⟩, my7, my8⟩⟩)) (by kernel_rfl) ((unhide HXV).same rfl) (fun hHeld => ?_)
        refine wpAnyH_take (i := 0) (v := ?_) opn0 (by kernel_rfl) (by kernel_rfl) (by kernel_rfl) (fun _ _ _ h => h) (Or.inl ⟨by rfl, ?_⟩) (by assumption) ?_
        rotate_left 1
        · intro wz hSw
          try dsimp only at hSw
          go_simp
          all_goals with_reducible rfl
        try simp only [Act.put, List.setIfInBounds_toArray, List.set_cons_zero, List.set_cons_succ]
        refine wpAnyH_take (i := 1) (v := ?_) opn1 (by kernel_rfl) (by kernel_rfl) (by kernel_rfl) (fun _ _ _ h => h) (Or.inl ⟨by rfl, ?_⟩) (by assumption) ?_
        rotate_left 1
        · intro wz hSw
          try dsimp only at hSw
          go_simp
          all_goals with_reducible rfl
        try simp only [Act.put, List.setIfInBounds_toArray, List.set_cons_zero, List.set_cons_succ]
        refine wpAnyH_take (i := 2) (v := ?_) opn2 (by kernel_rfl) (by kernel_rfl) (by kernel_rfl) (fun _ _ _ h => h) (Or.inl ⟨by rfl, ?_⟩) (by assumption) ?_
        rotate_left 1
        · intro wz hSw
          try dsimp only at hSw
          obtain ⟨y0, y1, x0, x1, x2, x3, x4, x5, x6, x7, x8⟩ := hSw
          simp only [Nat.zero_add] at *
          go_simp
          all_goals with_reducible rfl
        try simp only [Act.put, List.setIfInBounds_toArray, List.set_cons_zero, List.set_cons_succ]
        refine wpAnyH_take (i := 4) (v := ?_) opn4 (by kernel_rfl) (by kernel_rfl) (by kernel_rfl) (fun _ _ _ h => h) (Or.inl ⟨by rfl, ?_⟩) (by assumption) ?_
        rotate_left 1
        · intro wz hSw
          try dsimp only at hSw
          go_simp
          all_goals with_reducible rfl
        try simp only [Act.put, List.setIfInBounds_toArray, List.set_cons_zero, List.set_cons_succ]
        refine wpAnyH_take (i := 5) (v := ?_) opn5 (by kernel_rfl) (by kernel_rfl) (by kernel_rfl) (fun _ _ _ h => h) (Or.inl ⟨by rfl, ?_⟩) (by assumption) ?_
        rotate_left 1
        · intro wz hSw
          try dsimp only at hSw
          obtain ⟨y0, y1, x0, x1, x2, x3, x4, x5, x6, x7, x8⟩ := hSw
          simp only [Nat.zero_add] at *
          go_simp
          all_goals with_reducible rfl
        try simp only [Act.put, List.setIfInBounds_toArray, List.set_cons_zero, List.set_cons_succ]
        have hPd := (unhide HPV).below (below_dr V)
        have hc1 := PDbl_any hPd.p yn
        rw [unhide HDB] at hc1
        have HC1 := hide hc1
        have HPd := hide hPd
        clear hc1 hPd
        refine wpAnyH_ready (rs := [3]) (by kernel_rfl) (by simp) ?_
        refine AllReadyH.cons opn3 (fun K hK => ?_) AllReadyH.nil
        go_simp
        refine (unhide HC1).mono ?_
        rintro e w5 ⟨rfl, hT⟩
        have hbT := hT.below (unhide HPd).p
        obtain ⟨v2, hP5⟩ := (unhide HPd).turnP hT
        have hXB : X ∉ powns B u := (unhide HXN).2
        refine hK.out _ _ (hHeld.same (hT.blk hXV (unhide HXN).1)) (fun hHeldN => ?_)
        clear hHeld hK K
        have hHeld := hHeldN
        clear hHeldN
        try simp only [Act.put, List.setIfInBounds_toArray, List.set_cons_zero, List.set_cons_succ]
        have hB5 := ((unhide HBV).trans ((below_dr V).mono (unhide HBV).size)).trans hbT
        have hc2 := BDbl_any hP5.b yn
        rw [unhide HDB] at hc2
        have HC2 := hide hc2
        have HP5 := hide hP5
        have HB5 := hide hB5
        have hX5 : X < w5.heap.size := by have := hbT.size; have : V.drew.heap.size = V.heap.size := rfl; omega
        clear hT hbT hP5 hB5 hc2
        refine wpAnyH_ready (rs := [6]) (by kernel_rfl) (by simp) ?_
        refine AllReadyH.cons opn6 (fun K hK => ?_) AllReadyH.nil
        go_simp
        refine (unhide HC2).mono ?_
        rintro e wz ⟨rfl, hT⟩
        have hbT := hT.below (unhide HP5).b
        obtain ⟨u2, hPz⟩ := (unhide HP5).turnB hT
        refine hK.out _ _ (hHeld.same (hT.blk hX5 hXB)) (fun hHeldN => ?_)
        clear hHeld hK K
        have hHeld := hHeldN
        clear hHeldN
        try simp only [Act.put, List.setIfInBounds_toArray, List.set_cons_zero, List.set_cons_succ]
        have HPz := hide hPz
        have HBz := hide ((unhide HB5).trans hbT)
        clear hT hbT hPz
        refine wpAnyH_take (i := 7) (v := ?_) opn7 (by kernel_rfl) (by kernel_rfl) (by kernel_rfl) (fun _ _ _ h => h) (Or.inl ⟨by rfl, ?_⟩) (by assumption) ?_
        rotate_left 1
        · intro wz hSw
          try dsimp only at hSw
          go_simp
          all_goals with_reducible rfl
        try simp only [Act.put, List.setIfInBounds_toArray, List.set_cons_zero, List.set_cons_succ]
        refine wpAnyH_done (by kernel_rfl) ?_ _
        clear hHeld
        obtain ⟨ms2, hms2⟩ : ∃ l, aDblL ms yn = l := ⟨_, rfl⟩
        rw [hms2] at HPz
        clear hms2
        obtain ⟨k2, hk2⟩ : ∃ k, ms2.length = k := ⟨_, rfl⟩
        have HK2 := hide hk2
        obtain ⟨ua, uc, hu2⟩ := (unhide HPz).b.form
        rw [hk2] at hu2
        subst hu2
        have hk40 : k2 ≤ 40 := by rw [← hk2]; exact (unhide HPz).b.few
        have hkk : ((k2 : Int) != (k2 : Int)) = false := by simp
        clear hk2
        go_wp2_with fail
        refine wp_region_held_drew (S := (fun wx => Both w2.heap.size wx w2.heap.size v2 ms2 B (.slice ua k2 uc) ms2 ∧ Below w2.heap.size w2 wx)) (by kernel_rfl) ⟨(unhide HPz).below (below_dr _), (unhide HBz).trans ((below_dr _).mono (unhide HBz).size)⟩ (fun hHeld => ?_)
        refine wpAnyH_take (i := 0) (v := ?_) opn0 (by kernel_rfl) (by kernel_rfl) (by kernel_rfl) (fun _ _ _ h => h) (Or.inl ⟨by rfl, ?_⟩) (by assumption) ?_
        rotate_left 1
        · intro wz hSw
          try dsimp only at hSw
          go_simp
          all_goals with_reducible rfl
        try simp only [Act.put, List.setIfInBounds_toArray, List.set_cons_zero, List.set_cons_succ]
        refine wpAnyH_take (i := 2) (v := ?_) opn2 (by kernel_rfl) (by kernel_rfl) (by kernel_rfl) (fun _ _ _ h => h) (Or.inl ⟨by rfl, ?_⟩) (by assumption) ?_
        rotate_left 1
        · intro wz hSw
          try dsimp only at hSw
          have hq := hSw.1.b.can.1
          go_simp
          all_goals with_reducible rfl
        try simp only [Act.put, List.setIfInBounds_toArray, List.set_cons_zero, List.set_cons_succ]
        refine wpAnyH_take (i := 3) (v := ?_) opn3 (by kernel_rfl) (by kernel_rfl) (by kernel_rfl) (fun _ _ _ h => h) (Or.inl ⟨by rfl, ?_⟩) (by assumption) ?_
        rotate_left 1
        · intro wz hSw
          try dsimp only at hSw
          go_simp
          all_goals with_reducible rfl
        try simp only [Act.put, List.setIfInBounds_toArray, List.set_cons_zero, List.set_cons_succ]
        refine wpAnyH_ready (rs := [1]) (by kernel_rfl) (by simp) ?_
        refine AllReadyH.cons opn1 (fun K hK => ?_) AllReadyH.nil
        go_simp
        refine (Len_P hHeld.1.p (unhide HK2)).mono ?_
        rintro e wL ⟨rfl, rfl⟩
        refine hK.out _ _ hHeld (fun hHeldN => ?_)
        clear hHeld hK K
        have hHeld := hHeldN
        clear hHeldN
        try simp only [Act.put, List.setIfInBounds_toArray, List.set_cons_zero, List.set_cons_succ]
        refine wpAnyH_take (i := 4) (v := ?_) opn4 (by kernel_rfl) (by kernel_rfl) (by kernel_rfl) (fun _ _ _ h => h) (Or.inl ⟨by rfl, ?_⟩) (by assumption) ?_
        rotate_left 1
        · intro wz hSw
          try dsimp only at hSw
          go_simp
          all_goals with_reducible rfl
        try simp only [Act.put, List.setIfInBounds_toArray, List.set_cons_zero, List.set_cons_succ]
        refine wpAnyH_take (i := 5) (v := ?_) opn5 (by kernel_rfl) (by kernel_rfl) (by kernel_rfl) (fun _ _ _ h => h) (Or.inl ⟨by rfl, ?_⟩) (by assumption) ?_
        rotate_left 1
        · intro wz hSw
          try dsimp only at hSw
          go_simp
          all_goals with_reducible rfl
        try simp only [Act.put, List.setIfInBounds_toArray, List.set_cons_zero, List.set_cons_succ]
        refine wpAnyH_take (i := 6) (v := ?_) opn6 (by kernel_rfl) (by kernel_rfl) (by kernel_rfl) (fun _ _ _ h => h) (Or.inl ⟨by rfl, ?_⟩) (by assumption) ?_
        rotate_left 1
        · intro wz hSw
          try dsimp only at hSw
          go_simp
          all_goals with_reducible rfl
        try simp only [Act.put, List.setIfInBounds_toArray, List.set_cons_zero, List.set_cons_succ]
        refine wpAnyH_take (i := 8) (v := ?_) opn8 (by kernel_rfl) (by kernel_rfl) (by kernel_rfl) (fun _ _ _ h => h) (Or.inl ⟨by rfl, ?_⟩) (by assumption) ?_
        rotate_left 1
        · intro wz hSw
          try dsimp only at hSw
          have hq := hSw.1.b.can.1
          go_simp
          all_goals with_reducible rfl
        try simp only [Act.put, List.setIfInBounds_toArray, List.set_cons_zero, List.set_cons_succ]
        refine wpAnyH_ready (rs := [7]) (by kernel_rfl) (by simp) ?_
        refine AllReadyH.cons opn7 (fun K hK => ?_) AllReadyH.nil
        go_simp
        refine (List_P hHeld.1.p (unhide HK2)).mono ?_
        rintro e wM ⟨gl, cl, rfl, ol, bM⟩
        have hpl := pkts_row ol (unhide HK2)
        refine hK.out _ _ ⟨hHeld.1.below bM, hHeld.2.trans (bM.mono hHeld.2.size)⟩ (fun hHeldN => ?_)
        clear hHeld hK K
        have hHeld := hHeldN
        clear hHeldN
        try simp only [Act.put, List.setIfInBounds_toArray, List.set_cons_zero, List.set_cons_succ]
        have hbl : PktsAt wM ua k2 ms2 := by have := hHeld.1.b.row; rw [unhide HK2] at this; exact pkts_row this (unhide HK2)
        have HSP := hide (SamePackets_any (some ⟨gl, 0, none⟩) ua k2 k2 cl uc ms2 ms2 wM hpl hbl (by omega) (by omega) true ⟨fun _ => rfl, fun _ => rfl⟩)
        clear hpl hbl
        refine wpAnyH_ready (rs := [9]) (by kernel_rfl) (by simp) ?_
        refine AllReadyH.cons opn9 (fun K hK => ?_) AllReadyH.nil
        go_simp
        refine (unhide HSP).mono ?_
        rintro e wO ⟨rfl, bO⟩
        refine hK.out _ _ ⟨hHeld.1.below bO, hHeld.2.trans (bO.mono hHeld.2.size)⟩ (fun hHeldN => ?_)
        clear hHeld hK K
        have hHeld := hHeldN
        clear hHeldN
        try simp only [Act.put, List.setIfInBounds_toArray, List.set_cons_zero, List.set_cons_succ]
        refine wpAnyH_take (i := 10) (v := ?_) opn10 (by kernel_rfl) (by kernel_rfl) (by kernel_rfl) (fun _ _ _ h => h) (Or.inl ⟨by rfl, ?_⟩) (by assumption) ?_
        rotate_left 1
        · intro wz hSw
          try dsimp only at hSw
          go_simp
          all_goals with_reducible rfl
        try simp only [Act.put, List.setIfInBounds_toArray, List.set_cons_zero, List.set_cons_succ]
        refine wpAnyH_take (i := 11) (v := ?_) opn11 (by kernel_rfl) (by kernel_rfl) (by kernel_rfl) (fun _ _ _ h => h) (Or.inl ⟨by rfl, ?_⟩) (by assumption) ?_
        rotate_left 1
        · intro wz hSw
          try dsimp only at hSw
          go_simp
          all_goals with_reducible rfl
        try simp only [Act.put, List.setIfInBounds_toArray, List.set_cons_zero, List.set_cons_succ]
        refine wpAnyH_done (by kernel_rfl) ?_ _
        have HPF := hide hHeld.1
        have HBF := hide hHeld.2
        clear hHeld
        go_wp2
        go_roundw
        case rel => exact ⟨q + 1, _, _, ms2, by omega, by go_num, unhide HPF, unhide HBF⟩
        case measure => simp [intOf]; omega
      have k0 : (ya == 0) = false := by simpa using h0
      have k1 : (ya == 1) = false := by simpa using h1
      have k2' : (ya == 2) = false := by simpa using h2
      clear h0 h1 h2
      have HPz := HPV
      have HBz := HBV
      obtain ⟨v2, hv2⟩ : ∃ x, x = v := ⟨_, rfl⟩
      obtain ⟨u2, hu2'⟩ : ∃ x, x = u := ⟨_, rfl⟩
      rw [← hv2, ← hu2'] at HPz
      clear hv2 hu2'
      obtain ⟨ms2, hms2⟩ : ∃ l, ms = l := ⟨_, rfl⟩
      rw [hms2] at HPz
      clear hms2
      obtain ⟨k2, hk2⟩ : ∃ k, ms2.length = k := ⟨_, rfl⟩
      have HK2 := hide hk2
      obtain ⟨ua, uc, hu2⟩ := (unhide HPz).b.form
      rw [hk2] at hu2
      subst hu2
      have hk40 : k2 ≤ 40 := by rw [← hk2]; exact (unhide HPz).b.few
      have hkk : ((k2 : Int) != (k2 : Int)) = false := by simp
      clear hk2
      go_wp2_with fail
      rw [← unhide HV]
      clear g0 g1 g2 g3 g4 g5 g6 g7 g8 g9 g10
      refine wp_region_held_drew (S := (fun wx => Both w2.heap.size wx w2.heap.size v2 ms2 B (.slice ua k2 uc) ms2 ∧ Below w2.heap.size w2 wx)) (by kernel_rfl) ⟨(unhide HPz).below (below_dr _), (unhide HBz).trans ((below_dr _).mono (unhide HBz).size)⟩ (fun hHeld => ?_)
      refine wpAnyH_take (i := 0) (v := ?_) opn0 (by kernel_rfl) (by kernel_rfl) (by kernel_rfl) (fun _ _ _ h => h) (Or.inl ⟨by rfl, ?_⟩) (by assumption) ?_
      rotate_left 1
      · intro wz hSw
        try dsimp only at hSw
        go_simp
        all_goals with_reducible rfl
      try simp only [Act.put, List.setIfInBounds_toArray, List.set_cons_zero, List.set_cons_succ]
      refine wpAnyH_take (i := 2) (v := ?_) opn2 (by kernel_rfl) (by kernel_rfl) (by kernel_rfl) (fun _ _ _ h => h) (Or.inl ⟨by rfl, ?_⟩) (by assumption) ?_
      rotate_left 1
      · intro wz hSw
        try dsimp only at hSw
        have hq := hSw.1.b.can.1
        go_simp
        all_goals with_reducible rfl
      try simp only [Act.put, List.setIfInBounds_toArray, List.set_cons_zero, List.set_cons_succ]
      refine wpAnyH_take (i := 3) (v := ?_) opn3 (by kernel_rfl) (by kernel_rfl) (by kernel_rfl) (fun _ _ _ h => h) (Or.inl ⟨by rfl, ?_⟩) (by assumption) ?_
      rotate_left 1
      · intro wz hSw
        try dsimp only at hSw
        go_simp
        all_goals with_reducible rfl
      try simp only [Act.put, List.setIfInBounds_toArray, List.set_cons_zero, List.set_cons_succ]
      refine wpAnyH_ready (rs := [1]) (by kernel_rfl) (by simp) ?_
      refine AllReadyH.cons opn1 (fun K hK => ?_) AllReadyH.nil
      go_simp
      refine (Len_P hHeld.1.p (unhide HK2)).mono ?_
      rintro e wL ⟨rfl, rfl⟩
      refine hK.out _ _ hHeld (fun hHeldN => ?_)
      clear hHeld hK K
      have hHeld := hHeldN
      clear hHeldN
      try simp only [Act.put, List.setIfInBounds_toArray, List.set_cons_zero, List.set_cons_succ]
      refine wpAnyH_take (i := 4) (v := ?_) opn4 (by kernel_rfl) (by kernel_rfl) (by kernel_rfl) (fun _ _ _ h => h) (Or.inl ⟨by rfl, ?_⟩) (by assumption) ?_
      rotate_left 1
      · intro wz hSw
        try dsimp only at hSw
        go_simp
        all_goals with_reducible rfl
      try simp only [Act.put, List.setIfInBounds_toArray, List.set_cons_zero, List.set_cons_succ]
      refine wpAnyH_take (i := 5) (v := ?_) opn5 (by kernel_rfl) (by kernel_rfl) (by kernel_rfl) (fun _ _ _ h => h) (Or.inl ⟨by rfl, ?_⟩) (by assumption) ?_
      rotate_left 1
      · intro wz hSw
        try dsimp only at hSw
        go_simp
        all_goals with_reducible rfl
      try simp only [Act.put, List.setIfInBounds_toArray, List.set_cons_zero, List.set_cons_succ]
      refine wpAnyH_take (i := 6) (v := ?_) opn6 (by kernel_rfl) (by kernel_rfl) (by kernel_rfl) (fun _ _ _ h => h) (Or.inl ⟨by rfl, ?_⟩) (by assumption) ?_
      rotate_left 1
      · intro wz hSw
        try dsimp only at hSw
        go_simp
        all_goals with_reducible rfl
      try simp only [Act.put, List.setIfInBounds_toArray, List.set_cons_zero, List.set_cons_succ]
      refine wpAnyH_take (i := 8) (v := ?_) opn8 (by kernel_rfl) (by kernel_rfl) (by kernel_rfl) (fun _ _ _ h => h) (Or.inl ⟨by rfl, ?_⟩) (by assumption) ?_
      rotate_left 1
      · intro wz hSw
        try dsimp only at hSw
        have hq := hSw.1.b.can.1
        go_simp
        all_goals with_reducible rfl
      try simp only [Act.put, List.setIfInBounds_toArray, List.set_cons_zero, List.set_cons_succ]
      refine wpAnyH_ready (rs := [7]) (by kernel_rfl) (by simp) ?_
      refine AllReadyH.cons opn7 (fun K hK => ?_) AllReadyH.nil
      go_simp
      refine (List_P hHeld.1.p (unhide HK2)).mono ?_
      rintro e wM ⟨gl, cl, rfl, ol, bM⟩
      have hpl := pkts_row ol (unhide HK2)
      refine hK.out _ _ ⟨hHeld.1.below bM, hHeld.2.trans (bM.mono hHeld.2.size)⟩ (fun hHeldN => ?_)
      clear hHeld hK K
      have hHeld := hHeldN
      clear hHeldN
      try simp only [Act.put, List.setIfInBounds_toArray, List.set_cons_zero, List.set_cons_succ]
      have hbl : PktsAt wM ua k2 ms2 := by have := hHeld.1.b.row; rw [unhide HK2] at this; exact pkts_row this (unhide HK2)
      have HSP := hide (SamePackets_any (some ⟨gl, 0, none⟩) ua k2 k2 cl uc ms2 ms2 wM hpl hbl (by omega) (by omega) true ⟨fun _ => rfl, fun _ => rfl⟩)
      clear hpl hbl
      refine wpAnyH_ready (rs := [9]) (by kernel_rfl) (by simp) ?_
      refine AllReadyH.cons opn9 (fun K hK => ?_) AllReadyH.nil
      go_simp
      refine (unhide HSP).mono ?_
      rintro e wO ⟨rfl, bO⟩
      refine hK.out _ _ ⟨hHeld.1.below bO, hHeld.2.trans (bO.mono hHeld.2.size)⟩ (fun hHeldN => ?_)
      clear hHeld hK K
      have hHeld := hHeldN
      clear hHeldN
      try simp only [Act.put, List.setIfInBounds_toArray, List.set_cons_zero, List.set_cons_succ]
      refine wpAnyH_take (i := 10) (v := ?_) opn10 (by kernel_rfl) (by kernel_rfl) (by kernel_rfl) (fun _ _ _ h => h) (Or.inl ⟨by rfl, ?_⟩) (by assumption) ?_
      rotate_left 1
      · intro wz hSw
        try dsimp only at hSw
        go_simp
        all_goals with_reducible rfl
      try simp only [Act.put, List.setIfInBounds_toArray, List.set_cons_zero, List.set_cons_succ]
      refine wpAnyH_take (i := 11) (v := ?_) opn11 (by kernel_rfl) (by kernel_rfl) (by kernel_rfl) (fun _ _ _ h => h) (Or.inl ⟨by rfl, ?_⟩) (by assumption) ?_
      rotate_left 1
      · intro wz hSw
        try dsimp only at hSw
        go_simp
        all_goals with_reducible rfl
      try simp only [Act.put, List.setIfInBounds_toArray, List.set_cons_zero, List.set_cons_succ]
      refine wpAnyH_done (by kernel_rfl) ?_ _
      have HPF := hide hHeld.1
      have HBF := hide hHeld.2
      clear hHeld
      go_wp2
      go_roundw
      case rel => exact ⟨q + 1, _, _, ms2, by omega, by go_num, unhide HPF, unhide HBF⟩
      case measure => simp [intOf]; omega
    · have HBF := HBw
      go_wp2
      go_ret
      exact ⟨rfl, unhide HBF⟩

end Go.Proofs.Ytlndphpidkacgab
