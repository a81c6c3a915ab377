/- Texts joined, what is needed of them: VHs VHt OpenP. -/
import Derived.Test.YtmbhbnoifimeaabGreatQD11
import Derived.SizedLaws
namespace Go.Proofs.YtmbhbnoifimeaabGreat
open Go.RowKit
set_option linter.unusedSimpArgs false
set_option linter.unusedVariables false
theorem HRep.gopen {N : Nat} {w : World} {H : Nat} {o : HOwn} {A : AW} (h : HRep N w H o A) {n : Nat} (hn : n < 3) : w.cell? ⟨H, 1 + 8 * n + 6, none⟩ = some (.bool (A.cl n).op) ∧ w.cell? ⟨H, 1 + 8 * n + 7, none⟩ = some (o.v n) := by
  have h8 := eightH (h.guest hn).hold (h.guest hn).o.blk
  exact ⟨h8.2.1.2.2.1, h8.2.1.2.2.2⟩
theorem Bytes_TH {F : Value → Array Value} {tyH : TypeId} {N K : Nat} {rv : Value} {L : List ARec} {w : World} (h : CRepH F tyH w N K rv L) (hg : Good L) (hs : (logB L).length ≤ 2000) {T : Nat} (hT : (logB L).length = T) :
    Calls Tryz.prog 19 #[.pointer (some ⟨K, 0, none⟩)] w fun e w' => ∃ a c, e = .returned (.slice a T c) ∧ BRow w' w.heap.size (.slice a T c) (logB L) ∧ Below w.heap.size w w' := by
  have := Bytes_anyH N K rv L w h hg (by omega) (by have := hg.few; omega)
  rw [hT] at this
  exact this
theorem opn36 {x0 x1 x2 x3 x4 x5 x6 x7 x8 x9 x10 x11 x12 x13 x14 x15 x16 x17 x18 x19 x20 x21 x22 x23 x24 x25 x26 x27 x28 x29 x30 x31 x32 x33 x34 x35 oi : Oper} {r : List Oper} : (List.toArray (x0 :: x1 :: x2 :: x3 :: x4 :: x5 :: x6 :: x7 :: x8 :: x9 :: x10 :: x11 :: x12 :: x13 :: x14 :: x15 :: x16 :: x17 :: x18 :: x19 :: x20 :: x21 :: x22 :: x23 :: x24 :: x25 :: x26 :: x27 :: x28 :: x29 :: x30 :: x31 :: x32 :: x33 :: x34 :: x35 :: oi :: r))[36]? = some oi := rfl
theorem opn37 {x0 x1 x2 x3 x4 x5 x6 x7 x8 x9 x10 x11 x12 x13 x14 x15 x16 x17 x18 x19 x20 x21 x22 x23 x24 x25 x26 x27 x28 x29 x30 x31 x32 x33 x34 x35 x36 oi : Oper} {r : List Oper} : (List.toArray (x0 :: x1 :: x2 :: x3 :: x4 :: x5 :: x6 :: x7 :: x8 :: x9 :: x10 :: x11 :: x12 :: x13 :: x14 :: x15 :: x16 :: x17 :: x18 :: x19 :: x20 :: x21 :: x22 :: x23 :: x24 :: x25 :: x26 :: x27 :: x28 :: x29 :: x30 :: x31 :: x32 :: x33 :: x34 :: x35 :: x36 :: oi :: r))[37]? = some oi := rfl
theorem opn38 {x0 x1 x2 x3 x4 x5 x6 x7 x8 x9 x10 x11 x12 x13 x14 x15 x16 x17 x18 x19 x20 x21 x22 x23 x24 x25 x26 x27 x28 x29 x30 x31 x32 x33 x34 x35 x36 x37 oi : Oper} {r : List Oper} : (List.toArray (x0 :: x1 :: x2 :: x3 :: x4 :: x5 :: x6 :: x7 :: x8 :: x9 :: x10 :: x11 :: x12 :: x13 :: x14 :: x15 :: x16 :: x17 :: x18 :: x19 :: x20 :: x21 :: x22 :: x23 :: x24 :: x25 :: x26 :: x27 :: x28 :: x29 :: x30 :: x31 :: x32 :: x33 :: x34 :: x35 :: x36 :: x37 :: oi :: r))[38]? = some oi := rfl
theorem opn39 {x0 x1 x2 x3 x4 x5 x6 x7 x8 x9 x10 x11 x12 x13 x14 x15 x16 x17 x18 x19 x20 x21 x22 x23 x24 x25 x26 x27 x28 x29 x30 x31 x32 x33 x34 x35 x36 x37 x38 oi : Oper} {r : List Oper} : (List.toArray (x0 :: x1 :: x2 :: x3 :: x4 :: x5 :: x6 :: x7 :: x8 :: x9 :: x10 :: x11 :: x12 :: x13 :: x14 :: x15 :: x16 :: x17 :: x18 :: x19 :: x20 :: x21 :: x22 :: x23 :: x24 :: x25 :: x26 :: x27 :: x28 :: x29 :: x30 :: x31 :: x32 :: x33 :: x34 :: x35 :: x36 :: x37 :: x38 :: oi :: r))[39]? = some oi := rfl
theorem opn40 {x0 x1 x2 x3 x4 x5 x6 x7 x8 x9 x10 x11 x12 x13 x14 x15 x16 x17 x18 x19 x20 x21 x22 x23 x24 x25 x26 x27 x28 x29 x30 x31 x32 x33 x34 x35 x36 x37 x38 x39 oi : Oper} {r : List Oper} : (List.toArray (x0 :: x1 :: x2 :: x3 :: x4 :: x5 :: x6 :: x7 :: x8 :: x9 :: x10 :: x11 :: x12 :: x13 :: x14 :: x15 :: x16 :: x17 :: x18 :: x19 :: x20 :: x21 :: x22 :: x23 :: x24 :: x25 :: x26 :: x27 :: x28 :: x29 :: x30 :: x31 :: x32 :: x33 :: x34 :: x35 :: x36 :: x37 :: x38 :: x39 :: oi :: r))[40]? = some oi := rfl
theorem opn41 {x0 x1 x2 x3 x4 x5 x6 x7 x8 x9 x10 x11 x12 x13 x14 x15 x16 x17 x18 x19 x20 x21 x22 x23 x24 x25 x26 x27 x28 x29 x30 x31 x32 x33 x34 x35 x36 x37 x38 x39 x40 oi : Oper} {r : List Oper} : (List.toArray (x0 :: x1 :: x2 :: x3 :: x4 :: x5 :: x6 :: x7 :: x8 :: x9 :: x10 :: x11 :: x12 :: x13 :: x14 :: x15 :: x16 :: x17 :: x18 :: x19 :: x20 :: x21 :: x22 :: x23 :: x24 :: x25 :: x26 :: x27 :: x28 :: x29 :: x30 :: x31 :: x32 :: x33 :: x34 :: x35 :: x36 :: x37 :: x38 :: x39 :: x40 :: oi :: r))[41]? = some oi := rfl
set_option maxRecDepth 100000 in
set_option maxHeartbeats 4000000 in
theorem same_any {N : Nat} {w : World} {W H : Nat} {o : WOwn} {o' : HOwn} {A : AW} {Bw Bh : Nat} (h : WRep N w W o A) (g : HRep N w H o' A) (hw : w.cell? ⟨Bw, 0, none⟩ = some (.pointer (some ⟨W, 0, none⟩))) (hh : w.cell? ⟨Bh, 0, none⟩ = some (.pointer (some ⟨H, 0, none⟩))) :
    Calls Tryz.prog 13 #[.pointer (some ⟨Bw, 0, none⟩), .pointer (some ⟨Bh, 0, none⟩)] w fun e w' => e = .returned (.bool true) ∧ Below w.heap.size w w' := by
  have HWR : Hid (∀ wx, Below w.heap.size w wx → WRep N wx W o A) := fun wx hb => h.below hb
  have HHR : Hid (∀ wx, Below w.heap.size w wx → HRep N wx H o' A) := fun wx hb => g.below hb
  have hlw := World.block_lt_of_cell? _ _ hw
  have hlh := World.block_lt_of_cell? _ _ hh
  obtain ⟨M, hM⟩ : ∃ M, A.ms.length = M := ⟨_, rfl⟩
  obtain ⟨nL, hnL⟩ : ∃ n, A.log.length = n := ⟨_, rfl⟩
  obtain ⟨T, hT⟩ : ∃ T, (logB A.log).length = T := ⟨_, rfl⟩
  obtain ⟨M2, hM2⟩ : ∃ M, (behind A.log).length = M := ⟨_, rfl⟩
  obtain ⟨sL, hsL⟩ : ∃ s : ByteArray, s = ⟨(logB A.log).toArray⟩ := ⟨_, rfl⟩
  obtain ⟨pa, pcap, hpv⟩ := g.bag.form
  rw [hM] at hpv
  obtain ⟨ra, rcap, hrv⟩ := row_form g.srow
  rw [hnL] at hrv
  have HQ : Hid (∀ wx, Below w.heap.size w wx → wx.cell? ⟨Bw, 0, none⟩ = some (.pointer (some ⟨W, 0, none⟩)) ∧ wx.cell? ⟨Bh, 0, none⟩ = some (.pointer (some ⟨H, 0, none⟩)) ∧ wx.cell? ⟨W, 0, none⟩ = some (.pointer (some ⟨o.S, 0, none⟩)) ∧ wx.cell? ⟨H, 25, none⟩ = some (.slice pa M pcap) ∧ wx.cell? ⟨H, 0, none⟩ = some (.slice ra nL rcap) ∧ wx.cell? ⟨o.S, 0, none⟩ = some (.pointer (some ⟨o.B, 0, none⟩))) := fun wx hb =>
    ⟨(hb.cell (p := ⟨Bw, 0, none⟩) hlw).trans hw, (hb.cell (p := ⟨Bh, 0, none⟩) hlh).trans hh, (h.below hb).cells.1.1, by rw [← hpv]; exact (g.below hb).bag.can.1, by rw [← hrv]; exact (g.below hb).chest.can.1, (h.below hb).s.ptr⟩
  have HLG := hide (fun wx (hb : Below w.heap.size w wx) => Log_T (h.below hb).s h.ss hT)
  have HBY := hide (fun wx (hb : Below w.heap.size w wx) => Bytes_TH (g.below hb).chest g.good g.ss hT)
  have HPK := hide (fun wx (hb : Below w.heap.size w wx) => Packets_any (h.below hb) hM)
  have HPR : Hid (∀ wx, Below w.heap.size w wx → PktsAt wx pa M A.ms) := fun wx hb => by
    have := (g.below hb).prow
    rw [hpv, hM] at this
    exact pkts_row this hM
  have HNM := hide (fun wx (hb : Below w.heap.size w wx) => Names_M (h.below hb).s.files hM2)
  have HBH := hide (fun wx (hb : Below w.heap.size w wx) => Behind_any ra nL rcap A.log wx (by
    have := (g.below hb).srow
    rw [hrv, hnL] at this
    exact recs_row this hnL) g.good.small (by have := g.good.few; have := g.ss; omega))
  have HMM := hide hM
  have HTT := hide hT
  have HSL := hide hsL
  have HM2 := hide hM2
  have HM4 : Hid (M ≤ 1000000) := by have := g.few; show _ ≤ _; omega
  have HM21 : Hid (M2 ≤ 1000) := by have := h.s.files.inv.few; show _ ≤ _; omega
  clear h g hw hh hlw hlh hM hnL hT hM2 hsL hpv hrv
  go_enter Tryz.func13, Tryz.ntmps13
  go_wp2_with fail
  go_loopw [3, 4] (fun i _ wr => ∃ z : Int, i = .int .i64 z ∧ (z = -1 ∨ z = 0 ∨ z = 1 ∨ z = 2 ∨ z = 3 ∨ z = 4) ∧ Hid (Below w.heap.size w wr)) (fun i _ _ => (4 - intOf i).toNat)
  case atStart => exact ⟨-1, rfl, by omega, Below.refl _ _⟩
  case round =>
    obtain ⟨z, rfl, hz, HB⟩ := hrel
    rcases hz with rfl | rfl | rfl | rfl | rfl | rfl
    · have hcw := ((unhide HQ) _ (unhide HB)).1
      have HCN := hide (Client_none W wr (-1) (by omega))
      go_wp2_with fail
      refine (unhide HCN).mono ?_
      rintro e w1 ⟨rfl, hw1⟩
      subst hw1
      go_wp2
      go_roundw
      case rel => exact ⟨0, by go_num, by omega, unhide HB⟩
      case measure => simp [intOf]
    · have HG : Hid (∀ wx, Below w.heap.size w wx → wx.cell? ⟨H, 7, none⟩ = some (.bool (A.cl 0).op) ∧ wx.cell? ⟨H, 8, none⟩ = some (o'.v 0)) := fun wx hb => ((unhide HHR) wx hb).gopen (n := 0) (by omega)
      have HCR := hide (fun wx hb => ((unhide HHR) wx hb).crow 0 (by omega))
      have HKO := hide (fun wx hb => KOpen_any (((unhide HWR) wx hb).c 0 (by omega)))
      obtain ⟨nD, hnD⟩ : ∃ n, (A.cl 0).done.length = n := ⟨_, rfl⟩
      have HKD := hide (fun wx hb => Done_any (((unhide HWR) wx hb).c 0 (by omega)) hnD)
      have HFW : Hid (nD ≤ 1000000) := by have := (((unhide HWR) w (Below.refl _ _)).c 0 (by omega)).ok.few; show _ ≤ _; omega
      have HND := hide hnD
      obtain ⟨da, dc, hdv⟩ := row_form ((unhide HCR) w (Below.refl _ _))
      rw [hnD] at hdv
      have HCR2 : Hid (∀ wx, Below w.heap.size w wx → RecsAt wx da nD (A.cl 0).done) := fun wx hb => by
        have := (unhide HCR) wx hb
        rw [hdv, hnD] at this
        exact recs_row this hnD
      rw [hdv] at HG
      have HCS := hide (Client_some ((unhide HWR) wr (unhide HB)) 0 (by omega))
      generalize (A.cl 0).done = dn at HKD HND HCR2
      generalize (A.cl 0).op = op at HG HKO
      generalize o.X 0 = X at HKO HKD HCS
      clear HCR hdv hnD
      have hcw := ((unhide HQ) _ (unhide HB)).1
      go_wp2_with fail
      refine (unhide HCS).mono ?_
      rintro e w1 ⟨rfl, hw1⟩
      subst hw1
      clear hcw HCS
      go_wp2_with fail
      cases op
      · refine wp_region_held_drew (S := (fun wx => Below w.heap.size w wx)) (by kernel_rfl) ((unhide HB).drew) (fun hHeld => ?_)
        refine tkH ?_ opn0 (fun _ _ _ h => h) hHeld ?_ ?_
        rotate_left 1
        · intro wz hSw; (try dsimp only at hSw); go_simp; all_goals with_reducible rfl
        try simp only [pS]
        refine tkH (.bool false) opn1 (fun _ _ _ h => h) hHeld ?_ ?_
        · intro wz hSw; (try dsimp only at hSw); go_simp; all_goals with_reducible rfl
        try simp only [pS]
        refine tkH ?_ opn2 (fun _ _ _ h => h) hHeld ?_ ?_
        rotate_left 1
        · intro wz hSw; (try dsimp only at hSw); go_simp; all_goals with_reducible rfl
        try simp only [pS]
        refine tkH ?_ opn3 (fun _ _ _ h => h) hHeld ?_ ?_
        rotate_left 1
        · intro wz hSw; (try dsimp only at hSw); go_simp; all_goals with_reducible rfl
        try simp only [pS]
        refine tkH ?_ opn5 (fun _ _ _ h => h) hHeld ?_ ?_
        rotate_left 1
        · intro wz hSw; (try dsimp only at hSw)
          have hq := ((unhide HQ) _ hSw).2.1
          go_simp; all_goals with_reducible rfl
        try simp only [pS]
        refine tkH ?_ opn6 (fun _ _ _ h => h) hHeld ?_ ?_
        rotate_left 1
        · intro wz hSw; (try dsimp only at hSw); go_simp; all_goals with_reducible rfl
        try simp only [pS]
        refine tkH ?_ opn7 (fun _ _ _ h => h) hHeld ?_ ?_
        rotate_left 1
        · intro wz hSw; (try dsimp only at hSw); go_simp; all_goals with_reducible rfl
        try simp only [pS]
        refine tkH ?_ opn8 (fun _ _ _ h => h) hHeld ?_ ?_
        rotate_left 1
        · intro wz hSw; (try dsimp only at hSw); go_simp; all_goals with_reducible rfl
        try simp only [pS]
        refine tkH ?_ opn9 (fun _ _ _ h => h) hHeld ?_ ?_
        rotate_left 1
        · intro wz hSw; (try dsimp only at hSw); go_simp; all_goals with_reducible rfl
        try simp only [pS]
        refine tkH ?_ opn10 (fun _ _ _ h => h) hHeld ?_ ?_
        rotate_left 1
        · intro wz hSw; (try dsimp only at hSw); go_simp; all_goals with_reducible rfl
        try simp only [pS]
        refine tkH ?_ opn11 (fun _ _ _ h => h) hHeld ?_ ?_
        rotate_left 1
        · intro wz hSw; (try dsimp only at hSw)
          have hq := ((unhide HG) _ hSw).1
          go_simp; all_goals with_reducible rfl
        try simp only [pS]
        refine wpAnyH_ready (rs := [4]) (by kernel_rfl) (by simp) ?_
        refine AllReadyH.cons opn4 (fun K hK => ?_) AllReadyH.nil
        rw [if_pos (by kernel_rfl)]
        go_simp
        refine ((unhide HKO) _ hHeld).mono ?_
        rintro e w3 ⟨rfl, hw3⟩
        subst hw3
        refine hK.out _ _ hHeld (fun hHeldN => ?_)
        clear hHeld hK K; have hHeld := hHeldN; clear hHeldN
        try simp only [pS]
        refine tkH (.bool false) opn12 (fun _ _ _ h => h) hHeld ?_ ?_
        · intro wz hSw; (try dsimp only at hSw); go_simp; all_goals with_reducible rfl
        try simp only [pS]
        refine tkH (.bool false) opn13 (fun _ _ _ h => h) hHeld ?_ ?_
        · intro wz hSw; (try dsimp only at hSw); go_simp; all_goals with_reducible rfl
        try simp only [pS]
        refine tkH (.bool false) opn14 (fun _ _ _ h => h) hHeld ?_ ?_
        · intro wz hSw; (try dsimp only at hSw); go_simp; all_goals with_reducible rfl
        try simp only [pS]
        refine tkH ?_ opn15 (fun _ _ _ h => h) hHeld ?_ ?_
        rotate_left 1
        · intro wz hSw; (try dsimp only at hSw); go_simp; all_goals with_reducible rfl
        try simp only [pS]
        refine tkH ?_ opn17 (fun _ _ _ h => h) hHeld ?_ ?_
        rotate_left 1
        · intro wz hSw; (try dsimp only at hSw)
          have hq := ((unhide HQ) _ hSw).2.1
          go_simp; all_goals with_reducible rfl
        try simp only [pS]
        refine tkH ?_ opn18 (fun _ _ _ h => h) hHeld ?_ ?_
        rotate_left 1
        · intro wz hSw; (try dsimp only at hSw); go_simp; all_goals with_reducible rfl
        try simp only [pS]
        refine tkH ?_ opn19 (fun _ _ _ h => h) hHeld ?_ ?_
        rotate_left 1
        · intro wz hSw; (try dsimp only at hSw); go_simp; all_goals with_reducible rfl
        try simp only [pS]
        refine tkH ?_ opn20 (fun _ _ _ h => h) hHeld ?_ ?_
        rotate_left 1
        · intro wz hSw; (try dsimp only at hSw); go_simp; all_goals with_reducible rfl
        try simp only [pS]
        refine tkH ?_ opn21 (fun _ _ _ h => h) hHeld ?_ ?_
        rotate_left 1
        · intro wz hSw; (try dsimp only at hSw); go_simp; all_goals with_reducible rfl
        try simp only [pS]
        refine tkH ?_ opn22 (fun _ _ _ h => h) hHeld ?_ ?_
        rotate_left 1
        · intro wz hSw; (try dsimp only at hSw); go_simp; all_goals with_reducible rfl
        try simp only [pS]
        refine tkH ?_ opn23 (fun _ _ _ h => h) hHeld ?_ ?_
        rotate_left 1
        · intro wz hSw; (try dsimp only at hSw)
          have hq := ((unhide HG) _ hSw).2
          go_simp; all_goals with_reducible rfl
        try simp only [pS]
        refine wpAnyH_ready (rs := [16]) (by kernel_rfl) (by simp) ?_
        refine AllReadyH.cons opn16 (fun K hK => ?_) AllReadyH.nil
        rw [if_pos (by kernel_rfl)]
        go_simp
        refine ((unhide HKD) _ hHeld).mono ?_
        rintro e w3 ⟨g1, c1, rfl, ow, b3⟩
        have HRR := hide (recs_row ow (unhide HND))
        clear ow
        refine hK.out _ _ (hHeld.trans (b3.mono hHeld.size)) (fun hHeldN => ?_)
        clear hHeld hK K; have hHeld := hHeldN; clear hHeldN
        try simp only [pS]
        refine wpAnyH_ready (rs := [24]) (by kernel_rfl) (by simp) ?_
        refine AllReadyH.cons opn24 (fun K hK => ?_) AllReadyH.nil
        rw [if_pos (by kernel_rfl)]
        go_simp
        refine (SameRecords_eq (some ⟨g1, 0, none⟩) da nD c1 dc dn w3 (unhide HRR) ((unhide HCR2) _ hHeld) (unhide HFW)).mono ?_
        rintro e w4 ⟨rfl, b4⟩
        refine hK.out _ _ (hHeld.trans (b4.mono hHeld.size)) (fun hHeldN => ?_)
        clear hHeld hK K; have hHeld := hHeldN; clear hHeldN
        try simp only [pS]
        refine tkH (.bool false) opn25 (fun _ _ _ h => h) hHeld ?_ ?_
        · intro wz hSw; (try dsimp only at hSw); go_simp; all_goals with_reducible rfl
        try simp only [pS]
        refine tkH (.bool false) opn26 (fun _ _ _ h => h) hHeld ?_ ?_
        · intro wz hSw; (try dsimp only at hSw); go_simp; all_goals with_reducible rfl
        try simp only [pS]
        refine wpAnyH_done (by kernel_rfl) ?_ _
        have HB4 := hide hHeld
        clear hHeld
        go_wp2
        go_roundw
        case rel => exact ⟨1, by go_num, by omega, unhide HB4⟩
        case measure => simp [intOf]
      · refine wp_region_held_drew (S := (fun wx => Below w.heap.size w wx)) (by kernel_rfl) ((unhide HB).drew) (fun hHeld => ?_)
        refine tkH ?_ opn0 (fun _ _ _ h => h) hHeld ?_ ?_
        rotate_left 1
        · intro wz hSw; (try dsimp only at hSw); go_simp; all_goals with_reducible rfl
        try simp only [pS]
        refine tkH (.bool false) opn1 (fun _ _ _ h => h) hHeld ?_ ?_
        · intro wz hSw; (try dsimp only at hSw); go_simp; all_goals with_reducible rfl
        try simp only [pS]
        refine tkH ?_ opn2 (fun _ _ _ h => h) hHeld ?_ ?_
        rotate_left 1
        · intro wz hSw; (try dsimp only at hSw); go_simp; all_goals with_reducible rfl
        try simp only [pS]
        refine tkH ?_ opn3 (fun _ _ _ h => h) hHeld ?_ ?_
        rotate_left 1
        · intro wz hSw; (try dsimp only at hSw); go_simp; all_goals with_reducible rfl
        try simp only [pS]
        refine tkH ?_ opn5 (fun _ _ _ h => h) hHeld ?_ ?_
        rotate_left 1
        · intro wz hSw; (try dsimp only at hSw)
          have hq := ((unhide HQ) _ hSw).2.1
          go_simp; all_goals with_reducible rfl
        try simp only [pS]
        refine tkH ?_ opn6 (fun _ _ _ h => h) hHeld ?_ ?_
        rotate_left 1
        · intro wz hSw; (try dsimp only at hSw); go_simp; all_goals with_reducible rfl
        try simp only [pS]
        refine tkH ?_ opn7 (fun _ _ _ h => h) hHeld ?_ ?_
        rotate_left 1
        · intro wz hSw; (try dsimp only at hSw); go_simp; all_goals with_reducible rfl
        try simp only [pS]
        refine tkH ?_ opn8 (fun _ _ _ h => h) hHeld ?_ ?_
        rotate_left 1
        · intro wz hSw; (try dsimp only at hSw); go_simp; all_goals with_reducible rfl
        try simp only [pS]
        refine tkH ?_ opn9 (fun _ _ _ h => h) hHeld ?_ ?_
        rotate_left 1
        · intro wz hSw; (try dsimp only at hSw); go_simp; all_goals with_reducible rfl
        try simp only [pS]
        refine tkH ?_ opn10 (fun _ _ _ h => h) hHeld ?_ ?_
        rotate_left 1
        · intro wz hSw; (try dsimp only at hSw); go_simp; all_goals with_reducible rfl
        try simp only [pS]
        refine tkH ?_ opn11 (fun _ _ _ h => h) hHeld ?_ ?_
        rotate_left 1
        · intro wz hSw; (try dsimp only at hSw)
          have hq := ((unhide HG) _ hSw).1
          go_simp; all_goals with_reducible rfl
        try simp only [pS]
        refine wpAnyH_ready (rs := [4]) (by kernel_rfl) (by simp) ?_
        refine AllReadyH.cons opn4 (fun K hK => ?_) AllReadyH.nil
        rw [if_pos (by kernel_rfl)]
        go_simp
        refine ((unhide HKO) _ hHeld).mono ?_
        rintro e w3 ⟨rfl, hw3⟩
        subst hw3
        refine hK.out _ _ hHeld (fun hHeldN => ?_)
        clear hHeld hK K; have hHeld := hHeldN; clear hHeldN
        try simp only [pS]
        refine tkH (.bool false) opn12 (fun _ _ _ h => h) hHeld ?_ ?_
        · intro wz hSw; (try dsimp only at hSw); go_simp; all_goals with_reducible rfl
        try simp only [pS]
        refine tkH (.bool false) opn13 (fun _ _ _ h => h) hHeld ?_ ?_
        · intro wz hSw; (try dsimp only at hSw); go_simp; all_goals with_reducible rfl
        try simp only [pS]
        refine tkH (.bool false) opn14 (fun _ _ _ h => h) hHeld ?_ ?_
        · intro wz hSw; (try dsimp only at hSw); go_simp; all_goals with_reducible rfl
        try simp only [pS]
        refine tkH ?_ opn15 (fun _ _ _ h => h) hHeld ?_ ?_
        rotate_left 1
        · intro wz hSw; (try dsimp only at hSw); go_simp; all_goals with_reducible rfl
        try simp only [pS]
        refine tkH ?_ opn17 (fun _ _ _ h => h) hHeld ?_ ?_
        rotate_left 1
        · intro wz hSw; (try dsimp only at hSw)
          have hq := ((unhide HQ) _ hSw).2.1
          go_simp; all_goals with_reducible rfl
        try simp only [pS]
        refine tkH ?_ opn18 (fun _ _ _ h => h) hHeld ?_ ?_
        rotate_left 1
        · intro wz hSw; (try dsimp only at hSw); go_simp; all_goals with_reducible rfl
        try simp only [pS]
        refine tkH ?_ opn19 (fun _ _ _ h => h) hHeld ?_ ?_
        rotate_left 1
        · intro wz hSw; (try dsimp only at hSw); go_simp; all_goals with_reducible rfl
        try simp only [pS]
        refine tkH ?_ opn20 (fun _ _ _ h => h) hHeld ?_ ?_
        rotate_left 1
        · intro wz hSw; (try dsimp only at hSw); go_simp; all_goals with_reducible rfl
        try simp only [pS]
        refine tkH ?_ opn21 (fun _ _ _ h => h) hHeld ?_ ?_
        rotate_left 1
        · intro wz hSw; (try dsimp only at hSw); go_simp; all_goals with_reducible rfl
        try simp only [pS]
        refine tkH ?_ opn22 (fun _ _ _ h => h) hHeld ?_ ?_
        rotate_left 1
        · intro wz hSw; (try dsimp only at hSw); go_simp; all_goals with_reducible rfl
        try simp only [pS]
        refine tkH ?_ opn23 (fun _ _ _ h => h) hHeld ?_ ?_
        rotate_left 1
        · intro wz hSw; (try dsimp only at hSw)
          have hq := ((unhide HG) _ hSw).2
          go_simp; all_goals with_reducible rfl
        try simp only [pS]
        refine wpAnyH_ready (rs := [16]) (by kernel_rfl) (by simp) ?_
        refine AllReadyH.cons opn16 (fun K hK => ?_) AllReadyH.nil
        rw [if_pos (by kernel_rfl)]
        go_simp
        refine ((unhide HKD) _ hHeld).mono ?_
        rintro e w3 ⟨g1, c1, rfl, ow, b3⟩
        have HRR := hide (recs_row ow (unhide HND))
        clear ow
        refine hK.out _ _ (hHeld.trans (b3.mono hHeld.size)) (fun hHeldN => ?_)
        clear hHeld hK K; have hHeld := hHeldN; clear hHeldN
        try simp only [pS]
        refine wpAnyH_ready (rs := [24]) (by kernel_rfl) (by simp) ?_
        refine AllReadyH.cons opn24 (fun K hK => ?_) AllReadyH.nil
        rw [if_pos (by kernel_rfl)]
        go_simp
        refine (SameRecords_eq (some ⟨g1, 0, none⟩) da nD c1 dc dn w3 (unhide HRR) ((unhide HCR2) _ hHeld) (unhide HFW)).mono ?_
        rintro e w4 ⟨rfl, b4⟩
        refine hK.out _ _ (hHeld.trans (b4.mono hHeld.size)) (fun hHeldN => ?_)
        clear hHeld hK K; have hHeld := hHeldN; clear hHeldN
        try simp only [pS]
        refine tkH (.bool false) opn25 (fun _ _ _ h => h) hHeld ?_ ?_
        · intro wz hSw; (try dsimp only at hSw); go_simp; all_goals with_reducible rfl
        try simp only [pS]
        refine tkH (.bool false) opn26 (fun _ _ _ h => h) hHeld ?_ ?_
        · intro wz hSw; (try dsimp only at hSw); go_simp; all_goals with_reducible rfl
        try simp only [pS]
        refine wpAnyH_done (by kernel_rfl) ?_ _
        have HB4 := hide hHeld
        clear hHeld
        go_wp2
        go_roundw
        case rel => exact ⟨1, by go_num, by omega, unhide HB4⟩
        case measure => simp [intOf]
    · have HG : Hid (∀ wx, Below w.heap.size w wx → wx.cell? ⟨H, 15, none⟩ = some (.bool (A.cl 1).op) ∧ wx.cell? ⟨H, 16, none⟩ = some (o'.v 1)) := fun wx hb => ((unhide HHR) wx hb).gopen (n := 1) (by omega)
      have HCR := hide (fun wx hb => ((unhide HHR) wx hb).crow 1 (by omega))
      have HKO := hide (fun wx hb => KOpen_any (((unhide HWR) wx hb).c 1 (by omega)))
      obtain ⟨nD, hnD⟩ : ∃ n, (A.cl 1).done.length = n := ⟨_, rfl⟩
      have HKD := hide (fun wx hb => Done_any (((unhide HWR) wx hb).c 1 (by omega)) hnD)
      have HFW : Hid (nD ≤ 1000000) := by have := (((unhide HWR) w (Below.refl _ _)).c 1 (by omega)).ok.few; show _ ≤ _; omega
      have HND := hide hnD
      obtain ⟨da, dc, hdv⟩ := row_form ((unhide HCR) w (Below.refl _ _))
      rw [hnD] at hdv
      have HCR2 : Hid (∀ wx, Below w.heap.size w wx → RecsAt wx da nD (A.cl 1).done) := fun wx hb => by
        have := (unhide HCR) wx hb
        rw [hdv, hnD] at this
        exact recs_row this hnD
      rw [hdv] at HG
      have HCS := hide (Client_some ((unhide HWR) wr (unhide HB)) 1 (by omega))
      generalize (A.cl 1).done = dn at HKD HND HCR2
      generalize (A.cl 1).op = op at HG HKO
      generalize o.X 1 = X at HKO HKD HCS
      clear HCR hdv hnD
      have hcw := ((unhide HQ) _ (unhide HB)).1
      go_wp2_with fail
      refine (unhide HCS).mono ?_
      rintro e w1 ⟨rfl, hw1⟩
      subst hw1
      clear hcw HCS
      go_wp2_with fail
      cases op
      · refine wp_region_held_drew (S := (fun wx => Below w.heap.size w wx)) (by kernel_rfl) ((unhide HB).drew) (fun hHeld => ?_)
        refine tkH ?_ opn0 (fun _ _ _ h => h) hHeld ?_ ?_
        rotate_left 1
        · intro wz hSw; (try dsimp only at hSw); go_simp; all_goals with_reducible rfl
        try simp only [pS]
        refine tkH (.bool false) opn1 (fun _ _ _ h => h) hHeld ?_ ?_
        · intro wz hSw; (try dsimp only at hSw); go_simp; all_goals with_reducible rfl
        try simp only [pS]
        refine tkH ?_ opn2 (fun _ _ _ h => h) hHeld ?_ ?_
        rotate_left 1
        · intro wz hSw; (try dsimp only at hSw); go_simp; all_goals with_reducible rfl
        try simp only [pS]
        refine tkH ?_ opn3 (fun _ _ _ h => h) hHeld ?_ ?_
        rotate_left 1
        · intro wz hSw; (try dsimp only at hSw); go_simp; all_goals with_reducible rfl
        try simp only [pS]
        refine tkH ?_ opn5 (fun _ _ _ h => h) hHeld ?_ ?_
        rotate_left 1
        · intro wz hSw; (try dsimp only at hSw)
          have hq := ((unhide HQ) _ hSw).2.1
          go_simp; all_goals with_reducible rfl
        try simp only [pS]
        refine tkH ?_ opn6 (fun _ _ _ h => h) hHeld ?_ ?_
        rotate_left 1
        · intro wz hSw; (try dsimp only at hSw); go_simp; all_goals with_reducible rfl
        try simp only [pS]
        refine tkH ?_ opn7 (fun _ _ _ h => h) hHeld ?_ ?_
        rotate_left 1
        · intro wz hSw; (try dsimp only at hSw); go_simp; all_goals with_reducible rfl
        try simp only [pS]
        refine tkH ?_ opn8 (fun _ _ _ h => h) hHeld ?_ ?_
        rotate_left 1
        · intro wz hSw; (try dsimp only at hSw); go_simp; all_goals with_reducible rfl
        try simp only [pS]
        refine tkH ?_ opn9 (fun _ _ _ h => h) hHeld ?_ ?_
        rotate_left 1
        · intro wz hSw; (try dsimp only at hSw); go_simp; all_goals with_reducible rfl
        try simp only [pS]
        refine tkH ?_ opn10 (fun _ _ _ h => h) hHeld ?_ ?_
        rotate_left 1
        · intro wz hSw; (try dsimp only at hSw); go_simp; all_goals with_reducible rfl
        try simp only [pS]
        refine tkH ?_ opn11 (fun _ _ _ h => h) hHeld ?_ ?_
        rotate_left 1
        · intro wz hSw; (try dsimp only at hSw)
          have hq := ((unhide HG) _ hSw).1
          go_simp; all_goals with_reducible rfl
        try simp only [pS]
        refine wpAnyH_ready (rs := [4]) (by kernel_rfl) (by simp) ?_
        refine AllReadyH.cons opn4 (fun K hK => ?_) AllReadyH.nil
        rw [if_pos (by kernel_rfl)]
        go_simp
        refine ((unhide HKO) _ hHeld).mono ?_
        rintro e w3 ⟨rfl, hw3⟩
        subst hw3
        refine hK.out _ _ hHeld (fun hHeldN => ?_)
        clear hHeld hK K; have hHeld := hHeldN; clear hHeldN
        try simp only [pS]
        refine tkH (.bool false) opn12 (fun _ _ _ h => h) hHeld ?_ ?_
        · intro wz hSw; (try dsimp only at hSw); go_simp; all_goals with_reducible rfl
        try simp only [pS]
        refine tkH (.bool false) opn13 (fun _ _ _ h => h) hHeld ?_ ?_
        · intro wz hSw; (try dsimp only at hSw); go_simp; all_goals with_reducible rfl
        try simp only [pS]
        refine tkH (.bool false) opn14 (fun _ _ _ h => h) hHeld ?_ ?_
        · intro wz hSw; (try dsimp only at hSw); go_simp; all_goals with_reducible rfl
        try simp only [pS]
        refine tkH ?_ opn15 (fun _ _ _ h => h) hHeld ?_ ?_
        rotate_left 1
        · intro wz hSw; (try dsimp only at hSw); go_simp; all_goals with_reducible rfl
        try simp only [pS]
        refine tkH ?_ opn17 (fun _ _ _ h => h) hHeld ?_ ?_
        rotate_left 1
        · intro wz hSw; (try dsimp only at hSw)
          have hq := ((unhide HQ) _ hSw).2.1
          go_simp; all_goals with_reducible rfl
        try simp only [pS]
        refine tkH ?_ opn18 (fun _ _ _ h => h) hHeld ?_ ?_
        rotate_left 1
        · intro wz hSw; (try dsimp only at hSw); go_simp; all_goals with_reducible rfl
        try simp only [pS]
        refine tkH ?_ opn19 (fun _ _ _ h => h) hHeld ?_ ?_
        rotate_left 1
        · intro wz hSw; (try dsimp only at hSw); go_simp; all_goals with_reducible rfl
        try simp only [pS]
        refine tkH ?_ opn20 (fun _ _ _ h => h) hHeld ?_ ?_
        rotate_left 1
        · intro wz hSw; (try dsimp only at hSw); go_simp; all_goals with_reducible rfl
        try simp only [pS]
        refine tkH ?_ opn21 (fun _ _ _ h => h) hHeld ?_ ?_
        rotate_left 1
        · intro wz hSw; (try dsimp only at hSw); go_simp; all_goals with_reducible rfl
        try simp only [pS]
        refine tkH ?_ opn22 (fun _ _ _ h => h) hHeld ?_ ?_
        rotate_left 1
        · intro wz hSw; (try dsimp only at hSw); go_simp; all_goals with_reducible rfl
        try simp only [pS]
        refine tkH ?_ opn23 (fun _ _ _ h => h) hHeld ?_ ?_
        rotate_left 1
        · intro wz hSw; (try dsimp only at hSw)
          have hq := ((unhide HG) _ hSw).2
          go_simp; all_goals with_reducible rfl
        try simp only [pS]
        refine wpAnyH_ready (rs := [16]) (by kernel_rfl) (by simp) ?_
        refine AllReadyH.cons opn16 (fun K hK => ?_) AllReadyH.nil
        rw [if_pos (by kernel_rfl)]
        go_simp
        refine ((unhide HKD) _ hHeld).mono ?_
        rintro e w3 ⟨g1, c1, rfl, ow, b3⟩
        have HRR := hide (recs_row ow (unhide HND))
        clear ow
        refine hK.out _ _ (hHeld.trans (b3.mono hHeld.size)) (fun hHeldN => ?_)
        clear hHeld hK K; have hHeld := hHeldN; clear hHeldN
        try simp only [pS]
        refine wpAnyH_ready (rs := [24]) (by kernel_rfl) (by simp) ?_
        refine AllReadyH.cons opn24 (fun K hK => ?_) AllReadyH.nil
        rw [if_pos (by kernel_rfl)]
        go_simp
        refine (SameRecords_eq (some ⟨g1, 0, none⟩) da nD c1 dc dn w3 (unhide HRR) ((unhide HCR2) _ hHeld) (unhide HFW)).mono ?_
        rintro e w4 ⟨rfl, b4⟩
        refine hK.out _ _ (hHeld.trans (b4.mono hHeld.size)) (fun hHeldN => ?_)
        clear hHeld hK K; have hHeld := hHeldN; clear hHeldN
        try simp only [pS]
        refine tkH (.bool false) opn25 (fun _ _ _ h => h) hHeld ?_ ?_
        · intro wz hSw; (try dsimp only at hSw); go_simp; all_goals with_reducible rfl
        try simp only [pS]
        refine tkH (.bool false) opn26 (fun _ _ _ h => h) hHeld ?_ ?_
        · intro wz hSw; (try dsimp only at hSw); go_simp; all_goals with_reducible rfl
        try simp only [pS]
        refine wpAnyH_done (by kernel_rfl) ?_ _
        have HB4 := hide hHeld
        clear hHeld
        go_wp2
        go_roundw
        case rel => exact ⟨2, by go_num, by omega, unhide HB4⟩
        case measure => simp [intOf]
      · refine wp_region_held_drew (S := (fun wx => Below w.heap.size w wx)) (by kernel_rfl) ((unhide HB).drew) (fun hHeld => ?_)
        refine tkH ?_ opn0 (fun _ _ _ h => h) hHeld ?_ ?_
        rotate_left 1
        · intro wz hSw; (try dsimp only at hSw); go_simp; all_goals with_reducible rfl
        try simp only [pS]
        refine tkH (.bool false) opn1 (fun _ _ _ h => h) hHeld ?_ ?_
        · intro wz hSw; (try dsimp only at hSw); go_simp; all_goals with_reducible rfl
        try simp only [pS]
        refine tkH ?_ opn2 (fun _ _ _ h => h) hHeld ?_ ?_
        rotate_left 1
        · intro wz hSw; (try dsimp only at hSw); go_simp; all_goals with_reducible rfl
        try simp only [pS]
        refine tkH ?_ opn3 (fun _ _ _ h => h) hHeld ?_ ?_
        rotate_left 1
        · intro wz hSw; (try dsimp only at hSw); go_simp; all_goals with_reducible rfl
        try simp only [pS]
        refine tkH ?_ opn5 (fun _ _ _ h => h) hHeld ?_ ?_
        rotate_left 1
        · intro wz hSw; (try dsimp only at hSw)
          have hq := ((unhide HQ) _ hSw).2.1
          go_simp; all_goals with_reducible rfl
        try simp only [pS]
        refine tkH ?_ opn6 (fun _ _ _ h => h) hHeld ?_ ?_
        rotate_left 1
        · intro wz hSw; (try dsimp only at hSw); go_simp; all_goals with_reducible rfl
        try simp only [pS]
        refine tkH ?_ opn7 (fun _ _ _ h => h) hHeld ?_ ?_
        rotate_left 1
        · intro wz hSw; (try dsimp only at hSw); go_simp; all_goals with_reducible rfl
        try simp only [pS]
        refine tkH ?_ opn8 (fun _ _ _ h => h) hHeld ?_ ?_
        rotate_left 1
        · intro wz hSw; (try dsimp only at hSw); go_simp; all_goals with_reducible rfl
        try simp only [pS]
        refine tkH ?_ opn9 (fun _ _ _ h => h) hHeld ?_ ?_
        rotate_left 1
        · intro wz hSw; (try dsimp only at hSw); go_simp; all_goals with_reducible rfl
        try simp only [pS]
        refine tkH ?_ opn10 (fun _ _ _ h => h) hHeld ?_ ?_
        rotate_left 1
        · intro wz hSw; (try dsimp only at hSw); go_simp; all_goals with_reducible rfl
        try simp only [pS]
        refine tkH ?_ opn11 (fun _ _ _ h => h) hHeld ?_ ?_
        rotate_left 1
        · intro wz hSw; (try dsimp only at hSw)
          have hq := ((unhide HG) _ hSw).1
          go_simp; all_goals with_reducible rfl
        try simp only [pS]
        refine wpAnyH_ready (rs := [4]) (by kernel_rfl) (by simp) ?_
        refine AllReadyH.cons opn4 (fun K hK => ?_) AllReadyH.nil
        rw [if_pos (by kernel_rfl)]
        go_simp
        refine ((unhide HKO) _ hHeld).mono ?_
        rintro e w3 ⟨rfl, hw3⟩
        subst hw3
        refine hK.out _ _ hHeld (fun hHeldN => ?_)
        clear hHeld hK K; have hHeld := hHeldN; clear hHeldN
        try simp only [pS]
        refine tkH (.bool false) opn12 (fun _ _ _ h => h) hHeld ?_ ?_
        · intro wz hSw; (try dsimp only at hSw); go_simp; all_goals with_reducible rfl
        try simp only [pS]
        refine tkH (.bool false) opn13 (fun _ _ _ h => h) hHeld ?_ ?_
        · intro wz hSw; (try dsimp only at hSw); go_simp; all_goals with_reducible rfl
        try simp only [pS]
        refine tkH (.bool false) opn14 (fun _ _ _ h => h) hHeld ?_ ?_
        · intro wz hSw; (try dsimp only at hSw); go_simp; all_goals with_reducible rfl
        try simp only [pS]
        refine tkH ?_ opn15 (fun _ _ _ h => h) hHeld ?_ ?_
        rotate_left 1
        · intro wz hSw; (try dsimp only at hSw); go_simp; all_goals with_reducible rfl
        try simp only [pS]
        refine tkH ?_ opn17 (fun _ _ _ h => h) hHeld ?_ ?_
        rotate_left 1
        · intro wz hSw; (try dsimp only at hSw)
          have hq := ((unhide HQ) _ hSw).2.1
          go_simp; all_goals with_reducible rfl
        try simp only [pS]
        refine tkH ?_ opn18 (fun _ _ _ h => h) hHeld ?_ ?_
        rotate_left 1
        · intro wz hSw; (try dsimp only at hSw); go_simp; all_goals with_reducible rfl
        try simp only [pS]
        refine tkH ?_ opn19 (fun _ _ _ h => h) hHeld ?_ ?_
        rotate_left 1
        · intro wz hSw; (try dsimp only at hSw); go_simp; all_goals with_reducible rfl
        try simp only [pS]
        refine tkH ?_ opn20 (fun _ _ _ h => h) hHeld ?_ ?_
        rotate_left 1
        · intro wz hSw; (try dsimp only at hSw); go_simp; all_goals with_reducible rfl
        try simp only [pS]
        refine tkH ?_ opn21 (fun _ _ _ h => h) hHeld ?_ ?_
        rotate_left 1
        · intro wz hSw; (try dsimp only at hSw); go_simp; all_goals with_reducible rfl
        try simp only [pS]
        refine tkH ?_ opn22 (fun _ _ _ h => h) hHeld ?_ ?_
        rotate_left 1
        · intro wz hSw; (try dsimp only at hSw); go_simp; all_goals with_reducible rfl
        try simp only [pS]
        refine tkH ?_ opn23 (fun _ _ _ h => h) hHeld ?_ ?_
        rotate_left 1
        · intro wz hSw; (try dsimp only at hSw)
          have hq := ((unhide HG) _ hSw).2
          go_simp; all_goals with_reducible rfl
        try simp only [pS]
        refine wpAnyH_ready (rs := [16]) (by kernel_rfl) (by simp) ?_
        refine AllReadyH.cons opn16 (fun K hK => ?_) AllReadyH.nil
        rw [if_pos (by kernel_rfl)]
        go_simp
        refine ((unhide HKD) _ hHeld).mono ?_
        rintro e w3 ⟨g1, c1, rfl, ow, b3⟩
        have HRR := hide (recs_row ow (unhide HND))
        clear ow
        refine hK.out _ _ (hHeld.trans (b3.mono hHeld.size)) (fun hHeldN => ?_)
        clear hHeld hK K; have hHeld := hHeldN; clear hHeldN
        try simp only [pS]
        refine wpAnyH_ready (rs := [24]) (by kernel_rfl) (by simp) ?_
        refine AllReadyH.cons opn24 (fun K hK => ?_) AllReadyH.nil
        rw [if_pos (by kernel_rfl)]
        go_simp
        refine (SameRecords_eq (some ⟨g1, 0, none⟩) da nD c1 dc dn w3 (unhide HRR) ((unhide HCR2) _ hHeld) (unhide HFW)).mono ?_
        rintro e w4 ⟨rfl, b4⟩
        refine hK.out _ _ (hHeld.trans (b4.mono hHeld.size)) (fun hHeldN => ?_)
        clear hHeld hK K; have hHeld := hHeldN; clear hHeldN
        try simp only [pS]
        refine tkH (.bool false) opn25 (fun _ _ _ h => h) hHeld ?_ ?_
        · intro wz hSw; (try dsimp only at hSw); go_simp; all_goals with_reducible rfl
        try simp only [pS]
        refine tkH (.bool false) opn26 (fun _ _ _ h => h) hHeld ?_ ?_
        · intro wz hSw; (try dsimp only at hSw); go_simp; all_goals with_reducible rfl
        try simp only [pS]
        refine wpAnyH_done (by kernel_rfl) ?_ _
        have HB4 := hide hHeld
        clear hHeld
        go_wp2
        go_roundw
        case rel => exact ⟨2, by go_num, by omega, unhide HB4⟩
        case measure => simp [intOf]
    · have HG : Hid (∀ wx, Below w.heap.size w wx → wx.cell? ⟨H, 23, none⟩ = some (.bool (A.cl 2).op) ∧ wx.cell? ⟨H, 24, none⟩ = some (o'.v 2)) := fun wx hb => ((unhide HHR) wx hb).gopen (n := 2) (by omega)
      have HCR := hide (fun wx hb => ((unhide HHR) wx hb).crow 2 (by omega))
      have HKO := hide (fun wx hb => KOpen_any (((unhide HWR) wx hb).c 2 (by omega)))
      obtain ⟨nD, hnD⟩ : ∃ n, (A.cl 2).done.length = n := ⟨_, rfl⟩
      have HKD := hide (fun wx hb => Done_any (((unhide HWR) wx hb).c 2 (by omega)) hnD)
      have HFW : Hid (nD ≤ 1000000) := by have := (((unhide HWR) w (Below.refl _ _)).c 2 (by omega)).ok.few; show _ ≤ _; omega
      have HND := hide hnD
      obtain ⟨da, dc, hdv⟩ := row_form ((unhide HCR) w (Below.refl _ _))
      rw [hnD] at hdv
      have HCR2 : Hid (∀ wx, Below w.heap.size w wx → RecsAt wx da nD (A.cl 2).done) := fun wx hb => by
        have := (unhide HCR) wx hb
        rw [hdv, hnD] at this
        exact recs_row this hnD
      rw [hdv] at HG
      have HCS := hide (Client_some ((unhide HWR) wr (unhide HB)) 2 (by omega))
      generalize (A.cl 2).done = dn at HKD HND HCR2
      generalize (A.cl 2).op = op at HG HKO
      generalize o.X 2 = X at HKO HKD HCS
      clear HCR hdv hnD
      have hcw := ((unhide HQ) _ (unhide HB)).1
      go_wp2_with fail
      refine (unhide HCS).mono ?_
      rintro e w1 ⟨rfl, hw1⟩
      subst hw1
      clear hcw HCS
      go_wp2_with fail
      cases op
      · refine wp_region_held_drew (S := (fun wx => Below w.heap.size w wx)) (by kernel_rfl) ((unhide HB).drew) (fun hHeld => ?_)
        refine tkH ?_ opn0 (fun _ _ _ h => h) hHeld ?_ ?_
        rotate_left 1
        · intro wz hSw; (try dsimp only at hSw); go_simp; all_goals with_reducible rfl
        try simp only [pS]
        refine tkH (.bool false) opn1 (fun _ _ _ h => h) hHeld ?_ ?_
        · intro wz hSw; (try dsimp only at hSw); go_simp; all_goals with_reducible rfl
        try simp only [pS]
        refine tkH ?_ opn2 (fun _ _ _ h => h) hHeld ?_ ?_
        rotate_left 1
        · intro wz hSw; (try dsimp only at hSw); go_simp; all_goals with_reducible rfl
        try simp only [pS]
        refine tkH ?_ opn3 (fun _ _ _ h => h) hHeld ?_ ?_
        rotate_left 1
        · intro wz hSw; (try dsimp only at hSw); go_simp; all_goals with_reducible rfl
        try simp only [pS]
        refine tkH ?_ opn5 (fun _ _ _ h => h) hHeld ?_ ?_
        rotate_left 1
        · intro wz hSw; (try dsimp only at hSw)
          have hq := ((unhide HQ) _ hSw).2.1
          go_simp; all_goals with_reducible rfl
        try simp only [pS]
        refine tkH ?_ opn6 (fun _ _ _ h => h) hHeld ?_ ?_
        rotate_left 1
        · intro wz hSw; (try dsimp only at hSw); go_simp; all_goals with_reducible rfl
        try simp only [pS]
        refine tkH ?_ opn7 (fun _ _ _ h => h) hHeld ?_ ?_
        rotate_left 1
        · intro wz hSw; (try dsimp only at hSw); go_simp; all_goals with_reducible rfl
        try simp only [pS]
        refine tkH ?_ opn8 (fun _ _ _ h => h) hHeld ?_ ?_
        rotate_left 1
        · intro wz hSw; (try dsimp only at hSw); go_simp; all_goals with_reducible rfl
        try simp only [pS]
        refine tkH ?_ opn9 (fun _ _ _ h => h) hHeld ?_ ?_
        rotate_left 1
        · intro wz hSw; (try dsimp only at hSw); go_simp; all_goals with_reducible rfl
        try simp only [pS]
        refine tkH ?_ opn10 (fun _ _ _ h => h) hHeld ?_ ?_
        rotate_left 1
        · intro wz hSw; (try dsimp only at hSw); go_simp; all_goals with_reducible rfl
        try simp only [pS]
        refine tkH ?_ opn11 (fun _ _ _ h => h) hHeld ?_ ?_
        rotate_left 1
        · intro wz hSw; (try dsimp only at hSw)
          have hq := ((unhide HG) _ hSw).1
          go_simp; all_goals with_reducible rfl
        try simp only [pS]
        refine wpAnyH_ready (rs := [4]) (by kernel_rfl) (by simp) ?_
        refine AllReadyH.cons opn4 (fun K hK => ?_) AllReadyH.nil
        rw [if_pos (by kernel_rfl)]
        go_simp
        refine ((unhide HKO) _ hHeld).mono ?_
        rintro e w3 ⟨rfl, hw3⟩
        subst hw3
        refine hK.out _ _ hHeld (fun hHeldN => ?_)
        clear hHeld hK K; have hHeld := hHeldN; clear hHeldN
        try simp only [pS]
        refine tkH (.bool false) opn12 (fun _ _ _ h => h) hHeld ?_ ?_
        · intro wz hSw; (try dsimp only at hSw); go_simp; all_goals with_reducible rfl
        try simp only [pS]
        refine tkH (.bool false) opn13 (fun _ _ _ h => h) hHeld ?_ ?_
        · intro wz hSw; (try dsimp only at hSw); go_simp; all_goals with_reducible rfl
        try simp only [pS]
        refine tkH (.bool false) opn14 (fun _ _ _ h => h) hHeld ?_ ?_
        · intro wz hSw; (try dsimp only at hSw); go_simp; all_goals with_reducible rfl
        try simp only [pS]
        refine tkH ?_ opn15 (fun _ _ _ h => h) hHeld ?_ ?_
        rotate_left 1
        · intro wz hSw; (try dsimp only at hSw); go_simp; all_goals with_reducible rfl
        try simp only [pS]
        refine tkH ?_ opn17 (fun _ _ _ h => h) hHeld ?_ ?_
        rotate_left 1
        · intro wz hSw; (try dsimp only at hSw)
          have hq := ((unhide HQ) _ hSw).2.1
          go_simp; all_goals with_reducible rfl
        try simp only [pS]
        refine tkH ?_ opn18 (fun _ _ _ h => h) hHeld ?_ ?_
        rotate_left 1
        · intro wz hSw; (try dsimp only at hSw); go_simp; all_goals with_reducible rfl
        try simp only [pS]
        refine tkH ?_ opn19 (fun _ _ _ h => h) hHeld ?_ ?_
        rotate_left 1
        · intro wz hSw; (try dsimp only at hSw); go_simp; all_goals with_reducible rfl
        try simp only [pS]
        refine tkH ?_ opn20 (fun _ _ _ h => h) hHeld ?_ ?_
        rotate_left 1
        · intro wz hSw; (try dsimp only at hSw); go_simp; all_goals with_reducible rfl
        try simp only [pS]
        refine tkH ?_ opn21 (fun _ _ _ h => h) hHeld ?_ ?_
        rotate_left 1
        · intro wz hSw; (try dsimp only at hSw); go_simp; all_goals with_reducible rfl
        try simp only [pS]
        refine tkH ?_ opn22 (fun _ _ _ h => h) hHeld ?_ ?_
        rotate_left 1
        · intro wz hSw; (try dsimp only at hSw); go_simp; all_goals with_reducible rfl
        try simp only [pS]
        refine tkH ?_ opn23 (fun _ _ _ h => h) hHeld ?_ ?_
        rotate_left 1
        · intro wz hSw; (try dsimp only at hSw)
          have hq := ((unhide HG) _ hSw).2
          go_simp; all_goals with_reducible rfl
        try simp only [pS]
        refine wpAnyH_ready (rs := [16]) (by kernel_rfl) (by simp) ?_
        refine AllReadyH.cons opn16 (fun K hK => ?_) AllReadyH.nil
        rw [if_pos (by kernel_rfl)]
        go_simp
        refine ((unhide HKD) _ hHeld).mono ?_
        rintro e w3 ⟨g1, c1, rfl, ow, b3⟩
        have HRR := hide (recs_row ow (unhide HND))
        clear ow
        refine hK.out _ _ (hHeld.trans (b3.mono hHeld.size)) (fun hHeldN => ?_)
        clear hHeld hK K; have hHeld := hHeldN; clear hHeldN
        try simp only [pS]
        refine wpAnyH_ready (rs := [24]) (by kernel_rfl) (by simp) ?_
        refine AllReadyH.cons opn24 (fun K hK => ?_) AllReadyH.nil
        rw [if_pos (by kernel_rfl)]
        go_simp
        refine (SameRecords_eq (some ⟨g1, 0, none⟩) da nD c1 dc dn w3 (unhide HRR) ((unhide HCR2) _ hHeld) (unhide HFW)).mono ?_
        rintro e w4 ⟨rfl, b4⟩
        refine hK.out _ _ (hHeld.trans (b4.mono hHeld.size)) (fun hHeldN => ?_)
        clear hHeld hK K; have hHeld := hHeldN; clear hHeldN
        try simp only [pS]
        refine tkH (.bool false) opn25 (fun _ _ _ h => h) hHeld ?_ ?_
        · intro wz hSw; (try dsimp only at hSw); go_simp; all_goals with_reducible rfl
        try simp only [pS]
        refine tkH (.bool false) opn26 (fun _ _ _ h => h) hHeld ?_ ?_
        · intro wz hSw; (try dsimp only at hSw); go_simp; all_goals with_reducible rfl
        try simp only [pS]
        refine wpAnyH_done (by kernel_rfl) ?_ _
        have HB4 := hide hHeld
        clear hHeld
        go_wp2
        go_roundw
        case rel => exact ⟨3, by go_num, by omega, unhide HB4⟩
        case measure => simp [intOf]
      · refine wp_region_held_drew (S := (fun wx => Below w.heap.size w wx)) (by kernel_rfl) ((unhide HB).drew) (fun hHeld => ?_)
        refine tkH ?_ opn0 (fun _ _ _ h => h) hHeld ?_ ?_
        rotate_left 1
        · intro wz hSw; (try dsimp only at hSw); go_simp; all_goals with_reducible rfl
        try simp only [pS]
        refine tkH (.bool false) opn1 (fun _ _ _ h => h) hHeld ?_ ?_
        · intro wz hSw; (try dsimp only at hSw); go_simp; all_goals with_reducible rfl
        try simp only [pS]
        refine tkH ?_ opn2 (fun _ _ _ h => h) hHeld ?_ ?_
        rotate_left 1
        · intro wz hSw; (try dsimp only at hSw); go_simp; all_goals with_reducible rfl
        try simp only [pS]
        refine tkH ?_ opn3 (fun _ _ _ h => h) hHeld ?_ ?_
        rotate_left 1
        · intro wz hSw; (try dsimp only at hSw); go_simp; all_goals with_reducible rfl
        try simp only [pS]
        refine tkH ?_ opn5 (fun _ _ _ h => h) hHeld ?_ ?_
        rotate_left 1
        · intro wz hSw; (try dsimp only at hSw)
          have hq := ((unhide HQ) _ hSw).2.1
          go_simp; all_goals with_reducible rfl
        try simp only [pS]
        refine tkH ?_ opn6 (fun _ _ _ h => h) hHeld ?_ ?_
        rotate_left 1
        · intro wz hSw; (try dsimp only at hSw); go_simp; all_goals with_reducible rfl
        try simp only [pS]
        refine tkH ?_ opn7 (fun _ _ _ h => h) hHeld ?_ ?_
        rotate_left 1
        · intro wz hSw; (try dsimp only at hSw); go_simp; all_goals with_reducible rfl
        try simp only [pS]
        refine tkH ?_ opn8 (fun _ _ _ h => h) hHeld ?_ ?_
        rotate_left 1
        · intro wz hSw; (try dsimp only at hSw); go_simp; all_goals with_reducible rfl
        try simp only [pS]
        refine tkH ?_ opn9 (fun _ _ _ h => h) hHeld ?_ ?_
        rotate_left 1
        · intro wz hSw; (try dsimp only at hSw); go_simp; all_goals with_reducible rfl
        try simp only [pS]
        refine tkH ?_ opn10 (fun _ _ _ h => h) hHeld ?_ ?_
        rotate_left 1
        · intro wz hSw; (try dsimp only at hSw); go_simp; all_goals with_reducible rfl
        try simp only [pS]
        refine tkH ?_ opn11 (fun _ _ _ h => h) hHeld ?_ ?_
        rotate_left 1
        · intro wz hSw; (try dsimp only at hSw)
          have hq := ((unhide HG) _ hSw).1
          go_simp; all_goals with_reducible rfl
        try simp only [pS]
        refine wpAnyH_ready (rs := [4]) (by kernel_rfl) (by simp) ?_
        refine AllReadyH.cons opn4 (fun K hK => ?_) AllReadyH.nil
        rw [if_pos (by kernel_rfl)]
        go_simp
        refine ((unhide HKO) _ hHeld).mono ?_
        rintro e w3 ⟨rfl, hw3⟩
        subst hw3
        refine hK.out _ _ hHeld (fun hHeldN => ?_)
        clear hHeld hK K; have hHeld := hHeldN; clear hHeldN
        try simp only [pS]
        refine tkH (.bool false) opn12 (fun _ _ _ h => h) hHeld ?_ ?_
        · intro wz hSw; (try dsimp only at hSw); go_simp; all_goals with_reducible rfl
        try simp only [pS]
        refine tkH (.bool false) opn13 (fun _ _ _ h => h) hHeld ?_ ?_
        · intro wz hSw; (try dsimp only at hSw); go_simp; all_goals with_reducible rfl
        try simp only [pS]
        refine tkH (.bool false) opn14 (fun _ _ _ h => h) hHeld ?_ ?_
        · intro wz hSw; (try dsimp only at hSw); go_simp; all_goals with_reducible rfl
        try simp only [pS]
        refine tkH ?_ opn15 (fun _ _ _ h => h) hHeld ?_ ?_
        rotate_left 1
        · intro wz hSw; (try dsimp only at hSw); go_simp; all_goals with_reducible rfl
        try simp only [pS]
        refine tkH ?_ opn17 (fun _ _ _ h => h) hHeld ?_ ?_
        rotate_left 1
        · intro wz hSw; (try dsimp only at hSw)
          have hq := ((unhide HQ) _ hSw).2.1
          go_simp; all_goals with_reducible rfl
        try simp only [pS]
        refine tkH ?_ opn18 (fun _ _ _ h => h) hHeld ?_ ?_
        rotate_left 1
        · intro wz hSw; (try dsimp only at hSw); go_simp; all_goals with_reducible rfl
        try simp only [pS]
        refine tkH ?_ opn19 (fun _ _ _ h => h) hHeld ?_ ?_
        rotate_left 1
        · intro wz hSw; (try dsimp only at hSw); go_simp; all_goals with_reducible rfl
        try simp only [pS]
        refine tkH ?_ opn20 (fun _ _ _ h => h) hHeld ?_ ?_
        rotate_left 1
        · intro wz hSw; (try dsimp only at hSw); go_simp; all_goals with_reducible rfl
        try simp only [pS]
        refine tkH ?_ opn21 (fun _ _ _ h => h) hHeld ?_ ?_
        rotate_left 1
        · intro wz hSw; (try dsimp only at hSw); go_simp; all_goals with_reducible rfl
        try simp only [pS]
        refine tkH ?_ opn22 (fun _ _ _ h => h) hHeld ?_ ?_
        rotate_left 1
        · intro wz hSw; (try dsimp only at hSw); go_simp; all_goals with_reducible rfl
        try simp only [pS]
        refine tkH ?_ opn23 (fun _ _ _ h => h) hHeld ?_ ?_
        rotate_left 1
        · intro wz hSw; (try dsimp only at hSw)
          have hq := ((unhide HG) _ hSw).2
          go_simp; all_goals with_reducible rfl
        try simp only [pS]
        refine wpAnyH_ready (rs := [16]) (by kernel_rfl) (by simp) ?_
        refine AllReadyH.cons opn16 (fun K hK => ?_) AllReadyH.nil
        rw [if_pos (by kernel_rfl)]
        go_simp
        refine ((unhide HKD) _ hHeld).mono ?_
        rintro e w3 ⟨g1, c1, rfl, ow, b3⟩
        have HRR := hide (recs_row ow (unhide HND))
        clear ow
        refine hK.out _ _ (hHeld.trans (b3.mono hHeld.size)) (fun hHeldN => ?_)
        clear hHeld hK K; have hHeld := hHeldN; clear hHeldN
        try simp only [pS]
        refine wpAnyH_ready (rs := [24]) (by kernel_rfl) (by simp) ?_
        refine AllReadyH.cons opn24 (fun K hK => ?_) AllReadyH.nil
        rw [if_pos (by kernel_rfl)]
        go_simp
        refine (SameRecords_eq (some ⟨g1, 0, none⟩) da nD c1 dc dn w3 (unhide HRR) ((unhide HCR2) _ hHeld) (unhide HFW)).mono ?_
        rintro e w4 ⟨rfl, b4⟩
        refine hK.out _ _ (hHeld.trans (b4.mono hHeld.size)) (fun hHeldN => ?_)
        clear hHeld hK K; have hHeld := hHeldN; clear hHeldN
        try simp only [pS]
        refine tkH (.bool false) opn25 (fun _ _ _ h => h) hHeld ?_ ?_
        · intro wz hSw; (try dsimp only at hSw); go_simp; all_goals with_reducible rfl
        try simp only [pS]
        refine tkH (.bool false) opn26 (fun _ _ _ h => h) hHeld ?_ ?_
        · intro wz hSw; (try dsimp only at hSw); go_simp; all_goals with_reducible rfl
        try simp only [pS]
        refine wpAnyH_done (by kernel_rfl) ?_ _
        have HB4 := hide hHeld
        clear hHeld
        go_wp2
        go_roundw
        case rel => exact ⟨3, by go_num, by omega, unhide HB4⟩
        case measure => simp [intOf]
    · have hcw := ((unhide HQ) _ (unhide HB)).1
      have HCN := hide (Client_none W wr (3) (by omega))
      go_wp2_with fail
      refine (unhide HCN).mono ?_
      rintro e w1 ⟨rfl, hw1⟩
      subst hw1
      go_wp2
      go_roundw
      case rel => exact ⟨4, by go_num, by omega, unhide HB⟩
      case measure => simp [intOf]
    · go_wp2_with fail
      refine wp_region_held_drew (S := (fun wx => Below w.heap.size w wx)) (by kernel_rfl) ((unhide HB).drew) (fun hHeld => ?_)
      refine tkH ?_ opn0 (fun _ _ _ h => h) hHeld ?_ ?_
      rotate_left 1
      · intro wz hSw; (try dsimp only at hSw)
        have hq := ((unhide HQ) _ hSw).1
        go_simp; all_goals with_reducible rfl
      try simp only [pS]
      refine tkH ?_ opn1 (fun _ _ _ h => h) hHeld ?_ ?_
      rotate_left 1
      · intro wz hSw; (try dsimp only at hSw); go_simp; all_goals with_reducible rfl
      try simp only [pS]
      refine tkH ?_ opn2 (fun _ _ _ h => h) hHeld ?_ ?_
      rotate_left 1
      · intro wz hSw; (try dsimp only at hSw); go_simp; all_goals with_reducible rfl
      try simp only [pS]
      refine tkH ?_ opn3 (fun _ _ _ h => h) hHeld ?_ ?_
      rotate_left 1
      · intro wz hSw; (try dsimp only at hSw)
        have hq := ((unhide HQ) _ hSw).2.2.1
        go_simp; all_goals with_reducible rfl
      try simp only [pS]
      refine tkH ?_ opn6 (fun _ _ _ h => h) hHeld ?_ ?_
      rotate_left 1
      · intro wz hSw; (try dsimp only at hSw)
        have hq := ((unhide HQ) _ hSw).2.1
        go_simp; all_goals with_reducible rfl
      try simp only [pS]
      refine tkH ?_ opn7 (fun _ _ _ h => h) hHeld ?_ ?_
      rotate_left 1
      · intro wz hSw; (try dsimp only at hSw); go_simp; all_goals with_reducible rfl
      try simp only [pS]
      refine tkH ?_ opn8 (fun _ _ _ h => h) hHeld ?_ ?_
      rotate_left 1
      · intro wz hSw; (try dsimp only at hSw); go_simp; all_goals with_reducible rfl
      try simp only [pS]
      refine wpAnyH_ready (rs := [4]) (by kernel_rfl) (by simp) ?_
      refine AllReadyH.cons opn4 (fun K hK => ?_) AllReadyH.nil
      rw [if_pos (by kernel_rfl)]
      go_simp
      refine ((unhide HLG) _ hHeld).mono ?_
      rintro e w3 ⟨l1, k1, rfl, o1, b3⟩
      have ho1 : BRow w3 0 (.slice l1 T k1) (logB A.log) := ownsRow_base o1 (Nat.zero_le _)
      refine hK.out _ _ (hHeld.trans (b3.mono hHeld.size)) (fun hHeldN => ?_)
      clear hHeld hK K; have hHeld := hHeldN; clear hHeldN
      try simp only [pS]
      refine wpAnyH_weak (S' := fun wx => Below w.heap.size w wx ∧ BRow wx 0 (.slice l1 T k1) (logB A.log)) (fun _ h => h.1) _ _ _ _ ?_
      replace hHeld := (show (fun wx => Below w.heap.size w wx ∧ BRow wx 0 (.slice l1 T k1) (logB A.log)) _ from ⟨hHeld, ho1⟩)
      refine tkH ?_ opn5 (fun _ _ _ h => h) hHeld ?_ ?_
      rotate_left 1
      · intro wz hSw; (try dsimp only at hSw)
        have hq : (convert 45 9 (.slice l1 T k1)).run Tryz.prog wz = .ok (.string sL) wz := by rw [unhide HSL]; exact conv_row hSw.2 (unhide HTT)
        go_simp; all_goals with_reducible rfl
      try simp only [pS]
      refine wpAnyH_ready (rs := [9]) (by kernel_rfl) (by simp) ?_
      refine AllReadyH.cons opn9 (fun K hK => ?_) AllReadyH.nil
      rw [if_pos (by kernel_rfl)]
      go_simp
      refine ((unhide HBY) _ hHeld.1).mono ?_
      rintro e w4 ⟨l2, k2, rfl, o2, b4⟩
      have ho2 : BRow w4 0 (.slice l2 T k2) (logB A.log) := ownsRow_base o2 (Nat.zero_le _)
      refine hK.out _ _ ⟨hHeld.1.trans (b4.mono hHeld.1.size), hHeld.2.below b4⟩ (fun hHeldN => ?_)
      clear hHeld hK K; have hHeld := hHeldN; clear hHeldN
      try simp only [pS]
      refine wpAnyH_weak (S' := fun wx => (Below w.heap.size w wx ∧ BRow wx 0 (.slice l1 T k1) (logB A.log)) ∧ BRow wx 0 (.slice l2 T k2) (logB A.log)) (fun _ h => h.1) _ _ _ _ ?_
      replace hHeld := (show (fun wx => (Below w.heap.size w wx ∧ BRow wx 0 (.slice l1 T k1) (logB A.log)) ∧ BRow wx 0 (.slice l2 T k2) (logB A.log)) _ from ⟨hHeld, ho2⟩)
      refine tkH ?_ opn10 (fun _ _ _ h => h) hHeld ?_ ?_
      rotate_left 1
      · intro wz hSw; (try dsimp only at hSw)
        have hq : (convert 45 9 (.slice l2 T k2)).run Tryz.prog wz = .ok (.string sL) wz := by rw [unhide HSL]; exact conv_row hSw.2 (unhide HTT)
        go_simp; all_goals with_reducible rfl
      try simp only [pS]
      refine tkH (.bool true) opn11 (fun _ _ _ h => h) hHeld ?_ ?_
      · intro wz hSw; (try dsimp only at hSw); go_simp; all_goals with_reducible rfl
      try simp only [pS]
      refine tkH (.bool true) opn12 (fun _ _ _ h => h) hHeld ?_ ?_
      · intro wz hSw; (try dsimp only at hSw); go_simp; all_goals with_reducible rfl
      try simp only [pS]
      refine tkH ?_ opn13 (fun _ _ _ h => h) hHeld ?_ ?_
      rotate_left 1
      · intro wz hSw; (try dsimp only at hSw)
        have hq := ((unhide HQ) _ hSw.1.1).1
        go_simp; all_goals with_reducible rfl
      try simp only [pS]
      refine tkH ?_ opn15 (fun _ _ _ h => h) hHeld ?_ ?_
      rotate_left 1
      · intro wz hSw; (try dsimp only at hSw)
        have hq := ((unhide HQ) _ hSw.1.1).2.1
        go_simp; all_goals with_reducible rfl
      try simp only [pS]
      refine tkH ?_ opn16 (fun _ _ _ h => h) hHeld ?_ ?_
      rotate_left 1
      · intro wz hSw; (try dsimp only at hSw); go_simp; all_goals with_reducible rfl
      try simp only [pS]
      refine tkH ?_ opn17 (fun _ _ _ h => h) hHeld ?_ ?_
      rotate_left 1
      · intro wz hSw; (try dsimp only at hSw); go_simp; all_goals with_reducible rfl
      try simp only [pS]
      refine tkH ?_ opn18 (fun _ _ _ h => h) hHeld ?_ ?_
      rotate_left 1
      · intro wz hSw; (try dsimp only at hSw)
        have hq := ((unhide HQ) _ hSw.1.1).2.2.2.1
        go_simp; all_goals with_reducible rfl
      try simp only [pS]
      refine wpAnyH_ready (rs := [14]) (by kernel_rfl) (by simp) ?_
      refine AllReadyH.cons opn14 (fun K hK => ?_) AllReadyH.nil
      rw [if_pos (by kernel_rfl)]
      go_simp
      refine ((unhide HPK) _ hHeld.1.1).mono ?_
      rintro e w5 ⟨g5, c5, rfl, o5, b5⟩
      have HO5 := hide (pkts_row o5 (unhide HMM))
      clear o5
      refine hK.out _ _ ⟨⟨hHeld.1.1.trans (b5.mono hHeld.1.1.size), hHeld.1.2.below b5⟩, hHeld.2.below b5⟩ (fun hHeldN => ?_)
      clear hHeld hK K; have hHeld := hHeldN; clear hHeldN
      try simp only [pS]
      refine wpAnyH_ready (rs := [19]) (by kernel_rfl) (by simp) ?_
      refine AllReadyH.cons opn19 (fun K hK => ?_) AllReadyH.nil
      rw [if_pos (by kernel_rfl)]
      go_simp
      refine (SamePackets_any (some ⟨g5, 0, none⟩) pa M M c5 pcap A.ms A.ms w5 (unhide HO5) ((unhide HPR) _ hHeld.1.1) (unhide HM4) (unhide HM4) true (by simp [Hid])).mono ?_
      rintro e w6 ⟨rfl, b6⟩
      refine hK.out _ _ ⟨⟨hHeld.1.1.trans (b6.mono hHeld.1.1.size), hHeld.1.2.below b6⟩, hHeld.2.below b6⟩ (fun hHeldN => ?_)
      clear hHeld hK K; have hHeld := hHeldN; clear hHeldN
      try simp only [pS]
      refine tkH (.bool true) opn20 (fun _ _ _ h => h) hHeld ?_ ?_
      · intro wz hSw; (try dsimp only at hSw); go_simp; all_goals with_reducible rfl
      try simp only [pS]
      refine tkH (.bool true) opn21 (fun _ _ _ h => h) hHeld ?_ ?_
      · intro wz hSw; (try dsimp only at hSw); go_simp; all_goals with_reducible rfl
      try simp only [pS]
      refine tkH ?_ opn22 (fun _ _ _ h => h) hHeld ?_ ?_
      rotate_left 1
      · intro wz hSw; (try dsimp only at hSw)
        have hq := ((unhide HQ) _ hSw.1.1).1
        go_simp; all_goals with_reducible rfl
      try simp only [pS]
      refine tkH ?_ opn23 (fun _ _ _ h => h) hHeld ?_ ?_
      rotate_left 1
      · intro wz hSw; (try dsimp only at hSw); go_simp; all_goals with_reducible rfl
      try simp only [pS]
      refine tkH ?_ opn24 (fun _ _ _ h => h) hHeld ?_ ?_
      rotate_left 1
      · intro wz hSw; (try dsimp only at hSw); go_simp; all_goals with_reducible rfl
      try simp only [pS]
      refine tkH ?_ opn25 (fun _ _ _ h => h) hHeld ?_ ?_
      rotate_left 1
      · intro wz hSw; (try dsimp only at hSw)
        have hq := ((unhide HQ) _ hSw.1.1).2.2.1
        go_simp; all_goals with_reducible rfl
      try simp only [pS]
      refine tkH ?_ opn26 (fun _ _ _ h => h) hHeld ?_ ?_
      rotate_left 1
      · intro wz hSw; (try dsimp only at hSw); go_simp; all_goals with_reducible rfl
      try simp only [pS]
      refine tkH ?_ opn27 (fun _ _ _ h => h) hHeld ?_ ?_
      rotate_left 1
      · intro wz hSw; (try dsimp only at hSw); go_simp; all_goals with_reducible rfl
      try simp only [pS]
      refine tkH ?_ opn28 (fun _ _ _ h => h) hHeld ?_ ?_
      rotate_left 1
      · intro wz hSw; (try dsimp only at hSw)
        have hq := ((unhide HQ) _ hSw.1.1).2.2.2.2.2
        go_simp; all_goals with_reducible rfl
      try simp only [pS]
      refine tkH ?_ opn30 (fun _ _ _ h => h) hHeld ?_ ?_
      rotate_left 1
      · intro wz hSw; (try dsimp only at hSw)
        have hq := ((unhide HQ) _ hSw.1.1).2.1
        go_simp; all_goals with_reducible rfl
      try simp only [pS]
      refine tkH ?_ opn31 (fun _ _ _ h => h) hHeld ?_ ?_
      rotate_left 1
      · intro wz hSw; (try dsimp only at hSw); go_simp; all_goals with_reducible rfl
      try simp only [pS]
      refine tkH ?_ opn32 (fun _ _ _ h => h) hHeld ?_ ?_
      rotate_left 1
      · intro wz hSw; (try dsimp only at hSw); go_simp; all_goals with_reducible rfl
      try simp only [pS]
      refine tkH ?_ opn33 (fun _ _ _ h => h) hHeld ?_ ?_
      rotate_left 1
      · intro wz hSw; (try dsimp only at hSw); go_simp; all_goals with_reducible rfl
      try simp only [pS]
      refine tkH ?_ opn34 (fun _ _ _ h => h) hHeld ?_ ?_
      rotate_left 1
      · intro wz hSw; (try dsimp only at hSw)
        have hq := ((unhide HQ) _ hSw.1.1).2.2.2.2.1
        go_simp; all_goals with_reducible rfl
      try simp only [pS]
      refine wpAnyH_ready (rs := [29]) (by kernel_rfl) (by simp) ?_
      refine AllReadyH.cons opn29 (fun K hK => ?_) AllReadyH.nil
      rw [if_pos (by kernel_rfl)]
      go_simp
      refine ((unhide HNM) _ hHeld.1.1).mono ?_
      rintro e w7 ⟨g1, k3, rfl, o3, b7⟩
      have ho3 : w7.ownsRow 0 9 1 (.slice (some ⟨g1, 0, none⟩) M2 k3) M2 ((sNames (behind A.log)).map .string) := ownsRow_base o3 (Nat.zero_le _)
      refine hK.out _ _ ⟨⟨hHeld.1.1.trans (b7.mono hHeld.1.1.size), hHeld.1.2.below b7⟩, hHeld.2.below b7⟩ (fun hHeldN => ?_)
      clear hHeld hK K; have hHeld := hHeldN; clear hHeldN
      try simp only [pS]
      refine wpAnyH_ready (rs := [35]) (by kernel_rfl) (by simp) ?_
      refine AllReadyH.cons opn35 (fun K hK => ?_) AllReadyH.nil
      rw [if_pos (by kernel_rfl)]
      go_simp
      refine ((unhide HBH) _ hHeld.1.1).mono ?_
      rintro e w8 ⟨D, dv, rfl, od, b8⟩
      obtain ⟨da, dc, rfl⟩ := od.form2
      rw [unhide HM2] at od
      obtain ⟨_, hdn⟩ := dNames_M od (unhide HM2)
      have HDN := hide hdn
      have hdc := od.cell0
      have ho4 : w8.ownsRow 0 9 1 (.slice (some ⟨g1, 0, none⟩) M2 k3) M2 ((sNames (behind A.log)).map .string) := ownsRow_same ho3 (fun k h1 => b8.block k (ho3.lt k h1).2)
      clear hdn od
      refine hK.out _ _ ⟨⟨hHeld.1.1.trans (b8.mono hHeld.1.1.size), hHeld.1.2.below b8⟩, hHeld.2.below b8⟩ (fun hHeldN => ?_)
      clear hHeld hK K; have hHeld := hHeldN; clear hHeldN
      try simp only [pS]
      refine wpAnyH_weak (S' := fun wx => ((Below w.heap.size w wx ∧ BRow wx 0 (.slice l1 T k1) (logB A.log)) ∧ BRow wx 0 (.slice l2 T k2) (logB A.log)) ∧ wx.cell? ⟨D, 0, none⟩ = some (.slice da M2 dc)) (fun _ h => h.1) _ _ _ _ ?_
      replace hHeld := (show (fun wx => ((Below w.heap.size w wx ∧ BRow wx 0 (.slice l1 T k1) (logB A.log)) ∧ BRow wx 0 (.slice l2 T k2) (logB A.log)) ∧ wx.cell? ⟨D, 0, none⟩ = some (.slice da M2 dc)) _ from ⟨hHeld, hdc⟩)
      clear hdc
      refine tkH ?_ opn36 (fun _ _ _ h => h) hHeld ?_ ?_
      rotate_left 1
      · intro wz hSw; (try dsimp only at hSw); go_simp; all_goals with_reducible rfl
      try simp only [pS]
      refine tkH ?_ opn37 (fun _ _ _ h => h) hHeld ?_ ?_
      rotate_left 1
      · intro wz hSw; (try dsimp only at hSw)
        have hq := hSw.2
        go_simp; all_goals with_reducible rfl
      try simp only [pS]
      refine wpAnyH_ready (rs := [38]) (by kernel_rfl) (by simp) ?_
      refine AllReadyH.cons opn38 (fun K hK => ?_) AllReadyH.nil
      rw [if_pos (by kernel_rfl)]
      go_simp
      refine (unhide HDN).mono ?_
      rintro e w9 ⟨g2, k4, rfl, o4, b9⟩
      have ho5 : w9.ownsRow 0 9 1 (.slice g2 M2 k4) M2 ((sNames (behind A.log)).map .string) := ownsRow_base o4 (Nat.zero_le _)
      have ho6 : w9.ownsRow 0 9 1 (.slice (some ⟨g1, 0, none⟩) M2 k3) M2 ((sNames (behind A.log)).map .string) := ownsRow_same ho4 (fun k h1 => b9.block k (ho4.lt k h1).2)
      refine hK.out _ _ ⟨⟨⟨hHeld.1.1.1.trans (b9.mono hHeld.1.1.1.size), hHeld.1.1.2.below b9⟩, hHeld.1.2.below b9⟩, (b9.cell (p := ⟨D, 0, none⟩) (World.block_lt_of_cell? _ _ hHeld.2)).trans hHeld.2⟩ (fun hHeldN => ?_)
      clear hHeld hK K; have hHeld := hHeldN; clear hHeldN
      try simp only [pS]
      refine wpAnyH_ready (rs := [39]) (by kernel_rfl) (by simp) ?_
      refine AllReadyH.cons opn39 (fun K hK => ?_) AllReadyH.nil
      rw [if_pos (by kernel_rfl)]
      go_simp
      refine (SameTexts_any (some ⟨g1, 0, none⟩) g2 M2 M2 k3 k4 _ _ _ ho6 ho5 (unhide HM21) (unhide HM21)).mono ?_
      rintro e w10 ⟨rfl, b10⟩
      rw [decide_eq_true (rfl : sNames (behind A.log) = sNames (behind A.log))]
      refine hK.out _ _ ⟨⟨⟨hHeld.1.1.1.trans (b10.mono hHeld.1.1.1.size), hHeld.1.1.2.below b10⟩, hHeld.1.2.below b10⟩, (b10.cell (p := ⟨D, 0, none⟩) (World.block_lt_of_cell? _ _ hHeld.2)).trans hHeld.2⟩ (fun hHeldN => ?_)
      clear hHeld hK K; have hHeld := hHeldN; clear hHeldN
      try simp only [pS]
      refine tkH (.bool true) opn40 (fun _ _ _ h => h) hHeld ?_ ?_
      · intro wz hSw; (try dsimp only at hSw); go_simp; all_goals with_reducible rfl
      try simp only [pS]
      refine tkH (.bool true) opn41 (fun _ _ _ h => h) hHeld ?_ ?_
      · intro wz hSw; (try dsimp only at hSw); go_simp; all_goals with_reducible rfl
      try simp only [pS]
      refine wpAnyH_done (by kernel_rfl) ?_ _
      have HBE := hide hHeld.1.1.1
      clear hHeld
      go_wp2
      go_ret
      exact ⟨rfl, unhide HBE⟩
structure WHDuo (N : Nat) (w : World) (W : Nat) (o : WOwn) (H : Nat) (o' : HOwn) (Bw Bh : Nat) (A A' : AW) : Prop where
  r1 : WRep N w W o A
  r2 : HRep N w H o' A'
  dj : ∀ b, b ∈ o.all W → b ∉ o'.all H
  c1 : w.cell? ⟨Bw, 0, none⟩ = some (.pointer (some ⟨W, 0, none⟩))
  c2 : w.cell? ⟨Bh, 0, none⟩ = some (.pointer (some ⟨H, 0, none⟩))
  n1 : Bw ∉ o.all W ∧ Bw ∉ o'.all H
  n2 : Bh ∉ o.all W ∧ Bh ∉ o'.all H
section
variable {N : Nat} {w w' : World} {W H : Nat} {o : WOwn} {o' : HOwn} {Bw Bh : Nat} {A A' B : AW}
theorem WHDuo.l1 (h : WHDuo N w W o H o' Bw Bh A A') : Bw < w.heap.size := World.block_lt_of_cell? _ _ h.c1
theorem WHDuo.l2 (h : WHDuo N w W o H o' Bw Bh A A') : Bh < w.heap.size := World.block_lt_of_cell? _ _ h.c2
theorem WHDuo.below (h : WHDuo N w W o H o' Bw Bh A A') (hb : Below w.heap.size w w') : WHDuo N w' W o H o' Bw Bh A A' :=
  ⟨h.r1.below hb, h.r2.below hb, h.dj, (hb.cell (p := ⟨Bw, 0, none⟩) h.l1).trans h.c1, (hb.cell (p := ⟨Bh, 0, none⟩) h.l2).trans h.c2, h.n1, h.n2⟩
theorem WHDuo.one (h : WHDuo N w W o H o' Bw Bh A A') (hT : WTurn N w W o w' B) : ∃ o1, WHDuo N w' W o1 H o' Bw Bh B A' := by
  obtain ⟨o1, k1, k2⟩ := hT
  have hd : ∀ b, b ∈ o'.all H → b ∉ o.all W := fun b h1 h2 => h.dj b h2 h1
  have e1 := k2.keep Bw h.l1 h.n1.1
  have e2 := k2.keep Bh h.l2 h.n2.1
  exact ⟨o1, k1, h.r2.kept k2.kept hd, fun b h1 h2 => (k2.keep b (h.r2.all_ge b h2).2 (hd b h2)).1 h1, (World.cell?_of_block (w := w) (a := ⟨Bw, 0, none⟩) e1.2).trans h.c1, (World.cell?_of_block (w := w) (a := ⟨Bh, 0, none⟩) e2.2).trans h.c2, ⟨e1.1, h.n1.2⟩, ⟨e2.1, h.n2.2⟩⟩
theorem WHDuo.two (h : WHDuo N w W o H o' Bw Bh A A') (hT : HTurn N w H o' w' B) : ∃ o1, WHDuo N w' W o H o1 Bw Bh A B := by
  obtain ⟨o1, k1, k2⟩ := hT
  have e1 := k2.keep Bw h.l1 h.n1.2
  have e2 := k2.keep Bh h.l2 h.n2.2
  exact ⟨o1, h.r1.kept k2.kept h.dj, k1, fun b h1 h2 => (k2.keep b (h.r1.all_ge b h1).2 (h.dj b h1)).1 h2, (World.cell?_of_block (w := w) (a := ⟨Bw, 0, none⟩) e1.2).trans h.c1, (World.cell?_of_block (w := w) (a := ⟨Bh, 0, none⟩) e2.2).trans h.c2, ⟨h.n1.1, e1.1⟩, ⟨h.n2.1, e2.1⟩⟩
theorem hown0_all (H b : Nat) (h : b ∈ hown0.all H) : b = H := by
  rcases HOwn.mem_all.1 h with e | ⟨i, hi, e⟩
  · exact e
  · exfalso
    unfold HOwn.val hown0 at e
    revert e
    split
    · simp [Value.ownBlock]
    split
    · simp [Value.ownBlock]
    · simp [Value.ownBlock]
theorem two_boxes {w4 : World} {t1 t2 : TypeId} {p1 p2 : Value} : ∀ V, V = (w4.alloc (.cells #[p1] t1)).alloc (.cells #[p2] t2) →
    V.cell? ⟨w4.heap.size, 0, none⟩ = some p1 ∧ V.cell? ⟨w4.heap.size + 1, 0, none⟩ = some p2 ∧ Below w4.heap.size w4 V := by
  intro V hV
  have b1 : Below w4.heap.size w4 (w4.alloc (.cells #[p1] t1)) := (Below.refl _ _).alloc (Nat.le_refl _) _
  have z1 : (w4.alloc (.cells #[p1] t1)).heap.size = w4.heap.size + 1 := al_size _ _
  have n1 : (w4.alloc (.cells #[p1] t1)).heap[w4.heap.size]? = some (.cells #[p1] t1 (0, 0)) := heap_alloc_new _ _
  generalize w4.alloc (.cells #[p1] t1) = V1 at *
  have b2 : Below V1.heap.size V1 (V1.alloc (.cells #[p2] t2)) := (Below.refl _ _).alloc (Nat.le_refl _) _
  have n2 : (V1.alloc (.cells #[p2] t2)).heap[V1.heap.size]? = some (.cells #[p2] t2 (0, 0)) := heap_alloc_new _ _
  rw [z1] at n2
  have n3 := (b2.block w4.heap.size (by omega)).trans n1
  have b3 := b1.trans (b2.mono b1.size)
  rw [← hV] at n2 n3 b3
  exact ⟨by rw [cell_of_row V w4.heap.size _ _ _ _ n3]; rfl, by rw [cell_of_row V (w4.heap.size + 1) _ _ _ _ n2]; rfl, b3⟩
theorem WHDuo.start {V : World} (h : WRep N w W o AW.start) (g : HRep N w' w.heap.size hown0 AW.start) (hb : Below w.heap.size w w') (hv : Below w'.heap.size w' V) (c1 : V.cell? ⟨w'.heap.size, 0, none⟩ = some (.pointer (some ⟨W, 0, none⟩))) (c2 : V.cell? ⟨w'.heap.size + 1, 0, none⟩ = some (.pointer (some ⟨w.heap.size, 0, none⟩))) : WHDuo N V W o w.heap.size hown0 w'.heap.size (w'.heap.size + 1) AW.start AW.start := by
  have hz := hb.size
  have hgl := g.lt
  refine ⟨h.below (hb.trans (hv.mono hz)), g.below hv, fun b h1 h2 => ?_, c1, c2, ⟨fun hm => ?_, fun hm => ?_⟩, ⟨fun hm => ?_, fun hm => ?_⟩⟩
  · have := (h.all_ge b h1).2; have := hown0_all _ _ h2; omega
  · have := (h.all_ge _ hm).2; omega
  · have := hown0_all _ _ hm; omega
  · have := (h.all_ge _ hm).2; omega
  · have := hown0_all _ _ hm; omega
end
theorem tot_start : tot AW.start = 0 := rfl
theorem hcalm_all {A : AW} (h : WInv A) (ht : tot A ≤ 250) : hcalm 3 A = AW.calm 3 A := hcalm_eq 3 A (by
  have := (calm_room h (Room.of (room_250 h ht))).1
  omega)
set_option maxRecDepth 100000 in
set_option maxHeartbeats 8000000 in
theorem wdoes_walk (a0 : Option Addr) (n0 c0 : Nat) (ls : List AX) (w : World) (hl : XsAt w a0 n0 ls) :
    Calls Tryz.prog 3 #[.slice a0 n0 c0] w fun e w' => e = .returned (.bool true) ∧ Below w.heap.size w w' := by
  have HBG := hide worldBegun_any
  have HL := hide hl
  have HGR := hide (fun W (hb : Below w.heap.size w W) => greatSteps_any a0 n0 c0 ls W (hl.below hb))
  have HNEW := hide WNew_any
  clear hl
  go_enter Tryz.func3, Tryz.ntmps3
  go_wp2_with fail
  refine ((unhide HBG) _).mono ?_
  rintro e w1 ⟨rfl, b1⟩
  have HB1 := hide b1
  go_wp2_with fail
  refine ((unhide HGR) _ b1).mono ?_
  rintro e w2 ⟨⟨r, rfl, hr⟩, b2⟩
  have HB2 := hide (b1.trans (b2.mono b1.size))
  have HRF := hide hr
  clear b1 b2 HB1 hr
  cases r
  rotate_left 1
  · go_wp2
    go_ret
    exact ⟨rfl, unhide HB2⟩
  have hn0 := (unhide HRF) rfl
  clear HRF HBG HGR
  go_wp2_with fail
  refine ((unhide HNEW) _).mono ?_
  rintro e w3 ⟨W, o0, rfl, hr0, hb0⟩
  have HR0 := hide hr0
  have HB0 := hide hb0
  have hz2 : w.heap.size ≤ w2.heap.size := (unhide HB2).size
  clear hr0 hb0
  have HNH := hide (fun (w : World) (hN : w2.heap.size ≤ w.heap.size) => NewHouse_any w2.heap.size w hN)
  go_wp2_with fail
  refine ((unhide HNH) _ (unhide HB0).size).mono ?_
  rintro e w4 ⟨rfl, hr4, hb4⟩
  obtain ⟨V, hV⟩ : ∃ V, V = (w4.alloc (.cells #[.pointer (some ⟨W, 0, none⟩)] 25)).alloc (.cells #[.pointer (some ⟨w3.heap.size, 0, none⟩)] 27) := ⟨_, rfl⟩
  obtain ⟨v1, v2, v3⟩ := two_boxes V hV
  have HD0 := hide (WHDuo.start (unhide HR0) hr4 hb4 v3 v1 v2)
  have HBV := hide ((unhide HB0).trans ((hb4.trans (v3.mono hb4.size)).mono (unhide HB0).size))
  have HV := hide hV
  clear hr4 hb4 v1 v2 v3 HR0 HB0 HNH HNEW hV
  have hmf : ∀ (fn : Fn) (first cap : Array Value) (w : World), (Instr.makeFunc fn first cap).run Tryz.prog w = .ok (.func fn first cap) w := fun _ _ _ _ => rfl
  go_wp2_with fail
  rw [← unhide HV]
  go_loopw [6] (fun i wr => ∃ (q : Nat) (o : WOwn) (o' : HOwn) (A : AW), q ≤ n0 ∧ i = .int .i64 (q : Int) ∧ Hid (WHDuo w2.heap.size wr W o w3.heap.size o' w4.heap.size (w4.heap.size + 1) A A) ∧ Hid (WInv A ∧ tot A ≤ q) ∧ Hid (Below w2.heap.size w2 wr)) (fun i _ => n0 - (intOf i).toNat)
  case atStart => exact ⟨0, o0, hown0, AW.start, Nat.zero_le _, rfl, unhide HD0, ⟨WInv.start, Nat.le_of_eq tot_start⟩, unhide HBV⟩
  case round =>
    clear HD0 HBV HV
    obtain ⟨q, o, o', A, hq, rfl, HD, HI, HB⟩ := hrel
    have HBw := hide ((unhide HB2).trans ((unhide HB).mono hz2))
    have HDD := hide ((unhide HD).below (below_drew wr))
    by_cases hlt : (q : Int) < (n0 : Int)
    · obtain ⟨x, hx⟩ : ∃ x, ls[q]? = some x := ⟨_, List.getElem?_eq_getElem (by rw [(unhide HL).1]; omega)⟩
      obtain ⟨b, off, rfl, hc⟩ := ((unhide HL).below (unhide HBw)).2.2.2 (by omega)
      have hxa := hc q x hx
      have hsz := (unhide HL).2.2.1 x (List.mem_of_getElem? hx)
      obtain ⟨b', off', hb', hcl⟩ := (unhide HL).2.2.2 (by omega)
      cases hb'
      have hbl0 : b < w.heap.size := (hcl q x hx).lt
      have HST := hide (Step_any (unhide HDD).r1 x hsz)
      have HSTX := hide (fun wx oo (hr : HRep w2.heap.size wx w3.heap.size oo A) => HStep_any hr x hsz)
      have HI2 : Hid (WInv (A.step x).2 ∧ tot (A.step x).2 ≤ q + 1) := ⟨(unhide HI).1.step hsz, by have := step_tot A x; have := (unhide HI).2; omega⟩
      have hqi : (0 : Int) ≤ (q : Int) := by omega
      generalize A.step x = R at HST HSTX HI2
      obtain ⟨r1, A2⟩ := R
      dsimp only at HST HSTX HI2
      clear hc hcl hx hsz
      obtain ⟨xk, xn, xp, ⟨ck, ca, cb, ct⟩⟩ := x
      have HXR := hide hxa
      dsimp only [AX.val] at HST HSTX
      have hbl : b < w2.heap.size := by omega
      have hrr : (r1 != r1) = false := by simp
      clear hxa
      by_cases hm : q % 4 = 0
      · have hm4 : (Int.tmod (q : Int) 4 == 0) = true := by
          rw [Int.tmod_eq_emod_of_nonneg hqi]; simp; omega
        clear hm
        go_wp2_with fail
        refine wp_region_held_drew (S := (fun wx => XAt wx b (off + q * 7) ⟨xk, xn, xp, ⟨ck, ca, cb, ct⟩⟩ ∧ wx.cell? ⟨w4.heap.size, 0, none⟩ = some (.pointer (some ⟨W, 0, none⟩)) ∧ wx.cell? ⟨(w4.heap.size + 1), 0, none⟩ = some (.pointer (some ⟨w3.heap.size, 0, none⟩)))) (by kernel_rfl) (⟨(unhide HXR).same rfl, (unhide HDD).c1, (unhide HDD).c2⟩) (fun hHeld => ?_)
        refine tkH ?_ opn0 (fun _ _ _ h => h) hHeld ?_ ?_
        rotate_left 1
        · intro wz hSw; (try dsimp only at hSw)
          have hq := hSw.2.1
          go_simp; all_goals with_reducible rfl
        try simp only [pS]
        refine tkH ?_ opn1 (fun _ _ _ h => h) hHeld ?_ ?_
        rotate_left 1
        · intro wz hSw; (try dsimp only at hSw); go_simp; all_goals with_reducible rfl
        try simp only [pS]
        refine tkH ?_ opn2 (fun _ _ _ h => h) hHeld ?_ ?_
        rotate_left 1
        · intro wz hSw; (try dsimp only at hSw); go_simp; all_goals with_reducible rfl
        try simp only [pS]
        refine tkH ?_ opn3 (fun _ _ _ h => h) hHeld ?_ ?_
        rotate_left 1
        · intro wz hSw; (try dsimp only at hSw); go_simp; all_goals with_reducible rfl
        try simp only [pS]
        refine tkH ?_ opn4 (fun _ _ _ h => h) hHeld ?_ ?_
        rotate_left 1
        · intro wz hSw; (try dsimp only at hSw)
          obtain ⟨g0, g1, g2, g3, g4, g5, g6⟩ := hSw.1
          go_simp; all_goals with_reducible rfl
        try simp only [pS]
        refine tkH ?_ opn6 (fun _ _ _ h => h) hHeld ?_ ?_
        rotate_left 1
        · intro wz hSw; (try dsimp only at hSw)
          have hq := hSw.2.2
          go_simp; all_goals with_reducible rfl
        try simp only [pS]
        refine tkH ?_ opn7 (fun _ _ _ h => h) hHeld ?_ ?_
        rotate_left 1
        · intro wz hSw; (try dsimp only at hSw); go_simp; all_goals with_reducible rfl
        try simp only [pS]
        refine tkH ?_ opn8 (fun _ _ _ h => h) hHeld ?_ ?_
        rotate_left 1
        · intro wz hSw; (try dsimp only at hSw); go_simp; all_goals with_reducible rfl
        try simp only [pS]
        refine tkH ?_ opn9 (fun _ _ _ h => h) hHeld ?_ ?_
        rotate_left 1
        · intro wz hSw; (try dsimp only at hSw); go_simp; all_goals with_reducible rfl
        try simp only [pS]
        refine tkH ?_ opn10 (fun _ _ _ h => h) hHeld ?_ ?_
        rotate_left 1
        · intro wz hSw; (try dsimp only at hSw)
          obtain ⟨g0, g1, g2, g3, g4, g5, g6⟩ := hSw.1
          go_simp; all_goals with_reducible rfl
        try simp only [pS]
        refine wpAnyH_ready (rs := [5]) (by kernel_rfl) (by simp) ?_
        refine AllReadyH.cons opn5 (fun K hK => ?_) AllReadyH.nil
        rw [if_pos (by kernel_rfl)]
        go_simp
        refine (unhide HST).mono ?_
        rintro e w6 ⟨rfl, hT⟩
        have hb6 := hT.below
        obtain ⟨o6, hd6⟩ := (unhide HDD).one hT
        have hx6 : XAt w6 b (off + q * 7) ⟨xk, xn, xp, ⟨ck, ca, cb, ct⟩⟩ := (unhide HXR).same (hb6.block b hbl)
        have HD6 := hide hd6
        have HX6 := hide hx6
        have HB6 := hide ((unhide HB).drew.trans hb6)
        have HSH := hide ((unhide HSTX) _ _ hd6.r2)
        clear hT hb6
        refine hK.out _ _ ⟨hx6, hd6.c1, hd6.c2⟩ (fun hHeldN => ?_)
        clear hHeld hK K; have hHeld := hHeldN; clear hHeldN
        try simp only [pS]
        clear hd6 hx6
        refine wpAnyH_ready (rs := [11]) (by kernel_rfl) (by simp) ?_
        refine AllReadyH.cons opn11 (fun K hK => ?_) AllReadyH.nil
        rw [if_pos (by kernel_rfl)]
        go_simp
        refine (unhide HSH).mono ?_
        rintro e w7 ⟨rfl, hT⟩
        have hb7 := hT.below
        obtain ⟨o7, hd7⟩ := (unhide HD6).two hT
        have hx7 : XAt w7 b (off + q * 7) ⟨xk, xn, xp, ⟨ck, ca, cb, ct⟩⟩ := (unhide HX6).same (hb7.block b hbl)
        have HD7 := hide hd7
        have HX7 := hide hx7
        have HB7 := hide ((unhide HB6).trans hb7)
        clear hT hb7
        refine hK.out _ _ ⟨hx7, hd7.c1, hd7.c2⟩ (fun hHeldN => ?_)
        clear hHeld hK K; have hHeld := hHeldN; clear hHeldN
        try simp only [pS]
        clear hd7 hx7
        refine tkH (.bool false) opn12 (fun _ _ _ h => h) hHeld ?_ ?_
        · intro wz hSw; (try dsimp only at hSw); go_simp; all_goals with_reducible rfl
        try simp only [pS]
        refine tkH (.bool false) opn13 (fun _ _ _ h => h) hHeld ?_ ?_
        · intro wz hSw; (try dsimp only at hSw); go_simp; all_goals with_reducible rfl
        try simp only [pS]
        refine tkH ?_ opn14 (fun _ _ _ h => h) hHeld ?_ ?_
        rotate_left 1
        · intro wz hSw; (try dsimp only at hSw); go_simp; all_goals with_reducible rfl
        try simp only [pS]
        refine tkH ?_ opn15 (fun _ _ _ h => h) hHeld ?_ ?_
        rotate_left 1
        · intro wz hSw; (try dsimp only at hSw); go_simp; all_goals with_reducible rfl
        try simp only [pS]
        refine tkH (.bool true) opn16 (fun _ _ _ h => h) hHeld ?_ ?_
        · intro wz hSw; (try dsimp only at hSw); go_simp; all_goals with_reducible rfl
        try simp only [pS]
        refine tkH (.bool true) opn17 (fun _ _ _ h => h) hHeld ?_ ?_
        · intro wz hSw; (try dsimp only at hSw); go_simp; all_goals with_reducible rfl
        try simp only [pS]
        refine tkH ?_ opn18 (fun _ _ _ h => h) hHeld ?_ ?_
        rotate_left 1
        · intro wz hSw; (try dsimp only at hSw); go_simp; all_goals with_reducible rfl
        try simp only [pS]
        refine wpAnyH_ready (rs := [19]) (by kernel_rfl) (by simp) ?_
        refine AllReadyH.cons opn19 (fun K hK => ?_) AllReadyH.nil
        rw [if_pos (by kernel_rfl)]
        go_simp
        refine (same_any (unhide HD7).r1 (unhide HD7).r2 (unhide HD7).c1 (unhide HD7).c2).mono ?_
        rintro e w8 ⟨rfl, b8⟩
        have hd8 := (unhide HD7).below b8
        have HD8 := hide hd8
        have HB8 := hide ((unhide HB7).trans (b8.mono (unhide HB7).size))
        refine hK.out _ _ ⟨(unhide HX7).same (b8.block b (unhide HX7).lt), hd8.c1, hd8.c2⟩ (fun hHeldN => ?_)
        clear hHeld hK K; have hHeld := hHeldN; clear hHeldN
        try simp only [pS]
        clear hd8 b8
        refine tkH (.bool false) opn20 (fun _ _ _ h => h) hHeld ?_ ?_
        · intro wz hSw; (try dsimp only at hSw); go_simp; all_goals with_reducible rfl
        try simp only [pS]
        refine tkH (.bool false) opn21 (fun _ _ _ h => h) hHeld ?_ ?_
        · intro wz hSw; (try dsimp only at hSw); go_simp; all_goals with_reducible rfl
        try simp only [pS]
        refine tkH (.bool false) opn22 (fun _ _ _ h => h) hHeld ?_ ?_
        · intro wz hSw; (try dsimp only at hSw); go_simp; all_goals with_reducible rfl
        try simp only [pS]
        refine wpAnyH_done (by kernel_rfl) ?_ _
        clear hHeld
        go_wp2
        go_roundw
        case rel => exact ⟨q + 1, _, _, A2, by omega, by go_num, unhide HD8, unhide HI2, unhide HB8⟩
        case measure => simp [intOf]; omega
      · have hm4 : (Int.tmod (q : Int) 4 == 0) = false := by
          rw [Int.tmod_eq_emod_of_nonneg hqi]; simp; omega
        clear hm
        go_wp2_with fail
        refine wp_region_held_drew (S := (fun wx => XAt wx b (off + q * 7) ⟨xk, xn, xp, ⟨ck, ca, cb, ct⟩⟩ ∧ wx.cell? ⟨w4.heap.size, 0, none⟩ = some (.pointer (some ⟨W, 0, none⟩)) ∧ wx.cell? ⟨(w4.heap.size + 1), 0, none⟩ = some (.pointer (some ⟨w3.heap.size, 0, none⟩)))) (by kernel_rfl) (⟨(unhide HXR).same rfl, (unhide HDD).c1, (unhide HDD).c2⟩) (fun hHeld => ?_)
        refine tkH ?_ opn0 (fun _ _ _ h => h) hHeld ?_ ?_
        rotate_left 1
        · intro wz hSw; (try dsimp only at hSw)
          have hq := hSw.2.1
          go_simp; all_goals with_reducible rfl
        try simp only [pS]
        refine tkH ?_ opn1 (fun _ _ _ h => h) hHeld ?_ ?_
        rotate_left 1
        · intro wz hSw; (try dsimp only at hSw); go_simp; all_goals with_reducible rfl
        try simp only [pS]
        refine tkH ?_ opn2 (fun _ _ _ h => h) hHeld ?_ ?_
        rotate_left 1
        · intro wz hSw; (try dsimp only at hSw); go_simp; all_goals with_reducible rfl
        try simp only [pS]
        refine tkH ?_ opn3 (fun _ _ _ h => h) hHeld ?_ ?_
        rotate_left 1
        · intro wz hSw; (try dsimp only at hSw); go_simp; all_goals with_reducible rfl
        try simp only [pS]
        refine tkH ?_ opn4 (fun _ _ _ h => h) hHeld ?_ ?_
        rotate_left 1
        · intro wz hSw; (try dsimp only at hSw)
          obtain ⟨g0, g1, g2, g3, g4, g5, g6⟩ := hSw.1
          go_simp; all_goals with_reducible rfl
        try simp only [pS]
        refine tkH ?_ opn6 (fun _ _ _ h => h) hHeld ?_ ?_
        rotate_left 1
        · intro wz hSw; (try dsimp only at hSw)
          have hq := hSw.2.2
          go_simp; all_goals with_reducible rfl
        try simp only [pS]
        refine tkH ?_ opn7 (fun _ _ _ h => h) hHeld ?_ ?_
        rotate_left 1
        · intro wz hSw; (try dsimp only at hSw); go_simp; all_goals with_reducible rfl
        try simp only [pS]
        refine tkH ?_ opn8 (fun _ _ _ h => h) hHeld ?_ ?_
        rotate_left 1
        · intro wz hSw; (try dsimp only at hSw); go_simp; all_goals with_reducible rfl
        try simp only [pS]
        refine tkH ?_ opn9 (fun _ _ _ h => h) hHeld ?_ ?_
        rotate_left 1
        · intro wz hSw; (try dsimp only at hSw); go_simp; all_goals with_reducible rfl
        try simp only [pS]
        refine tkH ?_ opn10 (fun _ _ _ h => h) hHeld ?_ ?_
        rotate_left 1
        · intro wz hSw; (try dsimp only at hSw)
          obtain ⟨g0, g1, g2, g3, g4, g5, g6⟩ := hSw.1
          go_simp; all_goals with_reducible rfl
        try simp only [pS]
        refine wpAnyH_ready (rs := [5]) (by kernel_rfl) (by simp) ?_
        refine AllReadyH.cons opn5 (fun K hK => ?_) AllReadyH.nil
        rw [if_pos (by kernel_rfl)]
        go_simp
        refine (unhide HST).mono ?_
        rintro e w6 ⟨rfl, hT⟩
        have hb6 := hT.below
        obtain ⟨o6, hd6⟩ := (unhide HDD).one hT
        have hx6 : XAt w6 b (off + q * 7) ⟨xk, xn, xp, ⟨ck, ca, cb, ct⟩⟩ := (unhide HXR).same (hb6.block b hbl)
        have HD6 := hide hd6
        have HX6 := hide hx6
        have HB6 := hide ((unhide HB).drew.trans hb6)
        have HSH := hide ((unhide HSTX) _ _ hd6.r2)
        clear hT hb6
        refine hK.out _ _ ⟨hx6, hd6.c1, hd6.c2⟩ (fun hHeldN => ?_)
        clear hHeld hK K; have hHeld := hHeldN; clear hHeldN
        try simp only [pS]
        clear hd6 hx6
        refine wpAnyH_ready (rs := [11]) (by kernel_rfl) (by simp) ?_
        refine AllReadyH.cons opn11 (fun K hK => ?_) AllReadyH.nil
        rw [if_pos (by kernel_rfl)]
        go_simp
        refine (unhide HSH).mono ?_
        rintro e w7 ⟨rfl, hT⟩
        have hb7 := hT.below
        obtain ⟨o7, hd7⟩ := (unhide HD6).two hT
        have hx7 : XAt w7 b (off + q * 7) ⟨xk, xn, xp, ⟨ck, ca, cb, ct⟩⟩ := (unhide HX6).same (hb7.block b hbl)
        have HD7 := hide hd7
        have HX7 := hide hx7
        have HB7 := hide ((unhide HB6).trans hb7)
        clear hT hb7
        refine hK.out _ _ ⟨hx7, hd7.c1, hd7.c2⟩ (fun hHeldN => ?_)
        clear hHeld hK K; have hHeld := hHeldN; clear hHeldN
        try simp only [pS]
        clear hd7 hx7
        refine tkH (.bool false) opn12 (fun _ _ _ h => h) hHeld ?_ ?_
        · intro wz hSw; (try dsimp only at hSw); go_simp; all_goals with_reducible rfl
        try simp only [pS]
        refine tkH (.bool false) opn13 (fun _ _ _ h => h) hHeld ?_ ?_
        · intro wz hSw; (try dsimp only at hSw); go_simp; all_goals with_reducible rfl
        try simp only [pS]
        refine tkH ?_ opn14 (fun _ _ _ h => h) hHeld ?_ ?_
        rotate_left 1
        · intro wz hSw; (try dsimp only at hSw); go_simp; all_goals with_reducible rfl
        try simp only [pS]
        refine tkH ?_ opn15 (fun _ _ _ h => h) hHeld ?_ ?_
        rotate_left 1
        · intro wz hSw; (try dsimp only at hSw); go_simp; all_goals with_reducible rfl
        try simp only [pS]
        refine tkH (.bool false) opn16 (fun _ _ _ h => h) hHeld ?_ ?_
        · intro wz hSw; (try dsimp only at hSw); go_simp; all_goals with_reducible rfl
        try simp only [pS]
        refine tkH (.bool false) opn17 (fun _ _ _ h => h) hHeld ?_ ?_
        · intro wz hSw; (try dsimp only at hSw); go_simp; all_goals with_reducible rfl
        try simp only [pS]
        refine wpAnyH_take (i := 18) (v := undef) opn18 (by kernel_rfl) (by kernel_rfl) (by kernel_rfl) (fun _ _ _ h => h) (Or.inr ⟨by kernel_rfl, rfl⟩) (by assumption) ?_
        try simp only [pS]
        refine wpAnyH_take (i := 19) (v := undef) opn19 (by kernel_rfl) (by kernel_rfl) (by kernel_rfl) (fun _ _ _ h => h) (Or.inr ⟨by kernel_rfl, rfl⟩) (by assumption) ?_
        try simp only [pS]
        refine wpAnyH_take (i := 20) (v := undef) opn20 (by kernel_rfl) (by kernel_rfl) (by kernel_rfl) (fun _ _ _ h => h) (Or.inr ⟨by kernel_rfl, rfl⟩) (by assumption) ?_
        try simp only [pS]
        have HD8 := HD7
        have HB8 := HB7
        refine tkH (.bool false) opn21 (fun _ _ _ h => h) hHeld ?_ ?_
        · intro wz hSw; (try dsimp only at hSw); go_simp; all_goals with_reducible rfl
        try simp only [pS]
        refine tkH (.bool false) opn22 (fun _ _ _ h => h) hHeld ?_ ?_
        · intro wz hSw; (try dsimp only at hSw); go_simp; all_goals with_reducible rfl
        try simp only [pS]
        refine wpAnyH_done (by kernel_rfl) ?_ _
        clear hHeld
        go_wp2
        go_roundw
        case rel => exact ⟨q + 1, _, _, A2, by omega, by go_num, unhide HD8, unhide HI2, unhide HB8⟩
        case measure => simp [intOf]; omega
    · have HHC := hide (hcalm_all (unhide HI).1 (by have := (unhide HI).2; omega))
      go_wp2_with fail
      refine wp_region_held_drew (S := (fun wx => wx.cell? ⟨w4.heap.size, 0, none⟩ = some (.pointer (some ⟨W, 0, none⟩)) ∧ wx.cell? ⟨(w4.heap.size + 1), 0, none⟩ = some (.pointer (some ⟨w3.heap.size, 0, none⟩)))) (by kernel_rfl) (⟨(unhide HD).c1, (unhide HD).c2⟩) (fun hHeld => ?_)
      refine tkH ?_ opn0 (fun _ _ _ h => h) hHeld ?_ ?_
      rotate_left 1
      · intro wz hSw; (try dsimp only at hSw); go_simp; all_goals with_reducible rfl
      try simp only [pS]
      refine wpAnyH_ready (rs := [1]) (by kernel_rfl) (by simp) ?_
      refine AllReadyH.cons opn1 (fun K hK => ?_) AllReadyH.nil
      rw [if_pos (by kernel_rfl)]
      go_simp
      refine (same_any (unhide HDD).r1 (unhide HDD).r2 (unhide HDD).c1 (unhide HDD).c2).mono ?_
      rintro e w5 ⟨rfl, b5⟩
      have hd5 := (unhide HDD).below b5
      have HD5 := hide hd5
      have HB5 := hide ((unhide HB).drew.trans (b5.mono (unhide HB).drew.size))
      have HCA := hide (Calm_any hd5.r1)
      refine hK.out _ _ ⟨hd5.c1, hd5.c2⟩ (fun hHeldN => ?_)
      clear hHeld hK K; have hHeld := hHeldN; clear hHeldN
      try simp only [pS]
      clear hd5 b5
      refine tkH (.bool true) opn2 (fun _ _ _ h => h) hHeld ?_ ?_
      · intro wz hSw; (try dsimp only at hSw); go_simp; all_goals with_reducible rfl
      try simp only [pS]
      refine tkH ?_ opn3 (fun _ _ _ h => h) hHeld ?_ ?_
      rotate_left 1
      · intro wz hSw; (try dsimp only at hSw)
        have hq := hSw.1
        go_simp; all_goals with_reducible rfl
      try simp only [pS]
      refine tkH ?_ opn5 (fun _ _ _ h => h) hHeld ?_ ?_
      rotate_left 1
      · intro wz hSw; (try dsimp only at hSw)
        have hq := hSw.2
        go_simp; all_goals with_reducible rfl
      try simp only [pS]
      refine wpAnyH_ready (rs := [4]) (by kernel_rfl) (by simp) ?_
      refine AllReadyH.cons opn4 (fun K hK => ?_) AllReadyH.nil
      rw [if_pos (by kernel_rfl)]
      go_simp
      refine (unhide HCA).mono ?_
      rintro e w6 ⟨rfl, hT⟩
      have hb6 := hT.below
      obtain ⟨o6, hd6⟩ := (unhide HD5).one hT
      have HD6 := hide hd6
      have HB6 := hide ((unhide HB5).trans hb6)
      have hch := HCalm_any hd6.r2
      rw [unhide HHC] at hch
      have HCH := hide hch
      clear hT hb6 hch
      refine hK.out _ _ ⟨hd6.c1, hd6.c2⟩ (fun hHeldN => ?_)
      clear hHeld hK K; have hHeld := hHeldN; clear hHeldN
      try simp only [pS]
      clear hd6
      refine wpAnyH_ready (rs := [6]) (by kernel_rfl) (by simp) ?_
      refine AllReadyH.cons opn6 (fun K hK => ?_) AllReadyH.nil
      rw [if_pos (by kernel_rfl)]
      go_simp
      refine (unhide HCH).mono ?_
      rintro e w7 ⟨rfl, hT⟩
      have hb7 := hT.below
      obtain ⟨o7, hd7⟩ := (unhide HD6).two hT
      have HD7 := hide hd7
      have HB7 := hide ((unhide HB6).trans hb7)
      clear hT hb7
      refine hK.out _ _ ⟨hd7.c1, hd7.c2⟩ (fun hHeldN => ?_)
      clear hHeld hK K; have hHeld := hHeldN; clear hHeldN
      try simp only [pS]
      clear hd7
      refine tkH (.bool true) opn7 (fun _ _ _ h => h) hHeld ?_ ?_
      · intro wz hSw; (try dsimp only at hSw); go_simp; all_goals with_reducible rfl
      try simp only [pS]
      refine tkH (.bool true) opn8 (fun _ _ _ h => h) hHeld ?_ ?_
      · intro wz hSw; (try dsimp only at hSw); go_simp; all_goals with_reducible rfl
      try simp only [pS]
      refine tkH (.bool true) opn9 (fun _ _ _ h => h) hHeld ?_ ?_
      · intro wz hSw; (try dsimp only at hSw); go_simp; all_goals with_reducible rfl
      try simp only [pS]
      refine tkH ?_ opn10 (fun _ _ _ h => h) hHeld ?_ ?_
      rotate_left 1
      · intro wz hSw; (try dsimp only at hSw); go_simp; all_goals with_reducible rfl
      try simp only [pS]
      refine wpAnyH_ready (rs := [11]) (by kernel_rfl) (by simp) ?_
      refine AllReadyH.cons opn11 (fun K hK => ?_) AllReadyH.nil
      rw [if_pos (by kernel_rfl)]
      go_simp
      refine (same_any (unhide HD7).r1 (unhide HD7).r2 (unhide HD7).c1 (unhide HD7).c2).mono ?_
      rintro e w8 ⟨rfl, b8⟩
      have hd8 := (unhide HD7).below b8
      have HB8 := hide ((unhide HB7).trans (b8.mono (unhide HB7).size))
      refine hK.out _ _ ⟨hd8.c1, hd8.c2⟩ (fun hHeldN => ?_)
      clear hHeld hK K; have hHeld := hHeldN; clear hHeldN
      try simp only [pS]
      clear hd8 b8
      refine tkH (.bool true) opn12 (fun _ _ _ h => h) hHeld ?_ ?_
      · intro wz hSw; (try dsimp only at hSw); go_simp; all_goals with_reducible rfl
      try simp only [pS]
      refine tkH (.bool true) opn13 (fun _ _ _ h => h) hHeld ?_ ?_
      · intro wz hSw; (try dsimp only at hSw); go_simp; all_goals with_reducible rfl
      try simp only [pS]
      refine wpAnyH_done (by kernel_rfl) ?_ _
      clear hHeld
      have HBE := hide ((unhide HB2).trans ((unhide HB8).mono hz2))
      go_wp2
      go_ret
      exact ⟨rfl, unhide HBE⟩
end Go.Proofs.YtmbhbnoifimeaabGreat
namespace Go.Proofs.YtmbhbnoifimeaabGreat
open Go.ChangeShapes Go.WideShapes Go.ChangeAt Go.RowKit Go.Deep Go.Joins
set_option linter.unusedSimpArgs false
set_option linter.unusedVariables false
theorem reach48 {s : ByteArray} (h : s.data.toList.length ≤ reachBytes) : s.size ≤ 281474976710656 := by
  have h1 : s.size = s.data.toList.length := by show s.data.size = _; rw [Array.length_toList]
  unfold reachBytes at h
  omega
section
variable {H : Type} {enc : TypeId × Value → H} {w : World} {base : Nat} {spare : Nat → Bool} {held : Bool}
theorem trodS4 {P : Program} {t : TypeId} {f0 f1 f2 f3 : Field} {fuel : Nat} {cs : List Value} {x : DataW H × List MemPlace} (ht : P.underlying t = some (.struct #[f0, f1, f2, f3])) (h : DataW.trod enc P w base spare held fuel t cs = some x) :
    ∃ y0 y1 y2 y3 n, x.1 = .agg [y0.1, y1.1, y2.1, y3.1] ∧ cs.length = P.cellsOf t ∧ DataW.trod enc P w base spare held n f0.type ((cs.drop f0.offset).take (P.cellsOf f0.type)) = some y0 ∧ DataW.trod enc P w base spare held n f1.type ((cs.drop f1.offset).take (P.cellsOf f1.type)) = some y1 ∧ DataW.trod enc P w base spare held n f2.type ((cs.drop f2.offset).take (P.cellsOf f2.type)) = some y2 ∧ DataW.trod enc P w base spare held n f3.type ((cs.drop f3.offset).take (P.cellsOf f3.type)) = some y3 := by
  obtain ⟨xs, n, _, rfl, hl, hlen, hf⟩ := DataW.trod_struct ht h
  match xs, hlen with
  | [y0, y1, y2, y3], _ => exact ⟨y0, y1, y2, y3, n, rfl, hl, by simpa using hf 0 f0 rfl, by simpa using hf 1 f1 rfl, by simpa using hf 2 f2 rfl, by simpa using hf 3 f3 rfl⟩
set_option maxRecDepth 100000 in
theorem open_callW {fuel : Nat} {cs : List Value} {x : DataW H × List MemPlace} (h : DataW.trod enc Tryz.prog w base spare held fuel 32 cs = some x) (hw : ∀ n ∈ x.1.weights Tryz.prog 32, n ≤ reachBytes) :
    ∃ c : ACall, cs = [.int .i64 c.kind, .string c.name, .string c.dst, .string c.text] ∧ c.name.size ≤ 281474976710656 ∧ c.dst.size ≤ 281474976710656 ∧ c.text.size ≤ 281474976710656 := by
  obtain ⟨y0, y1, y2, y3, n, hx, hl, h0, h1, h2, h3⟩ := trodS4 Tryz.underlying32 h
  rw [cells32] at hl
  obtain ⟨c0, c1, c2, c3, hcs⟩ := array4 (cs := cs.toArray) (by simpa using hl)
  have hcs : cs = [c0, c1, c2, c3] := by simpa using congrArg Array.toList hcs
  subst hcs
  simp only [cells3, cells9, List.drop, List.take] at h0 h1 h2 h3
  obtain ⟨k, e0, f0, wk⟩ := DataW.trod_int Tryz.underlying3 h0
  obtain ⟨a, e1, f1, wa⟩ := DataW.trod_string Tryz.underlying9 h1
  obtain ⟨b, e2, f2, wb⟩ := DataW.trod_string Tryz.underlying9 h2
  obtain ⟨t, e3, f3, wt⟩ := DataW.trod_string Tryz.underlying9 h3
  simp at e0 e1 e2 e3
  rw [hx] at hw
  subst e0 e1 e2 e3 f0 f1 f2 f3
  simp only [DataW.weights, Tryz.underlying32, List.map, DataW.weightsEach, List.nil_append, List.append_nil, List.mem_append, List.mem_singleton] at hw
  exact ⟨⟨k, a, b, t⟩, rfl, reach48 (hw _ (by simp)), reach48 (hw _ (by simp)), reach48 (hw _ (by simp))⟩
theorem mem_weightsAll {e : TypeId} : ∀ {l : List (DataW H)} {d : DataW H}, d ∈ l → ∀ n ∈ d.weights Tryz.prog e, n ∈ DataW.weightsAll Tryz.prog e l
  | x :: l, d, hd, n, hn => by
    simp only [DataW.weightsAll, List.mem_append]
    rcases List.mem_cons.1 hd with rfl | h
    · exact .inl hn
    · exact .inr (mem_weightsAll h n hn)
end
end Go.Proofs.YtmbhbnoifimeaabGreat
