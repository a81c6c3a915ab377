/- StoreTears holds: for all lists of steps and every step the statement postilionlaw.StoreTears returns true, and its arguments read behind it as they read before. No condition. -/
import Derived.Test.YtlndphpidkacgaaJ6
namespace Go.Proofs.Ytlndphpidkacgaa
open Go.RowKit
set_option linter.unusedSimpArgs false
set_option linter.unusedVariables false

set_option maxRecDepth 100000 in
set_option maxHeartbeats 8000000 in
theorem tears_walk (a0 : Option Addr) (n0 c0 : Nat) (ls : List AStep) (x : AStep) (w : World) (hl : StepsAt w a0 n0 ls) (hx1 : x.call.name.size ≤ maxLen) (hx2 : x.call.dst.size ≤ maxLen) (hx3 : x.call.text.size ≤ maxLen) :
    Calls Try.prog 13 #[.slice a0 n0 c0, x.val] w fun e w' => e = .returned (.bool true) ∧ Below w.heap.size w w' := by
  have hB0 : Below w.heap.size w (w.alloc (.cells (xcells x).toArray 81)) := (Below.refl _ _).alloc (Nat.le_refl _) _
  have hX0 : (w.alloc (.cells (xcells x).toArray 81)).heap[w.heap.size]? = some (.cells (xcells x).toArray 81 (0, 0)) := heap_alloc_new w _
  have HBG := hide storeBegun_any
  have HG0 := hide (fun W (h : Below w.heap.size w W) => greatStore_any a0 n0 c0 ls W (hl.below h))
  have HGC := hide (fun W => greatCall_any x.call.kind x.call.name x.call.dst x.call.text W)
  have HNW := hide (fun W => SNew_any W)
  have HL := hide hl
  have HB0 := hide hB0
  have HX0 := hide hX0
  have hn0 := hl.2.1
  unfold maxLen at hn0
  have HSZ := hide (And.intro hx1 (And.intro hx2 hx3))
  clear hB0 hX0 hl hx1 hx2 hx3
  obtain ⟨xa, xc, xn, xp, ⟨xk, xs1, xs2, xs3⟩⟩ := x
  dsimp only [AStep.val, xcells] at *
  go_enter Try.func13, Try.ntmps13
  go_wp2_with fail
  refine ((unhide HBG) _).mono ?_
  rintro e w1 ⟨rfl, b1⟩
  have HX1 := hide ((b1.block w.heap.size (by simp)).trans (unhide HX0))
  have HB1 := hide ((unhide HB0).trans (b1.mono (unhide HB0).size))
  have hz1 : w.heap.size < w1.heap.size := (Array.getElem?_eq_some_iff.1 (unhide HX1)).1
  clear b1
  go_wp2_with fail
  refine ((unhide HG0) _ (unhide HB1)).mono ?_
  rintro e w2 ⟨⟨r2, rfl⟩, b2⟩
  have HX2 := hide ((b2.block w.heap.size hz1).trans (unhide HX1))
  have HB2 := hide ((unhide HB1).trans (b2.mono (unhide HB1).size))
  have hz2 : w.heap.size < w2.heap.size := (Array.getElem?_eq_some_iff.1 (unhide HX2)).1
  clear b2
  cases r2
  case true =>
    go_wp2
    go_ret
    exact ⟨rfl, unhide HB2⟩
  obtain ⟨⟨x0, x1, x2, x3⟩, ⟨x4, x5, x6, x7⟩, _⟩ := eight (unhide HX2)
  go_wp2_with fail
  refine ((unhide HGC) _).mono ?_
  rintro e w5 ⟨⟨r4, rfl⟩, b4⟩
  clear x0 x1 x2 x3 x4 x5 x6 x7
  have HX4 := hide ((b4.block w.heap.size hz2).trans (unhide HX2))
  have HB4 := hide ((unhide HB2).trans (b4.mono (unhide HB2).size))
  have hz4 : w.heap.size < w5.heap.size := (Array.getElem?_eq_some_iff.1 (unhide HX4)).1
  clear b4
  cases r4
  case true =>
    go_wp2
    go_ret
    exact ⟨rfl, unhide HB4⟩
  go_wp2_with fail
  refine ((unhide HNW) _).mono ?_
  rintro e w6 ⟨S, B6, own6, lv6, rfl, hs6, b6⟩
  have hp := Pair.start hs6 b6.size
  have HP6 := hide hp
  have HB6 : Hid (Below w5.heap.size w5 (w6.alloc (.cells #[.slice none 0 0] 78))) := b6.alloc b6.size _
  clear hs6 b6 hp
  obtain ⟨V6, hV6⟩ : ∃ V, V = w6.alloc (.cells #[.slice none 0 0] 78) := ⟨_, rfl⟩
  have HV6 := hide hV6
  have hz6 : w5.heap.size ≤ V6.heap.size := by rw [hV6]; exact (unhide HB6).size
  rw [← hV6] at HP6 HB6
  clear hV6
  go_wp2_with fail
  rw [← unhide HV6]
  refine ((unhide HNW) _).mono ?_
  rintro e w8 ⟨S2, B8, own8, lv8, rfl, hs8, b8⟩
  have hp8 := Pair.start hs8 b8.size
  have hb8 : Below V6.heap.size V6 (w8.alloc (.cells #[.slice none 0 0] 78)) := b8.alloc b8.size _
  have HT8 : Hid (Two2 w5.heap.size V6.heap.size (w8.alloc (.cells #[.slice none 0 0] 78)) S B6 own6 lv6 w6.heap.size (.slice none 0 0) S2 B8 own8 lv8 w8.heap.size (.slice none 0 0) []) :=
    ⟨(unhide HP6).below hb8, hp8, fun k h1 h2 => by have := (pown_ge hp8 k h1).1; have := (pown_ge (unhide HP6) k h2).2; omega⟩
  have HB8 : Hid (Below w5.heap.size w5 (w8.alloc (.cells #[.slice none 0 0] 78))) := (unhide HB6).trans (hb8.mono hz6)
  obtain ⟨N2, hN2⟩ : ∃ N, N = V6.heap.size := ⟨_, rfl⟩
  rw [← hN2] at HT8 hz6
  clear hs8 b8 hp8 hb8 hN2 HP6 HB6
  go_wp2_with fail
  go_loopw [9] (fun i wr => ∃ (q B : Nat) (own : List Nat) (lv rv : Value) (B2 : Nat) (own2 : List Nat) (lv2 rv2 : Value) (L : List ARec), q ≤ n0 ∧ i = .int .i64 (q : Int) ∧ Hid (Two2 w5.heap.size N2 wr S B own lv w6.heap.size rv S2 B2 own2 lv2 w8.heap.size rv2 L) ∧ Hid (Below w5.heap.size w5 wr) ∧ N2 ≤ wr.heap.size) (fun i _ => n0 - (intOf i).toNat)
  case atStart => exact ⟨0, B6, own6, lv6, _, B8, own8, lv8, _, [], Nat.zero_le _, rfl, unhide HT8, unhide HB8, Nat.le_trans (Nat.le_of_lt (Nat.lt_of_le_of_lt (unhide HT8).p2.s.new (unhide HT8).p2.s.lt)) (Nat.le_refl _)⟩
  case round =>
    obtain ⟨q, B, own, lv, rv, B2, own2, lv2, rv2, L, hq, rfl, HP, HB, hN2⟩ := hrel
    have HBw := hide ((unhide HB4).trans ((unhide HB).mono (unhide HB4).size))
    by_cases hlt : (q : Int) < (n0 : Int)
    · obtain ⟨y, hy⟩ : ∃ y, ls[q]? = some y := ⟨_, List.getElem?_eq_getElem (by rw [(unhide HL).1]; omega)⟩
      obtain ⟨b, off, rfl, hc⟩ := ((unhide HL).below (unhide HBw)).2.2.2 (by omega)
      have hgs := hc q y hy
      obtain ⟨g0, g1, g2, g3, g4, g5, g6, g7⟩ := hc q y hy
      have hsz := (unhide HL).2.2.1 y (List.mem_of_getElem? hy)
      have HST := hide (storeStep_any (unhide HP).p1 y (unhide HB).size hsz.1 hsz.2.1 hsz.2.2)
      have HST2 := hide (fun W B2 own2 lv2 rv2 (h : Pair N2 W S2 B2 own2 lv2 L w8.heap.size rv2 L) (hN : N2 ≤ W.heap.size) => storeStep_any h y hN hsz.1 hsz.2.1 hsz.2.2)
      have hbl : b < w5.heap.size := by
        have h1 := (unhide HL).2.2.2 (by omega)
        obtain ⟨b', off', he, hc'⟩ := h1
        have : b = b' := by simpa using congrArg (fun a => (a.getD ⟨0, 0, none⟩).block) he
        have h2 := (hc' q y hy).lt
        omega
      have HGS := hide hgs
      generalize aStep L y = L2 at HST HST2
      clear hc hy hsz hgs
      obtain ⟨ya, yc, yn, yp, ⟨yk, ys1, ys2, ys3⟩⟩ := y
      dsimp only [AStep.val] at *
      go_wp2_with fail
      refine (unhide HST).mono ?_
      rintro e w7 ⟨⟨v, rfl, _⟩, B7, own7, lv7, rv7, hp7, hn7⟩
      clear g0 g1 g2 g3 g4 g5 g6 g7
      have hp2 := (unhide HP).p2.kept hn7.kept (unhide HP).dj
      have hd2 : ∀ k, k ∈ pown S2 own2 lv2 w8.heap.size rv2 → k ∉ pown S own7 lv7 w6.heap.size rv7 := fun k h1 => (hn7.keep k (pown_ge (unhide HP).p2 k h1).2 ((unhide HP).dj k h1)).1
      have hN7 : N2 ≤ w7.heap.size := Nat.le_trans hN2 hn7.below.size
      have HB7 := hide ((unhide HB).trans hn7.below)
      have HP7 := hide hp7
      have HQ7 := hide hp2
      have HD7 := hide hd2
      obtain ⟨g0, g1, g2, g3, g4, g5, g6, g7⟩ := (unhide HGS).same ((hn7.below.block b hbl))
      clear hp7 hn7 hp2 hd2
      dsimp only at g0 g1 g2 g3 g4 g5 g6 g7
      go_wp2_with fail
      refine ((unhide HST2) _ _ _ _ _ (unhide HQ7) hN7).mono ?_
      rintro e w10 ⟨⟨v2, rfl, _⟩, B10, own10, lv10, rv10, hp10, hn10⟩
      clear g0 g1 g2 g3 g4 g5 g6 g7
      have hd1 : ∀ k, k ∈ pown S own7 lv7 w6.heap.size rv7 → k ∉ pown S2 own2 lv2 w8.heap.size rv2 := fun k h1 h2 => (unhide HD7) k h2 h1
      have hp1 := (unhide HP7).kept hn10.kept hd1
      have hd3 : ∀ k, k ∈ pown S2 own10 lv10 w8.heap.size rv10 → k ∉ pown S own7 lv7 w6.heap.size rv7 := fun k h1 h2 => (hn10.keep k (pown_ge (unhide HP7) k h2).2 (hd1 k h2)).1 h1
      have HP10 : Hid (Two2 w5.heap.size N2 w10 S B7 own7 lv7 w6.heap.size rv7 S2 B10 own10 lv10 w8.heap.size rv10 L2) := ⟨hp1, hp10, hd3⟩
      have HB10 := hide ((unhide HB7).trans (hn10.below.mono hz6))
      have hN10 : N2 ≤ w10.heap.size := Nat.le_trans hN7 hn10.below.size
      clear hp10 hn10 hp1 hd1 hd3
      go_wp2
      go_roundw
      case rel => exact ⟨q + 1, B7, own7, lv7, rv7, B10, own10, lv10, rv10, L2, by omega, by go_num, unhide HP10, unhide HB10, hN10⟩
      case measure => simp [intOf]; omega
    · have hss := (unhide HP).p1.ss
      have HW := hide (unhide HP).two
      obtain ⟨T, hT⟩ : ∃ T, (logB L).length = T := ⟨_, rfl⟩
      have HTT := hide hT
      obtain ⟨sW, hsW⟩ : ∃ s : ByteArray, s = ⟨(logB L).toArray⟩ := ⟨_, rfl⟩
      have HSW := hide hsW
      have hgood := hide (unhide HP).p1.s.good
      clear hT hsW
      go_wp2_with fail
      refine (Log_T (unhide HW).s1 hss (unhide HTT)).mono ?_
      rintro e w11 ⟨la, lc, rfl, ol, b11⟩
      have hcv : (convert 48 9 (.slice la T lc)).run Try.prog w11 = .ok (.string sW) w11 := by rw [unhide HSW]; exact conv_row ol (unhide HTT)
      have HW11 := hide ((unhide HW).below b11)
      have HB11 := hide ((unhide HB).trans (b11.mono (unhide HB).size))
      have hz11 : w5.heap.size ≤ w11.heap.size := (unhide HB11).size
      have hN11 : N2 ≤ w11.heap.size := Nat.le_trans hN2 b11.size
      obtain ⟨⟨x0, x1, x2, x3⟩, ⟨x4, x5, x6, x7⟩, _⟩ := eight (((unhide HB11).block w.heap.size hz4).trans (unhide HX4))
      have htl := aTear_log L xc xn ⟨xk, xs1, xs2, xs3⟩ xp
      have hter := aTear_err L xc xn ⟨xk, xs1, xs2, xs3⟩ xp
      have htw := fun h0 => tears_again (keep := xp) (unhide hgood) (client := xc) (no := xn) (c := ⟨xk, xs1, xs2, xs3⟩) h0
      have hte := fun h0 => tears_err (keep := xp) (L := L) (client := xc) (no := xn) (c := ⟨xk, xs1, xs2, xs3⟩) h0
      have hts := aTear_short (unhide hgood) hss xc xn ⟨xk, xs1, xs2, xs3⟩ xp
      have hcsh := aCall_short (unhide hgood) hss xc xn ⟨xk, xs1, xs2, xs3⟩
      have hcs1 := STear_any (unhide HW11).s1 xc xn xp ⟨xk, xs1, xs2, xs3⟩ hss hz11 (unhide HSZ).1 (unhide HSZ).2.1 (unhide HSZ).2.2
      obtain ⟨R1, hR1⟩ : ∃ R, aTear L xc xn ⟨xk, xs1, xs2, xs3⟩ xp = R := ⟨_, rfl⟩
      rw [hR1] at htl hter htw hte hts hcs1
      have hcs2 := fun W B own lv (h : SRep N2 W S2 B own lv L) (hN : N2 ≤ W.heap.size) => SCall_any h xc xn ⟨xk, xs1, xs2, xs3⟩ (by omega) hN (unhide HSZ).1 (unhide HSZ).2.1 (unhide HSZ).2.2
      obtain ⟨R2, hR2⟩ : ∃ R, aCall L xc xn ⟨xk, xs1, xs2, xs3⟩ = R := ⟨_, rfl⟩
      rw [hR2] at htl hter htw hte hcs2 hcsh
      obtain ⟨ee, L1⟩ := R1
      obtain ⟨rcode, rtext, rerr, rlog⟩ := R2
      dsimp only at htl hter htw hte hts hcs1 hcs2 hcsh
      subst hter
      have HTL := hide htl
      have HTW := hide htw
      have HTE := hide hte
      have HC1 := hide hcs1
      have HC2 := hide hcs2
      have hrs : (logB rlog).length ≤ 2000 := hcsh
      have hls : (logB L1).length ≤ 2000 := hts
      clear ol b11 htl htw hte hts hcsh hcs1 hcs2 hR1 hR2
      go_wp2_with fail
      refine (unhide HC1).mono ?_
      rintro e w12 ⟨rfl, hT1⟩
      obtain ⟨B12, own12, lv12, hw12, hn12⟩ := (unhide HW11).turn1 hT1
      clear x0 x1 x2 x3 x4 x5 x6 x7 hcv hT1
      have HW12 := hide hw12
      have HB12 := hide ((unhide HB11).trans hn12.below)
      have hN12 : N2 ≤ w12.heap.size := Nat.le_trans hN11 hn12.below.size
      obtain ⟨T1, hT1⟩ : ∃ T, (logB L1).length = T := ⟨_, rfl⟩
      have HT1 := hide hT1
      obtain ⟨sN, hsN⟩ : ∃ s : ByteArray, s = ⟨(logB L1).toArray⟩ := ⟨_, rfl⟩
      have HSN := hide hsN
      clear hw12 hn12 hT1 hsN
      go_wp2_with fail
      refine (Log_T (unhide HW12).s1 hls (unhide HT1)).mono ?_
      rintro e w13 ⟨la1, lc1, rfl, ol1, b13⟩
      have hcv1 : (convert 48 9 (.slice la1 T1 lc1)).run Try.prog w13 = .ok (.string sN) w13 := by rw [unhide HSN]; exact conv_row ol1 (unhide HT1)
      have HW13 := hide ((unhide HW12).below b13)
      have HB13 := hide ((unhide HB12).trans (b13.mono (unhide HB12).size))
      have hN13 : N2 ≤ w13.heap.size := Nat.le_trans hN12 b13.size
      obtain ⟨⟨x0, x1, x2, x3⟩, ⟨x4, x5, x6, x7⟩, _⟩ := eight (((unhide HB13).block w.heap.size hz4).trans (unhide HX4))
      have HC2' := hide ((unhide HC2) _ _ _ _ (unhide HW13).s2 hN13)
      clear ol1 b13
      go_wp2_with fail
      refine (unhide HC2').mono ?_
      rintro e wa ⟨rfl, hT2⟩
      obtain ⟨B15, own15, lv15, hw15, hn15⟩ := (unhide HW13).turn2 hT2
      clear x0 x1 x2 x3 x4 x5 x6 x7 hcv1 hT2 HC2'
      obtain ⟨Va, hVa⟩ : ∃ V, V = wa.alloc (.cells #[.int .i64 rcode, .string rtext] 34) := ⟨_, rfl⟩
      have hba : Below wa.heap.size wa Va := by rw [hVa]; exact (Below.refl _ _).alloc (Nat.le_refl _) _
      have HW15 := hide (hw15.below hba)
      have HBA := hide ((unhide HB13).trans (hn15.below.mono hz6))
      have HB15 := hide (((unhide HB13).trans (hn15.below.mono hz6)).trans (hba.mono (by have := ((unhide HB13).trans (hn15.below.mono hz6)).size; omega)))
      have HA15 : Hid (Va.heap[wa.heap.size]? = some (.cells #[.int .i64 rcode, .string rtext] 34 (0, 0))) := by rw [hVa]; exact heap_alloc_new _ _
      have hna1 : wa.heap.size ∉ sown S own12 lv12 := fun hm => by have := (sown_ge hw15.s1 _ hm).2; omega
      have HNA1 := hide hna1
      have hNa : N2 ≤ Va.heap.size := Nat.le_trans (Nat.le_trans hN13 hn15.below.size) hba.size
      have HVa := hide hVa
      clear hw15 hn15 hba hna1 hVa
      by_cases herr : ee = 0
      · subst herr
        have HTW0 := hide ((unhide HTW) rfl)
        have hzVa : w5.heap.size ≤ Va.heap.size := (unhide HB15).size
        have hXa := (((unhide HBA).block w.heap.size hz4).trans (unhide HX4))
        obtain ⟨⟨x0, x1, x2, x3⟩, ⟨x4, x5, x6, x7⟩, _⟩ := eight hXa
        have hzXa : w.heap.size < wa.heap.size := (Array.getElem?_eq_some_iff.1 hXa).1
        clear hXa
        obtain ⟨T2, hT2⟩ : ∃ T, (logB rlog).length = T := ⟨_, rfl⟩
        have HT2 := hide hT2
        obtain ⟨s2, hs2⟩ : ∃ s : ByteArray, s = ⟨(logB rlog).toArray⟩ := ⟨_, rfl⟩
        have HS2 := hide hs2
        obtain ⟨M2, hM2⟩ : ∃ M, (behind rlog).length = M := ⟨_, rfl⟩
        have HM2 := hide hM2
        have hM21000 := behind_few rlog hM2
        have e34 := fun W => eql34 rcode rcode rtext rtext W
        simp only [beq_self_eq_true, Bool.and_self] at e34
        have hcs3 := fun W B own lv (h : SRep w5.heap.size W S B own lv L1) (hN : w5.heap.size ≤ W.heap.size) => SCall_any h xc xn ⟨xk, xs1, xs2, xs3⟩ (by omega) hN (unhide HSZ).1 (unhide HSZ).2.1 (unhide HSZ).2.2
        rw [unhide HTW0] at hcs3
        dsimp only at hcs3
        have HC3 := hide hcs3
        clear hT2 hs2 hM2 hcs3
        by_cases hsame : sN = sW
        · subst hsame
          go_wp2_with fail
          rw [← unhide HVa]
          refine ((unhide HC3) _ _ _ _ (unhide HW15).s1 (unhide HB15).size).mono ?_
          rintro e wb ⟨rfl, hT3⟩
          obtain ⟨B16, own16, lv16, hw16, hn16⟩ := (unhide HW15).turn1 hT3
          clear x0 x1 x2 x3 x4 x5 x6 x7 hT3
          obtain ⟨V, hV⟩ : ∃ V, V = wb.alloc (.cells #[.int .i64 rcode, .string rtext] 34) := ⟨_, rfl⟩
          have hbb : Below wb.heap.size wb V := by rw [hV]; exact (Below.refl _ _).alloc (Nat.le_refl _) _
          have HW16 := hide (hw16.below hbb)
          have HBb := hide ((unhide HB15).trans hn16.below)
          have HBV := hide ((unhide HBb).trans (hbb.mono (unhide HBb).size))
          have hAb := (hn16.keep _ (Array.getElem?_eq_some_iff.1 (unhide HA15)).1 (unhide HNA1)).2.trans (unhide HA15)
          have hAV := (hbb.block _ (Array.getElem?_eq_some_iff.1 hAb).1).trans hAb
          have hBV : V.heap[wb.heap.size]? = some (.cells #[.int .i64 rcode, .string rtext] 34 (0, 0)) := by rw [hV]; exact heap_alloc_new _ _
          obtain ⟨⟨u0, u1⟩, _⟩ := two hAV
          obtain ⟨⟨v0, v1⟩, _⟩ := two hBV
          have HV := hide hV
          clear hw16 hn16 hbb hAb hAV hBV hV
          go_wp2_with fail
          rw [← unhide HV]
          refine wp_region_held_drew (S := (fun wx => (TwoS w5.heap.size N2 wx S B16 own16 lv16 rlog S2 B15 own15 lv15 rlog ∧ Below w5.heap.size w5 wx ∧ (wx.cell? ⟨wa.heap.size, 0, none⟩ = some (.int .i64 rcode) ∧ wx.cell? ⟨wa.heap.size, 1, none⟩ = some (.string rtext) ∧ wx.cell? ⟨wb.heap.size, 0, none⟩ = some (.int .i64 rcode) ∧ wx.cell? ⟨wb.heap.size, 1, none⟩ = some (.string rtext))))) (by kernel_rfl) ⟨(unhide HW16).below (below_dr V), (unhide HBV).trans ((below_dr V).mono (unhide HBV).size), u0, u1, v0, v1⟩ (fun hHeld => ?_)
          clear u0 u1 v0 v1
          refine wpAnyH_take (i := 0) (v := ?_) opn0 (by kernel_rfl) (by kernel_rfl) (by kernel_rfl) (fun _ _ _ h => h) (Or.inl ⟨by rfl, ?_⟩) (by assumption) ?_
          rotate_left 1
          · intro wz hSw
            try dsimp only at hSw
            go_simp
            all_goals with_reducible rfl
          try simp only [Act.put, List.setIfInBounds_toArray, List.set_cons_zero, List.set_cons_succ]
          refine wpAnyH_take (i := 1) (v := ?_) opn1 (by kernel_rfl) (by kernel_rfl) (by kernel_rfl) (fun _ _ _ h => h) (Or.inl ⟨by rfl, ?_⟩) (by assumption) ?_
          rotate_left 1
          · intro wz hSw
            try dsimp only at hSw
            go_simp
            all_goals with_reducible rfl
          try simp only [Act.put, List.setIfInBounds_toArray, List.set_cons_zero, List.set_cons_succ]
          refine wpAnyH_take (i := 2) (v := ?_) opn2 (by kernel_rfl) (by kernel_rfl) (by kernel_rfl) (fun _ _ _ h => h) (Or.inl ⟨by rfl, ?_⟩) (by assumption) ?_
          rotate_left 1
          · intro wz hSw
            try dsimp only at hSw
            go_simp
            all_goals with_reducible rfl
          try simp only [Act.put, List.setIfInBounds_toArray, List.set_cons_zero, List.set_cons_succ]
          refine wpAnyH_take (i := 3) (v := ?_) opn3 (by kernel_rfl) (by kernel_rfl) (by kernel_rfl) (fun _ _ _ h => h) (Or.inl ⟨by rfl, ?_⟩) (by assumption) ?_
          rotate_left 1
          · intro wz hSw
            try dsimp only at hSw
            have hq := hSw.2.2.1
            have hq2 := hSw.2.2.2.1
            go_simp
            all_goals with_reducible rfl
          try simp only [Act.put, List.setIfInBounds_toArray, List.set_cons_zero, List.set_cons_succ]
          refine wpAnyH_take (i := 4) (v := ?_) opn4 (by kernel_rfl) (by kernel_rfl) (by kernel_rfl) (fun _ _ _ h => h) (Or.inl ⟨by rfl, ?_⟩) (by assumption) ?_
          rotate_left 1
          · intro wz hSw
            try dsimp only at hSw
            have hq := hSw.2.2.2.2.1
            have hq2 := hSw.2.2.2.2.2
            go_simp
            all_goals with_reducible rfl
          try simp only [Act.put, List.setIfInBounds_toArray, List.set_cons_zero, List.set_cons_succ]
          refine wpAnyH_take (i := 5) (v := ?_) opn5 (by kernel_rfl) (by kernel_rfl) (by kernel_rfl) (fun _ _ _ h => h) (Or.inl ⟨by rfl, ?_⟩) (by assumption) ?_
          rotate_left 1
          · intro wz hSw
            try dsimp only at hSw
            go_simp
            all_goals with_reducible rfl
          try simp only [Act.put, List.setIfInBounds_toArray, List.set_cons_zero, List.set_cons_succ]
          refine wpAnyH_take (i := 6) (v := ?_) opn6 (by kernel_rfl) (by kernel_rfl) (by kernel_rfl) (fun _ _ _ h => h) (Or.inl ⟨by rfl, ?_⟩) (by assumption) ?_
          rotate_left 1
          · intro wz hSw
            try dsimp only at hSw
            go_simp
            all_goals with_reducible rfl
          try simp only [Act.put, List.setIfInBounds_toArray, List.set_cons_zero, List.set_cons_succ]
          refine wpAnyH_take (i := 7) (v := ?_) opn7 (by kernel_rfl) (by kernel_rfl) (by kernel_rfl) (fun _ _ _ h => h) (Or.inl ⟨by rfl, ?_⟩) (by assumption) ?_
          rotate_left 1
          · intro wz hSw
            try dsimp only at hSw
            go_simp
            all_goals with_reducible rfl
          try simp only [Act.put, List.setIfInBounds_toArray, List.set_cons_zero, List.set_cons_succ]
          refine wpAnyH_take (i := 8) (v := ?_) opn8 (by kernel_rfl) (by kernel_rfl) (by kernel_rfl) (fun _ _ _ h => h) (Or.inl ⟨by rfl, ?_⟩) (by assumption) ?_
          rotate_left 1
          · intro wz hSw
            try dsimp only at hSw
            go_simp
            all_goals with_reducible rfl
          try simp only [Act.put, List.setIfInBounds_toArray, List.set_cons_zero, List.set_cons_succ]
          refine wpAnyH_take (i := 11) (v := ?_) opn11 (by kernel_rfl) (by kernel_rfl) (by kernel_rfl) (fun _ _ _ h => h) (Or.inl ⟨by rfl, ?_⟩) (by assumption) ?_
          rotate_left 1
          · intro wz hSw
            try dsimp only at hSw
            go_simp
            all_goals with_reducible rfl
          try simp only [Act.put, List.setIfInBounds_toArray, List.set_cons_zero, List.set_cons_succ]
          have hC := hHeld.2.2
          refine wpAnyH_ready (rs := [9]) (by kernel_rfl) (by simp) ?_
          refine AllReadyH.cons opn9 (fun K hK => ?_) AllReadyH.nil
          go_simp
          refine (Log_T hHeld.1.s1 hrs (unhide HT2)).mono ?_
          rintro e w18 ⟨l1, k1, rfl, o1, b18⟩
          have ho1 : BRow w18 0 (.slice l1 T2 k1) (logB rlog) := ownsRow_base o1 (Nat.zero_le _)
          refine hK.out _ _ ⟨hHeld.1.below b18, hHeld.2.1.trans (b18.mono hHeld.2.1.size), ⟨(b18.cell (p := ⟨wa.heap.size, 0, none⟩) (World.block_lt_of_cell? _ _ hC.1)).trans hC.1, (b18.cell (p := ⟨wa.heap.size, 1, none⟩) (World.block_lt_of_cell? _ _ hC.2.1)).trans hC.2.1, (b18.cell (p := ⟨wb.heap.size, 0, none⟩) (World.block_lt_of_cell? _ _ hC.2.2.1)).trans hC.2.2.1, (b18.cell (p := ⟨wb.heap.size, 1, none⟩) (World.block_lt_of_cell? _ _ hC.2.2.2)).trans hC.2.2.2⟩⟩ (fun hHeldN => ?_)
          clear hHeld hK K
          have hHeld := hHeldN
          clear hHeldN
          try simp only [Act.put, List.setIfInBounds_toArray, List.set_cons_zero, List.set_cons_succ]
          clear hC
          refine wpAnyH_weak (S' := fun wx => (TwoS w5.heap.size N2 wx S B16 own16 lv16 rlog S2 B15 own15 lv15 rlog ∧ Below w5.heap.size w5 wx ∧ (wx.cell? ⟨wa.heap.size, 0, none⟩ = some (.int .i64 rcode) ∧ wx.cell? ⟨wa.heap.size, 1, none⟩ = some (.string rtext) ∧ wx.cell? ⟨wb.heap.size, 0, none⟩ = some (.int .i64 rcode) ∧ wx.cell? ⟨wb.heap.size, 1, none⟩ = some (.string rtext))) ∧ BRow wx 0 (.slice l1 T2 k1) (logB rlog)) (fun _ h => h.1) _ _ _ _ ?_
          replace hHeld := (show (fun wx => (TwoS w5.heap.size N2 wx S B16 own16 lv16 rlog S2 B15 own15 lv15 rlog ∧ Below w5.heap.size w5 wx ∧ (wx.cell? ⟨wa.heap.size, 0, none⟩ = some (.int .i64 rcode) ∧ wx.cell? ⟨wa.heap.size, 1, none⟩ = some (.string rtext) ∧ wx.cell? ⟨wb.heap.size, 0, none⟩ = some (.int .i64 rcode) ∧ wx.cell? ⟨wb.heap.size, 1, none⟩ = some (.string rtext))) ∧ BRow wx 0 (.slice l1 T2 k1) (logB rlog)) _ from ⟨hHeld, ho1⟩)
          refine wpAnyH_take (i := 10) (v := ?_) opn10 (by kernel_rfl) (by kernel_rfl) (by kernel_rfl) (fun _ _ _ h => h) (Or.inl ⟨by rfl, ?_⟩) (by assumption) ?_
          rotate_left 1
          · intro wz hSw
            try dsimp only at hSw
            have hq : (convert 48 9 (.slice l1 T2 k1)).run Try.prog wz = .ok (.string s2) wz := by rw [unhide HS2]; exact conv_row hSw.2 (unhide HT2)
            go_simp
            all_goals with_reducible rfl
          try simp only [Act.put, List.setIfInBounds_toArray, List.set_cons_zero, List.set_cons_succ]
          have hC := hHeld.1.2.2
          refine wpAnyH_ready (rs := [12]) (by kernel_rfl) (by simp) ?_
          refine AllReadyH.cons opn12 (fun K hK => ?_) AllReadyH.nil
          go_simp
          refine (Log_T hHeld.1.1.s2 hrs (unhide HT2)).mono ?_
          rintro e w19 ⟨l2, k2, rfl, o2, b19⟩
          have ho2 : BRow w19 0 (.slice l2 T2 k2) (logB rlog) := ownsRow_base o2 (Nat.zero_le _)
          refine hK.out _ _ ⟨⟨hHeld.1.1.below b19, hHeld.1.2.1.trans (b19.mono hHeld.1.2.1.size), ⟨(b19.cell (p := ⟨wa.heap.size, 0, none⟩) (World.block_lt_of_cell? _ _ hC.1)).trans hC.1, (b19.cell (p := ⟨wa.heap.size, 1, none⟩) (World.block_lt_of_cell? _ _ hC.2.1)).trans hC.2.1, (b19.cell (p := ⟨wb.heap.size, 0, none⟩) (World.block_lt_of_cell? _ _ hC.2.2.1)).trans hC.2.2.1, (b19.cell (p := ⟨wb.heap.size, 1, none⟩) (World.block_lt_of_cell? _ _ hC.2.2.2)).trans hC.2.2.2⟩⟩, hHeld.2.below b19⟩ (fun hHeldN => ?_)
          clear hHeld hK K
          have hHeld := hHeldN
          clear hHeldN
          try simp only [Act.put, List.setIfInBounds_toArray, List.set_cons_zero, List.set_cons_succ]
          clear hC
          refine wpAnyH_weak (S' := fun wx => ((TwoS w5.heap.size N2 wx S B16 own16 lv16 rlog S2 B15 own15 lv15 rlog ∧ Below w5.heap.size w5 wx ∧ (wx.cell? ⟨wa.heap.size, 0, none⟩ = some (.int .i64 rcode) ∧ wx.cell? ⟨wa.heap.size, 1, none⟩ = some (.string rtext) ∧ wx.cell? ⟨wb.heap.size, 0, none⟩ = some (.int .i64 rcode) ∧ wx.cell? ⟨wb.heap.size, 1, none⟩ = some (.string rtext))) ∧ BRow wx 0 (.slice l1 T2 k1) (logB rlog)) ∧ BRow wx 0 (.slice l2 T2 k2) (logB rlog)) (fun _ h => h.1) _ _ _ _ ?_
          replace hHeld := (show (fun wx => ((TwoS w5.heap.size N2 wx S B16 own16 lv16 rlog S2 B15 own15 lv15 rlog ∧ Below w5.heap.size w5 wx ∧ (wx.cell? ⟨wa.heap.size, 0, none⟩ = some (.int .i64 rcode) ∧ wx.cell? ⟨wa.heap.size, 1, none⟩ = some (.string rtext) ∧ wx.cell? ⟨wb.heap.size, 0, none⟩ = some (.int .i64 rcode) ∧ wx.cell? ⟨wb.heap.size, 1, none⟩ = some (.string rtext))) ∧ BRow wx 0 (.slice l1 T2 k1) (logB rlog)) ∧ BRow wx 0 (.slice l2 T2 k2) (logB rlog)) _ from ⟨hHeld, ho2⟩)
          refine wpAnyH_take (i := 13) (v := ?_) opn13 (by kernel_rfl) (by kernel_rfl) (by kernel_rfl) (fun _ _ _ h => h) (Or.inl ⟨by rfl, ?_⟩) (by assumption) ?_
          rotate_left 1
          · intro wz hSw
            try dsimp only at hSw
            have hq : (convert 48 9 (.slice l2 T2 k2)).run Try.prog wz = .ok (.string s2) wz := by rw [unhide HS2]; exact conv_row hSw.2 (unhide HT2)
            go_simp
            all_goals with_reducible rfl
          try simp only [Act.put, List.setIfInBounds_toArray, List.set_cons_zero, List.set_cons_succ]
          refine wpAnyH_take (i := 14) (v := ?_) opn14 (by kernel_rfl) (by kernel_rfl) (by kernel_rfl) (fun _ _ _ h => h) (Or.inl ⟨by rfl, ?_⟩) (by assumption) ?_
          rotate_left 1
          · intro wz hSw
            try dsimp only at hSw
            go_simp
            all_goals with_reducible rfl
          try simp only [Act.put, List.setIfInBounds_toArray, List.set_cons_zero, List.set_cons_succ]
          refine wpAnyH_take (i := 15) (v := ?_) opn15 (by kernel_rfl) (by kernel_rfl) (by kernel_rfl) (fun _ _ _ h => h) (Or.inl ⟨by rfl, ?_⟩) (by assumption) ?_
          rotate_left 1
          · intro wz hSw
            try dsimp only at hSw
            go_simp
            all_goals with_reducible rfl
          try simp only [Act.put, List.setIfInBounds_toArray, List.set_cons_zero, List.set_cons_succ]
          refine wpAnyH_take (i := 16) (v := ?_) opn16 (by kernel_rfl) (by kernel_rfl) (by kernel_rfl) (fun _ _ _ h => h) (Or.inl ⟨by rfl, ?_⟩) (by assumption) ?_
          rotate_left 1
          · intro wz hSw
            try dsimp only at hSw
            go_simp
            all_goals with_reducible rfl
          try simp only [Act.put, List.setIfInBounds_toArray, List.set_cons_zero, List.set_cons_succ]
          refine wpAnyH_take (i := 17) (v := ?_) opn17 (by kernel_rfl) (by kernel_rfl) (by kernel_rfl) (fun _ _ _ h => h) (Or.inl ⟨by rfl, ?_⟩) (by assumption) ?_
          rotate_left 1
          · intro wz hSw
            try dsimp only at hSw
            go_simp
            all_goals with_reducible rfl
          try simp only [Act.put, List.setIfInBounds_toArray, List.set_cons_zero, List.set_cons_succ]
          refine wpAnyH_take (i := 18) (v := ?_) opn18 (by kernel_rfl) (by kernel_rfl) (by kernel_rfl) (fun _ _ _ h => h) (Or.inl ⟨by rfl, ?_⟩) (by assumption) ?_
          rotate_left 1
          · intro wz hSw
            try dsimp only at hSw
            go_simp
            all_goals with_reducible rfl
          try simp only [Act.put, List.setIfInBounds_toArray, List.set_cons_zero, List.set_cons_succ]
          refine wpAnyH_take (i := 19) (v := ?_) opn19 (by kernel_rfl) (by kernel_rfl) (by kernel_rfl) (fun _ _ _ h => h) (Or.inl ⟨by rfl, ?_⟩) (by assumption) ?_
          rotate_left 1
          · intro wz hSw
            try dsimp only at hSw
            go_simp
            all_goals with_reducible rfl
          try simp only [Act.put, List.setIfInBounds_toArray, List.set_cons_zero, List.set_cons_succ]
          refine wpAnyH_take (i := 20) (v := ?_) opn20 (by kernel_rfl) (by kernel_rfl) (by kernel_rfl) (fun _ _ _ h => h) (Or.inl ⟨by rfl, ?_⟩) (by assumption) ?_
          rotate_left 1
          · intro wz hSw
            try dsimp only at hSw
            have hq := hSw.1.1.1.s1.ptr
            go_simp
            all_goals with_reducible rfl
          try simp only [Act.put, List.setIfInBounds_toArray, List.set_cons_zero, List.set_cons_succ]
          refine wpAnyH_take (i := 22) (v := ?_) opn22 (by kernel_rfl) (by kernel_rfl) (by kernel_rfl) (fun _ _ _ h => h) (Or.inl ⟨by rfl, ?_⟩) (by assumption) ?_
          rotate_left 1
          · intro wz hSw
            try dsimp only at hSw
            go_simp
            all_goals with_reducible rfl
          try simp only [Act.put, List.setIfInBounds_toArray, List.set_cons_zero, List.set_cons_succ]
          refine wpAnyH_take (i := 23) (v := ?_) opn23 (by kernel_rfl) (by kernel_rfl) (by kernel_rfl) (fun _ _ _ h => h) (Or.inl ⟨by rfl, ?_⟩) (by assumption) ?_
          rotate_left 1
          · intro wz hSw
            try dsimp only at hSw
            go_simp
            all_goals with_reducible rfl
          try simp only [Act.put, List.setIfInBounds_toArray, List.set_cons_zero, List.set_cons_succ]
          refine wpAnyH_take (i := 24) (v := ?_) opn24 (by kernel_rfl) (by kernel_rfl) (by kernel_rfl) (fun _ _ _ h => h) (Or.inl ⟨by rfl, ?_⟩) (by assumption) ?_
          rotate_left 1
          · intro wz hSw
            try dsimp only at hSw
            go_simp
            all_goals with_reducible rfl
          try simp only [Act.put, List.setIfInBounds_toArray, List.set_cons_zero, List.set_cons_succ]
          refine wpAnyH_take (i := 25) (v := ?_) opn25 (by kernel_rfl) (by kernel_rfl) (by kernel_rfl) (fun _ _ _ h => h) (Or.inl ⟨by rfl, ?_⟩) (by assumption) ?_
          rotate_left 1
          · intro wz hSw
            try dsimp only at hSw
            have hq := hSw.1.1.1.s2.ptr
            go_simp
            all_goals with_reducible rfl
          try simp only [Act.put, List.setIfInBounds_toArray, List.set_cons_zero, List.set_cons_succ]
          have hC := hHeld.1.1.2.2
          refine wpAnyH_ready (rs := [21]) (by kernel_rfl) (by simp) ?_
          refine AllReadyH.cons opn21 (fun K hK => ?_) AllReadyH.nil
          go_simp
          refine (Names_M hHeld.1.1.1.s1.files (unhide HM2)).mono ?_
          rintro e w20 ⟨g1, k3, rfl, o3, b20⟩
          have ho3 : w20.ownsRow 0 9 1 (.slice (some ⟨g1, 0, none⟩) M2 k3) M2 ((sNames (behind rlog)).map .string) := ownsRow_base o3 (Nat.zero_le _)
          refine hK.out _ _ ⟨⟨⟨hHeld.1.1.1.below b20, hHeld.1.1.2.1.trans (b20.mono hHeld.1.1.2.1.size), ⟨(b20.cell (p := ⟨wa.heap.size, 0, none⟩) (World.block_lt_of_cell? _ _ hC.1)).trans hC.1, (b20.cell (p := ⟨wa.heap.size, 1, none⟩) (World.block_lt_of_cell? _ _ hC.2.1)).trans hC.2.1, (b20.cell (p := ⟨wb.heap.size, 0, none⟩) (World.block_lt_of_cell? _ _ hC.2.2.1)).trans hC.2.2.1, (b20.cell (p := ⟨wb.heap.size, 1, none⟩) (World.block_lt_of_cell? _ _ hC.2.2.2)).trans hC.2.2.2⟩⟩, hHeld.1.2.below b20⟩, hHeld.2.below b20⟩ (fun hHeldN => ?_)
          clear hHeld hK K
          have hHeld := hHeldN
          clear hHeldN
          try simp only [Act.put, List.setIfInBounds_toArray, List.set_cons_zero, List.set_cons_succ]
          clear hC
          refine wpAnyH_ready (rs := [26]) (by kernel_rfl) (by simp) ?_
          refine AllReadyH.cons opn26 (fun K hK => ?_) AllReadyH.nil
          go_simp
          refine (Names_M hHeld.1.1.1.s2.files (unhide HM2)).mono ?_
          rintro e w21 ⟨g2, k4, rfl, o4, b21⟩
          have ho4 : w21.ownsRow 0 9 1 (.slice (some ⟨g2, 0, none⟩) M2 k4) M2 ((sNames (behind rlog)).map .string) := ownsRow_base o4 (Nat.zero_le _)
          have ho5 : w21.ownsRow 0 9 1 (.slice (some ⟨g1, 0, none⟩) M2 k3) M2 ((sNames (behind rlog)).map .string) := ownsRow_same ho3 (fun k h1 => b21.block k (ho3.lt k h1).2)
          refine hK.out _ _ ⟨⟨⟨hHeld.1.1.1.below b21, hHeld.1.1.2.1.trans (b21.mono hHeld.1.1.2.1.size), ⟨(b21.cell (p := ⟨wa.heap.size, 0, none⟩) (World.block_lt_of_cell? _ _ hHeld.1.1.2.2.1)).trans hHeld.1.1.2.2.1, (b21.cell (p := ⟨wa.heap.size, 1, none⟩) (World.block_lt_of_cell? _ _ hHeld.1.1.2.2.2.1)).trans hHeld.1.1.2.2.2.1, (b21.cell (p := ⟨wb.heap.size, 0, none⟩) (World.block_lt_of_cell? _ _ hHeld.1.1.2.2.2.2.1)).trans hHeld.1.1.2.2.2.2.1, (b21.cell (p := ⟨wb.heap.size, 1, none⟩) (World.block_lt_of_cell? _ _ hHeld.1.1.2.2.2.2.2)).trans hHeld.1.1.2.2.2.2.2⟩⟩, hHeld.1.2.below b21⟩, hHeld.2.below b21⟩ (fun hHeldN => ?_)
          clear hHeld hK K
          have hHeld := hHeldN
          clear hHeldN
          try simp only [Act.put, List.setIfInBounds_toArray, List.set_cons_zero, List.set_cons_succ]
          refine wpAnyH_ready (rs := [27]) (by kernel_rfl) (by simp) ?_
          refine AllReadyH.cons opn27 (fun K hK => ?_) AllReadyH.nil
          go_simp
          refine (SameTexts_any (some ⟨g1, 0, none⟩) (some ⟨g2, 0, none⟩) M2 M2 k3 k4 _ _ _ ho5 ho4 hM21000 hM21000).mono ?_
          rintro e w22 ⟨rfl, b22⟩
          rw [decide_eq_true (rfl : sNames (behind rlog) = sNames (behind rlog))]
          refine hK.out _ _ ⟨⟨⟨hHeld.1.1.1.below b22, hHeld.1.1.2.1.trans (b22.mono hHeld.1.1.2.1.size), ⟨(b22.cell (p := ⟨wa.heap.size, 0, none⟩) (World.block_lt_of_cell? _ _ hHeld.1.1.2.2.1)).trans hHeld.1.1.2.2.1, (b22.cell (p := ⟨wa.heap.size, 1, none⟩) (World.block_lt_of_cell? _ _ hHeld.1.1.2.2.2.1)).trans hHeld.1.1.2.2.2.1, (b22.cell (p := ⟨wb.heap.size, 0, none⟩) (World.block_lt_of_cell? _ _ hHeld.1.1.2.2.2.2.1)).trans hHeld.1.1.2.2.2.2.1, (b22.cell (p := ⟨wb.heap.size, 1, none⟩) (World.block_lt_of_cell? _ _ hHeld.1.1.2.2.2.2.2)).trans hHeld.1.1.2.2.2.2.2⟩⟩, hHeld.1.2.below b22⟩, hHeld.2.below b22⟩ (fun hHeldN => ?_)
          clear hHeld hK K
          have hHeld := hHeldN
          clear hHeldN
          try simp only [Act.put, List.setIfInBounds_toArray, List.set_cons_zero, List.set_cons_succ]
          refine wpAnyH_take (i := 28) (v := ?_) opn28 (by kernel_rfl) (by kernel_rfl) (by kernel_rfl) (fun _ _ _ h => h) (Or.inl ⟨by rfl, ?_⟩) (by assumption) ?_
          rotate_left 1
          · intro wz hSw
            try dsimp only at hSw
            go_simp
            all_goals with_reducible rfl
          try simp only [Act.put, List.setIfInBounds_toArray, List.set_cons_zero, List.set_cons_succ]
          refine wpAnyH_take (i := 29) (v := ?_) opn29 (by kernel_rfl) (by kernel_rfl) (by kernel_rfl) (fun _ _ _ h => h) (Or.inl ⟨by rfl, ?_⟩) (by assumption) ?_
          rotate_left 1
          · intro wz hSw
            try dsimp only at hSw
            go_simp
            all_goals with_reducible rfl
          try simp only [Act.put, List.setIfInBounds_toArray, List.set_cons_zero, List.set_cons_succ]
          refine wpAnyH_done (by kernel_rfl) ?_ _
          have HBF := hide ((unhide HB4).trans (hHeld.1.1.2.1.mono (unhide HB4).size))
          clear hHeld
          go_wp2
          go_ret
          exact ⟨rfl, unhide HBF⟩
        · have hne : (sN.toList == sW.toList) = false := by rw [eqB]; simp [hsame]
          have hne2 : (sN.toList != sW.toList) = true := by simp [bne, hne]
          have hL1 : L1 = rlog := by
            rcases unhide HTL with h | h
            · exact absurd (by rw [unhide HSN, unhide HSW, h]) hsame
            · exact h
          have hs2N : s2 = sN := by rw [unhide HS2, unhide HSN, hL1]
          have HHS := hide hsame
          clear hsame hL1 x0 x1 x2 x3 x4 x5 x6 x7
          go_wp2_with fail
          rw [← unhide HVa]
          refine (Log_T (unhide HW15).s2 hrs (unhide HT2)).mono ?_
          rintro e wc ⟨la3, lc3, rfl, ol3, bc⟩
          have hcv3 : (convert 48 9 (.slice la3 T2 lc3)).run Try.prog wc = .ok (.string sN) wc := by rw [← hs2N, unhide HS2]; exact conv_row ol3 (unhide HT2)
          have HW15' := hide ((unhide HW15).below bc)
          have HB15' := hide ((unhide HB15).trans (bc.mono hzVa))
          have HA15' := hide ((bc.block _ (Array.getElem?_eq_some_iff.1 (unhide HA15)).1).trans (unhide HA15))
          obtain ⟨⟨x0, x1, x2, x3⟩, ⟨x4, x5, x6, x7⟩, _⟩ := eight (((unhide HB15').block w.heap.size hz4).trans (unhide HX4))
          clear ol3 bc hs2N HW15 HB15 HA15
          have HW15 := HW15'
          have HB15 := HB15'
          have HA15 := HA15'
          clear HW15' HB15' HA15'
          go_wp2_with fail
          refine ((unhide HC3) _ _ _ _ (unhide HW15).s1 (unhide HB15).size).mono ?_
          rintro e wb ⟨rfl, hT3⟩
          obtain ⟨B16, own16, lv16, hw16, hn16⟩ := (unhide HW15).turn1 hT3
          clear x0 x1 x2 x3 x4 x5 x6 x7 hT3
          obtain ⟨V, hV⟩ : ∃ V, V = wb.alloc (.cells #[.int .i64 rcode, .string rtext] 34) := ⟨_, rfl⟩
          have hbb : Below wb.heap.size wb V := by rw [hV]; exact (Below.refl _ _).alloc (Nat.le_refl _) _
          have HW16 := hide (hw16.below hbb)
          have HBb := hide ((unhide HB15).trans hn16.below)
          have HBV := hide ((unhide HBb).trans (hbb.mono (unhide HBb).size))
          have hAb := (hn16.keep _ (Array.getElem?_eq_some_iff.1 (unhide HA15)).1 (unhide HNA1)).2.trans (unhide HA15)
          have hAV := (hbb.block _ (Array.getElem?_eq_some_iff.1 hAb).1).trans hAb
          have hBV : V.heap[wb.heap.size]? = some (.cells #[.int .i64 rcode, .string rtext] 34 (0, 0)) := by rw [hV]; exact heap_alloc_new _ _
          obtain ⟨⟨u0, u1⟩, _⟩ := two hAV
          obtain ⟨⟨v0, v1⟩, _⟩ := two hBV
          have HV := hide hV
          clear hw16 hn16 hbb hAb hAV hBV hV
          go_wp2_with fail
          rw [← unhide HV]
          refine wp_region_held_drew (S := (fun wx => (TwoS w5.heap.size N2 wx S B16 own16 lv16 rlog S2 B15 own15 lv15 rlog ∧ Below w5.heap.size w5 wx ∧ (wx.cell? ⟨wa.heap.size, 0, none⟩ = some (.int .i64 rcode) ∧ wx.cell? ⟨wa.heap.size, 1, none⟩ = some (.string rtext) ∧ wx.cell? ⟨wb.heap.size, 0, none⟩ = some (.int .i64 rcode) ∧ wx.cell? ⟨wb.heap.size, 1, none⟩ = some (.string rtext))))) (by kernel_rfl) ⟨(unhide HW16).below (below_dr V), (unhide HBV).trans ((below_dr V).mono (unhide HBV).size), u0, u1, v0, v1⟩ (fun hHeld => ?_)
          clear u0 u1 v0 v1
          refine wpAnyH_take (i := 0) (v := ?_) opn0 (by kernel_rfl) (by kernel_rfl) (by kernel_rfl) (fun _ _ _ h => h) (Or.inl ⟨by rfl, ?_⟩) (by assumption) ?_
          rotate_left 1
          · intro wz hSw
            try dsimp only at hSw
            go_simp
            all_goals with_reducible rfl
          try simp only [Act.put, List.setIfInBounds_toArray, List.set_cons_zero, List.set_cons_succ]
          refine wpAnyH_take (i := 1) (v := ?_) opn1 (by kernel_rfl) (by kernel_rfl) (by kernel_rfl) (fun _ _ _ h => h) (Or.inl ⟨by rfl, ?_⟩) (by assumption) ?_
          rotate_left 1
          · intro wz hSw
            try dsimp only at hSw
            go_simp
            all_goals with_reducible rfl
          try simp only [Act.put, List.setIfInBounds_toArray, List.set_cons_zero, List.set_cons_succ]
          refine wpAnyH_take (i := 2) (v := ?_) opn2 (by kernel_rfl) (by kernel_rfl) (by kernel_rfl) (fun _ _ _ h => h) (Or.inl ⟨by rfl, ?_⟩) (by assumption) ?_
          rotate_left 1
          · intro wz hSw
            try dsimp only at hSw
            go_simp
            all_goals with_reducible rfl
          try simp only [Act.put, List.setIfInBounds_toArray, List.set_cons_zero, List.set_cons_succ]
          refine wpAnyH_take (i := 3) (v := ?_) opn3 (by kernel_rfl) (by kernel_rfl) (by kernel_rfl) (fun _ _ _ h => h) (Or.inl ⟨by rfl, ?_⟩) (by assumption) ?_
          rotate_left 1
          · intro wz hSw
            try dsimp only at hSw
            have hq := hSw.2.2.1
            have hq2 := hSw.2.2.2.1
            go_simp
            all_goals with_reducible rfl
          try simp only [Act.put, List.setIfInBounds_toArray, List.set_cons_zero, List.set_cons_succ]
          refine wpAnyH_take (i := 4) (v := ?_) opn4 (by kernel_rfl) (by kernel_rfl) (by kernel_rfl) (fun _ _ _ h => h) (Or.inl ⟨by rfl, ?_⟩) (by assumption) ?_
          rotate_left 1
          · intro wz hSw
            try dsimp only at hSw
            have hq := hSw.2.2.2.2.1
            have hq2 := hSw.2.2.2.2.2
            go_simp
            all_goals with_reducible rfl
          try simp only [Act.put, List.setIfInBounds_toArray, List.set_cons_zero, List.set_cons_succ]
          refine wpAnyH_take (i := 5) (v := ?_) opn5 (by kernel_rfl) (by kernel_rfl) (by kernel_rfl) (fun _ _ _ h => h) (Or.inl ⟨by rfl, ?_⟩) (by assumption) ?_
          rotate_left 1
          · intro wz hSw
            try dsimp only at hSw
            go_simp
            all_goals with_reducible rfl
          try simp only [Act.put, List.setIfInBounds_toArray, List.set_cons_zero, List.set_cons_succ]
          refine wpAnyH_take (i := 6) (v := ?_) opn6 (by kernel_rfl) (by kernel_rfl) (by kernel_rfl) (fun _ _ _ h => h) (Or.inl ⟨by rfl, ?_⟩) (by assumption) ?_
          rotate_left 1
          · intro wz hSw
            try dsimp only at hSw
            go_simp
            all_goals with_reducible rfl
          try simp only [Act.put, List.setIfInBounds_toArray, List.set_cons_zero, List.set_cons_succ]
          refine wpAnyH_take (i := 7) (v := ?_) opn7 (by kernel_rfl) (by kernel_rfl) (by kernel_rfl) (fun _ _ _ h => h) (Or.inl ⟨by rfl, ?_⟩) (by assumption) ?_
          rotate_left 1
          · intro wz hSw
            try dsimp only at hSw
            go_simp
            all_goals with_reducible rfl
          try simp only [Act.put, List.setIfInBounds_toArray, List.set_cons_zero, List.set_cons_succ]
          refine wpAnyH_take (i := 8) (v := ?_) opn8 (by kernel_rfl) (by kernel_rfl) (by kernel_rfl) (fun _ _ _ h => h) (Or.inl ⟨by rfl, ?_⟩) (by assumption) ?_
          rotate_left 1
          · intro wz hSw
            try dsimp only at hSw
            go_simp
            all_goals with_reducible rfl
          try simp only [Act.put, List.setIfInBounds_toArray, List.set_cons_zero, List.set_cons_succ]
          refine wpAnyH_take (i := 11) (v := ?_) opn11 (by kernel_rfl) (by kernel_rfl) (by kernel_rfl) (fun _ _ _ h => h) (Or.inl ⟨by rfl, ?_⟩) (by assumption) ?_
          rotate_left 1
          · intro wz hSw
            try dsimp only at hSw
            go_simp
            all_goals with_reducible rfl
          try simp only [Act.put, List.setIfInBounds_toArray, List.set_cons_zero, List.set_cons_succ]
          have hC := hHeld.2.2
          refine wpAnyH_ready (rs := [9]) (by kernel_rfl) (by simp) ?_
          refine AllReadyH.cons opn9 (fun K hK => ?_) AllReadyH.nil
          go_simp
          refine (Log_T hHeld.1.s1 hrs (unhide HT2)).mono ?_
          rintro e w18 ⟨l1, k1, rfl, o1, b18⟩
          have ho1 : BRow w18 0 (.slice l1 T2 k1) (logB rlog) := ownsRow_base o1 (Nat.zero_le _)
          refine hK.out _ _ ⟨hHeld.1.below b18, hHeld.2.1.trans (b18.mono hHeld.2.1.size), ⟨(b18.cell (p := ⟨wa.heap.size, 0, none⟩) (World.block_lt_of_cell? _ _ hC.1)).trans hC.1, (b18.cell (p := ⟨wa.heap.size, 1, none⟩) (World.block_lt_of_cell? _ _ hC.2.1)).trans hC.2.1, (b18.cell (p := ⟨wb.heap.size, 0, none⟩) (World.block_lt_of_cell? _ _ hC.2.2.1)).trans hC.2.2.1, (b18.cell (p := ⟨wb.heap.size, 1, none⟩) (World.block_lt_of_cell? _ _ hC.2.2.2)).trans hC.2.2.2⟩⟩ (fun hHeldN => ?_)
          clear hHeld hK K
          have hHeld := hHeldN
          clear hHeldN
          try simp only [Act.put, List.setIfInBounds_toArray, List.set_cons_zero, List.set_cons_succ]
          clear hC
          refine wpAnyH_weak (S' := fun wx => (TwoS w5.heap.size N2 wx S B16 own16 lv16 rlog S2 B15 own15 lv15 rlog ∧ Below w5.heap.size w5 wx ∧ (wx.cell? ⟨wa.heap.size, 0, none⟩ = some (.int .i64 rcode) ∧ wx.cell? ⟨wa.heap.size, 1, none⟩ = some (.string rtext) ∧ wx.cell? ⟨wb.heap.size, 0, none⟩ = some (.int .i64 rcode) ∧ wx.cell? ⟨wb.heap.size, 1, none⟩ = some (.string rtext))) ∧ BRow wx 0 (.slice l1 T2 k1) (logB rlog)) (fun _ h => h.1) _ _ _ _ ?_
          replace hHeld := (show (fun wx => (TwoS w5.heap.size N2 wx S B16 own16 lv16 rlog S2 B15 own15 lv15 rlog ∧ Below w5.heap.size w5 wx ∧ (wx.cell? ⟨wa.heap.size, 0, none⟩ = some (.int .i64 rcode) ∧ wx.cell? ⟨wa.heap.size, 1, none⟩ = some (.string rtext) ∧ wx.cell? ⟨wb.heap.size, 0, none⟩ = some (.int .i64 rcode) ∧ wx.cell? ⟨wb.heap.size, 1, none⟩ = some (.string rtext))) ∧ BRow wx 0 (.slice l1 T2 k1) (logB rlog)) _ from ⟨hHeld, ho1⟩)
          refine wpAnyH_take (i := 10) (v := ?_) opn10 (by kernel_rfl) (by kernel_rfl) (by kernel_rfl) (fun _ _ _ h => h) (Or.inl ⟨by rfl, ?_⟩) (by assumption) ?_
          rotate_left 1
          · intro wz hSw
            try dsimp only at hSw
            have hq : (convert 48 9 (.slice l1 T2 k1)).run Try.prog wz = .ok (.string s2) wz := by rw [unhide HS2]; exact conv_row hSw.2 (unhide HT2)
            go_simp
            all_goals with_reducible rfl
          try simp only [Act.put, List.setIfInBounds_toArray, List.set_cons_zero, List.set_cons_succ]
          have hC := hHeld.1.2.2
          refine wpAnyH_ready (rs := [12]) (by kernel_rfl) (by simp) ?_
          refine AllReadyH.cons opn12 (fun K hK => ?_) AllReadyH.nil
          go_simp
          refine (Log_T hHeld.1.1.s2 hrs (unhide HT2)).mono ?_
          rintro e w19 ⟨l2, k2, rfl, o2, b19⟩
          have ho2 : BRow w19 0 (.slice l2 T2 k2) (logB rlog) := ownsRow_base o2 (Nat.zero_le _)
          refine hK.out _ _ ⟨⟨hHeld.1.1.below b19, hHeld.1.2.1.trans (b19.mono hHeld.1.2.1.size), ⟨(b19.cell (p := ⟨wa.heap.size, 0, none⟩) (World.block_lt_of_cell? _ _ hC.1)).trans hC.1, (b19.cell (p := ⟨wa.heap.size, 1, none⟩) (World.block_lt_of_cell? _ _ hC.2.1)).trans hC.2.1, (b19.cell (p := ⟨wb.heap.size, 0, none⟩) (World.block_lt_of_cell? _ _ hC.2.2.1)).trans hC.2.2.1, (b19.cell (p := ⟨wb.heap.size, 1, none⟩) (World.block_lt_of_cell? _ _ hC.2.2.2)).trans hC.2.2.2⟩⟩, hHeld.2.below b19⟩ (fun hHeldN => ?_)
          clear hHeld hK K
          have hHeld := hHeldN
          clear hHeldN
          try simp only [Act.put, List.setIfInBounds_toArray, List.set_cons_zero, List.set_cons_succ]
          clear hC
          refine wpAnyH_weak (S' := fun wx => ((TwoS w5.heap.size N2 wx S B16 own16 lv16 rlog S2 B15 own15 lv15 rlog ∧ Below w5.heap.size w5 wx ∧ (wx.cell? ⟨wa.heap.size, 0, none⟩ = some (.int .i64 rcode) ∧ wx.cell? ⟨wa.heap.size, 1, none⟩ = some (.string rtext) ∧ wx.cell? ⟨wb.heap.size, 0, none⟩ = some (.int .i64 rcode) ∧ wx.cell? ⟨wb.heap.size, 1, none⟩ = some (.string rtext))) ∧ BRow wx 0 (.slice l1 T2 k1) (logB rlog)) ∧ BRow wx 0 (.slice l2 T2 k2) (logB rlog)) (fun _ h => h.1) _ _ _ _ ?_
          replace hHeld := (show (fun wx => ((TwoS w5.heap.size N2 wx S B16 own16 lv16 rlog S2 B15 own15 lv15 rlog ∧ Below w5.heap.size w5 wx ∧ (wx.cell? ⟨wa.heap.size, 0, none⟩ = some (.int .i64 rcode) ∧ wx.cell? ⟨wa.heap.size, 1, none⟩ = some (.string rtext) ∧ wx.cell? ⟨wb.heap.size, 0, none⟩ = some (.int .i64 rcode) ∧ wx.cell? ⟨wb.heap.size, 1, none⟩ = some (.string rtext))) ∧ BRow wx 0 (.slice l1 T2 k1) (logB rlog)) ∧ BRow wx 0 (.slice l2 T2 k2) (logB rlog)) _ from ⟨hHeld, ho2⟩)
          refine wpAnyH_take (i := 13) (v := ?_) opn13 (by kernel_rfl) (by kernel_rfl) (by kernel_rfl) (fun _ _ _ h => h) (Or.inl ⟨by rfl, ?_⟩) (by assumption) ?_
          rotate_left 1
          · intro wz hSw
            try dsimp only at hSw
            have hq : (convert 48 9 (.slice l2 T2 k2)).run Try.prog wz = .ok (.string s2) wz := by rw [unhide HS2]; exact conv_row hSw.2 (unhide HT2)
            go_simp
            all_goals with_reducible rfl
          try simp only [Act.put, List.setIfInBounds_toArray, List.set_cons_zero, List.set_cons_succ]
          refine wpAnyH_take (i := 14) (v := ?_) opn14 (by kernel_rfl) (by kernel_rfl) (by kernel_rfl) (fun _ _ _ h => h) (Or.inl ⟨by rfl, ?_⟩) (by assumption) ?_
          rotate_left 1
          · intro wz hSw
            try dsimp only at hSw
            go_simp
            all_goals with_reducible rfl
          try simp only [Act.put, List.setIfInBounds_toArray, List.set_cons_zero, List.set_cons_succ]
          refine wpAnyH_take (i := 15) (v := ?_) opn15 (by kernel_rfl) (by kernel_rfl) (by kernel_rfl) (fun _ _ _ h => h) (Or.inl ⟨by rfl, ?_⟩) (by assumption) ?_
          rotate_left 1
          · intro wz hSw
            try dsimp only at hSw
            go_simp
            all_goals with_reducible rfl
          try simp only [Act.put, List.setIfInBounds_toArray, List.set_cons_zero, List.set_cons_succ]
          refine wpAnyH_take (i := 16) (v := ?_) opn16 (by kernel_rfl) (by kernel_rfl) (by kernel_rfl) (fun _ _ _ h => h) (Or.inl ⟨by rfl, ?_⟩) (by assumption) ?_
          rotate_left 1
          · intro wz hSw
            try dsimp only at hSw
            go_simp
            all_goals with_reducible rfl
          try simp only [Act.put, List.setIfInBounds_toArray, List.set_cons_zero, List.set_cons_succ]
          refine wpAnyH_take (i := 17) (v := ?_) opn17 (by kernel_rfl) (by kernel_rfl) (by kernel_rfl) (fun _ _ _ h => h) (Or.inl ⟨by rfl, ?_⟩) (by assumption) ?_
          rotate_left 1
          · intro wz hSw
            try dsimp only at hSw
            go_simp
            all_goals with_reducible rfl
          try simp only [Act.put, List.setIfInBounds_toArray, List.set_cons_zero, List.set_cons_succ]
          refine wpAnyH_take (i := 18) (v := ?_) opn18 (by kernel_rfl) (by kernel_rfl) (by kernel_rfl) (fun _ _ _ h => h) (Or.inl ⟨by rfl, ?_⟩) (by assumption) ?_
          rotate_left 1
          · intro wz hSw
            try dsimp only at hSw
            go_simp
            all_goals with_reducible rfl
          try simp only [Act.put, List.setIfInBounds_toArray, List.set_cons_zero, List.set_cons_succ]
          refine wpAnyH_take (i := 19) (v := ?_) opn19 (by kernel_rfl) (by kernel_rfl) (by kernel_rfl) (fun _ _ _ h => h) (Or.inl ⟨by rfl, ?_⟩) (by assumption) ?_
          rotate_left 1
          · intro wz hSw
            try dsimp only at hSw
            go_simp
            all_goals with_reducible rfl
          try simp only [Act.put, List.setIfInBounds_toArray, List.set_cons_zero, List.set_cons_succ]
          refine wpAnyH_take (i := 20) (v := ?_) opn20 (by kernel_rfl) (by kernel_rfl) (by kernel_rfl) (fun _ _ _ h => h) (Or.inl ⟨by rfl, ?_⟩) (by assumption) ?_
          rotate_left 1
          · intro wz hSw
            try dsimp only at hSw
            have hq := hSw.1.1.1.s1.ptr
            go_simp
            all_goals with_reducible rfl
          try simp only [Act.put, List.setIfInBounds_toArray, List.set_cons_zero, List.set_cons_succ]
          refine wpAnyH_take (i := 22) (v := ?_) opn22 (by kernel_rfl) (by kernel_rfl) (by kernel_rfl) (fun _ _ _ h => h) (Or.inl ⟨by rfl, ?_⟩) (by assumption) ?_
          rotate_left 1
          · intro wz hSw
            try dsimp only at hSw
            go_simp
            all_goals with_reducible rfl
          try simp only [Act.put, List.setIfInBounds_toArray, List.set_cons_zero, List.set_cons_succ]
          refine wpAnyH_take (i := 23) (v := ?_) opn23 (by kernel_rfl) (by kernel_rfl) (by kernel_rfl) (fun _ _ _ h => h) (Or.inl ⟨by rfl, ?_⟩) (by assumption) ?_
          rotate_left 1
          · intro wz hSw
            try dsimp only at hSw
            go_simp
            all_goals with_reducible rfl
          try simp only [Act.put, List.setIfInBounds_toArray, List.set_cons_zero, List.set_cons_succ]
          refine wpAnyH_take (i := 24) (v := ?_) opn24 (by kernel_rfl) (by kernel_rfl) (by kernel_rfl) (fun _ _ _ h => h) (Or.inl ⟨by rfl, ?_⟩) (by assumption) ?_
          rotate_left 1
          · intro wz hSw
            try dsimp only at hSw
            go_simp
            all_goals with_reducible rfl
          try simp only [Act.put, List.setIfInBounds_toArray, List.set_cons_zero, List.set_cons_succ]
          refine wpAnyH_take (i := 25) (v := ?_) opn25 (by kernel_rfl) (by kernel_rfl) (by kernel_rfl) (fun _ _ _ h => h) (Or.inl ⟨by rfl, ?_⟩) (by assumption) ?_
          rotate_left 1
          · intro wz hSw
            try dsimp only at hSw
            have hq := hSw.1.1.1.s2.ptr
            go_simp
            all_goals with_reducible rfl
          try simp only [Act.put, List.setIfInBounds_toArray, List.set_cons_zero, List.set_cons_succ]
          have hC := hHeld.1.1.2.2
          refine wpAnyH_ready (rs := [21]) (by kernel_rfl) (by simp) ?_
          refine AllReadyH.cons opn21 (fun K hK => ?_) AllReadyH.nil
          go_simp
          refine (Names_M hHeld.1.1.1.s1.files (unhide HM2)).mono ?_
          rintro e w20 ⟨g1, k3, rfl, o3, b20⟩
          have ho3 : w20.ownsRow 0 9 1 (.slice (some ⟨g1, 0, none⟩) M2 k3) M2 ((sNames (behind rlog)).map .string) := ownsRow_base o3 (Nat.zero_le _)
          refine hK.out _ _ ⟨⟨⟨hHeld.1.1.1.below b20, hHeld.1.1.2.1.trans (b20.mono hHeld.1.1.2.1.size), ⟨(b20.cell (p := ⟨wa.heap.size, 0, none⟩) (World.block_lt_of_cell? _ _ hC.1)).trans hC.1, (b20.cell (p := ⟨wa.heap.size, 1, none⟩) (World.block_lt_of_cell? _ _ hC.2.1)).trans hC.2.1, (b20.cell (p := ⟨wb.heap.size, 0, none⟩) (World.block_lt_of_cell? _ _ hC.2.2.1)).trans hC.2.2.1, (b20.cell (p := ⟨wb.heap.size, 1, none⟩) (World.block_lt_of_cell? _ _ hC.2.2.2)).trans hC.2.2.2⟩⟩, hHeld.1.2.below b20⟩, hHeld.2.below b20⟩ (fun hHeldN => ?_)
          clear hHeld hK K
          have hHeld := hHeldN
          clear hHeldN
          try simp only [Act.put, List.setIfInBounds_toArray, List.set_cons_zero, List.set_cons_succ]
          clear hC
          refine wpAnyH_ready (rs := [26]) (by kernel_rfl) (by simp) ?_
          refine AllReadyH.cons opn26 (fun K hK => ?_) AllReadyH.nil
          go_simp
          refine (Names_M hHeld.1.1.1.s2.files (unhide HM2)).mono ?_
          rintro e w21 ⟨g2, k4, rfl, o4, b21⟩
          have ho4 : w21.ownsRow 0 9 1 (.slice (some ⟨g2, 0, none⟩) M2 k4) M2 ((sNames (behind rlog)).map .string) := ownsRow_base o4 (Nat.zero_le _)
          have ho5 : w21.ownsRow 0 9 1 (.slice (some ⟨g1, 0, none⟩) M2 k3) M2 ((sNames (behind rlog)).map .string) := ownsRow_same ho3 (fun k h1 => b21.block k (ho3.lt k h1).2)
          refine hK.out _ _ ⟨⟨⟨hHeld.1.1.1.below b21, hHeld.1.1.2.1.trans (b21.mono hHeld.1.1.2.1.size), ⟨(b21.cell (p := ⟨wa.heap.size, 0, none⟩) (World.block_lt_of_cell? _ _ hHeld.1.1.2.2.1)).trans hHeld.1.1.2.2.1, (b21.cell (p := ⟨wa.heap.size, 1, none⟩) (World.block_lt_of_cell? _ _ hHeld.1.1.2.2.2.1)).trans hHeld.1.1.2.2.2.1, (b21.cell (p := ⟨wb.heap.size, 0, none⟩) (World.block_lt_of_cell? _ _ hHeld.1.1.2.2.2.2.1)).trans hHeld.1.1.2.2.2.2.1, (b21.cell (p := ⟨wb.heap.size, 1, none⟩) (World.block_lt_of_cell? _ _ hHeld.1.1.2.2.2.2.2)).trans hHeld.1.1.2.2.2.2.2⟩⟩, hHeld.1.2.below b21⟩, hHeld.2.below b21⟩ (fun hHeldN => ?_)
          clear hHeld hK K
          have hHeld := hHeldN
          clear hHeldN
          try simp only [Act.put, List.setIfInBounds_toArray, List.set_cons_zero, List.set_cons_succ]
          refine wpAnyH_ready (rs := [27]) (by kernel_rfl) (by simp) ?_
          refine AllReadyH.cons opn27 (fun K hK => ?_) AllReadyH.nil
          go_simp
          refine (SameTexts_any (some ⟨g1, 0, none⟩) (some ⟨g2, 0, none⟩) M2 M2 k3 k4 _ _ _ ho5 ho4 hM21000 hM21000).mono ?_
          rintro e w22 ⟨rfl, b22⟩
          rw [decide_eq_true (rfl : sNames (behind rlog) = sNames (behind rlog))]
          refine hK.out _ _ ⟨⟨⟨hHeld.1.1.1.below b22, hHeld.1.1.2.1.trans (b22.mono hHeld.1.1.2.1.size), ⟨(b22.cell (p := ⟨wa.heap.size, 0, none⟩) (World.block_lt_of_cell? _ _ hHeld.1.1.2.2.1)).trans hHeld.1.1.2.2.1, (b22.cell (p := ⟨wa.heap.size, 1, none⟩) (World.block_lt_of_cell? _ _ hHeld.1.1.2.2.2.1)).trans hHeld.1.1.2.2.2.1, (b22.cell (p := ⟨wb.heap.size, 0, none⟩) (World.block_lt_of_cell? _ _ hHeld.1.1.2.2.2.2.1)).trans hHeld.1.1.2.2.2.2.1, (b22.cell (p := ⟨wb.heap.size, 1, none⟩) (World.block_lt_of_cell? _ _ hHeld.1.1.2.2.2.2.2)).trans hHeld.1.1.2.2.2.2.2⟩⟩, hHeld.1.2.below b22⟩, hHeld.2.below b22⟩ (fun hHeldN => ?_)
          clear hHeld hK K
          have hHeld := hHeldN
          clear hHeldN
          try simp only [Act.put, List.setIfInBounds_toArray, List.set_cons_zero, List.set_cons_succ]
          refine wpAnyH_take (i := 28) (v := ?_) opn28 (by kernel_rfl) (by kernel_rfl) (by kernel_rfl) (fun _ _ _ h => h) (Or.inl ⟨by rfl, ?_⟩) (by assumption) ?_
          rotate_left 1
          · intro wz hSw
            try dsimp only at hSw
            go_simp
            all_goals with_reducible rfl
          try simp only [Act.put, List.setIfInBounds_toArray, List.set_cons_zero, List.set_cons_succ]
          refine wpAnyH_take (i := 29) (v := ?_) opn29 (by kernel_rfl) (by kernel_rfl) (by kernel_rfl) (fun _ _ _ h => h) (Or.inl ⟨by rfl, ?_⟩) (by assumption) ?_
          rotate_left 1
          · intro wz hSw
            try dsimp only at hSw
            go_simp
            all_goals with_reducible rfl
          try simp only [Act.put, List.setIfInBounds_toArray, List.set_cons_zero, List.set_cons_succ]
          refine wpAnyH_done (by kernel_rfl) ?_ _
          have HBF := hide ((unhide HB4).trans (hHeld.1.1.2.1.mono (unhide HB4).size))
          clear hHeld
          go_wp2
          go_ret
          exact ⟨rfl, unhide HBF⟩
      · have herb : (ee != 0) = true := by simpa using herr
        have hL1 : L1 = L := (unhide HTE) herr
        have hsN : sN = sW := by rw [unhide HSN, unhide HSW, hL1]
        subst hsN
        clear hL1 herr
        have HBF := hide ((unhide HB4).trans ((unhide HB15).mono (unhide HB4).size))
        go_wp2
        rw [← unhide HVa]
        go_ret
        exact ⟨rfl, unhide HBF⟩

end Go.Proofs.Ytlndphpidkacgaa

namespace Go.Proofs.Ytlndphpidkacgaa
open Go.ChangeShapes Go.WideShapes Go.ChangeAt Go.RowKit Go.Deep Go.Joins
set_option linter.unusedSimpArgs false
set_option linter.unusedVariables false

set_option maxRecDepth 100000 in
theorem storeTears_lifted (os : Os) (started : os.Started) (H : Type) (enc : TypeId × Value → H) :
    ReturnsInHanded {} Try.checked os 13 .any (Rows.storeTearsSpec.pre6 enc Try.prog Try.f13 Rows.storeTearsRow.domain false) (Rows.storeTearsSpec.post enc Try.prog Try.f13 false true false false) := by
  refine returnsInHanded_of_change (C := Try.checked) own0 started (by kernel_rfl) Try.func13
    (ChangeSpec.witness6 (enc := enc) (C := Try.checked) false ⟨#[], #[.slice none 0 0, .agg #[.int .i64 0, .int .i64 0, .int .i64 0, .int .i64 0, .int .i64 0, .string ByteArray.empty, .string ByteArray.empty, .string ByteArray.empty]], []⟩ 8 (by kernel_rfl) (by kernel_rfl) (by kernel_rfl) (by kernel_rfl)) ?_
  intro W base args ds gs before hval0 hW hcnd _
  have hval : ∀ (j : Nat) t v, Try.f13.params[j]? = some t → args[j]? = some v → Value.okWide Try.prog W .any base t v := hval0
  have hW' := hW
  obtain ⟨p, q, hA0, hV, rfl, hfz, hnd⟩ := hW
  have hA : DataW.TrodAll enc Try.prog W 0 (fun _ => true) true Try.f13.params.toList args.toList ds p := hA0
  rw [Try.params13] at hA hval
  obtain ⟨v0, vs0, d0, ds0, p0, q0, hargs, rfl, rfl, h0, r0⟩ := trodAll_cons hA
  obtain ⟨v1, vs1, d1, ds1, p1, q1, rfl, rfl, rfl, h1, r1⟩ := trodAll_cons r0
  obtain ⟨rfl, rfl, rfl⟩ := trodAll_nil r1
  obtain rfl : args = #[v0, v1] := by cases args; simp_all
  obtain ⟨rfl, rfl⟩ := trodVars_none hV
  have k0 := h0
  have lt0 : ∀ x ∈ p0, x.block < W.heap.size := by obtain ⟨m, hm⟩ := k0; exact DataW.trod_lt m _ _ _ hm
  have k1 := h1
  have lt1 : ∀ x ∈ p1, x.block < W.heap.size := by obtain ⟨m, hm⟩ := k1; exact DataW.trod_lt m _ _ _ hm
  obtain ⟨a0, len0, cap0, rfl⟩ := okWide_slice Try.underlying65 (hval 0 65 v0 rfl rfl)
  obtain ⟨ss0, c01⟩ : ∃ ss : List AStep, StepsAt W a0 len0 ss := by
    obtain ⟨fuel, hf⟩ := h0
    exact open_steps hf
  obtain ⟨x1, rfl, c11, c12, c13⟩ := open_stepv (hval 1 81 v1 rfl rfl) h1
  clear hA0 hval0
  refine (tears_walk a0 len0 cap0 ss0 x1 W c01 c11 c12 c13).mono fun e W' ⟨he, bel⟩ => ?_
  subst he
  exact ⟨_, rfl, _, _, _, [], _, [], hW', trodAll_mk1 (shut_bool Try.underlying4 _), (trodAll_cons_mk (Below.trod laidOut0 (by kernel_rfl) (of_decide_eq_true (by kernel_rfl)) k0 bel lt0) (trodAll_cons_mk (Below.trod laidOut0 (by kernel_rfl) (of_decide_eq_true (by kernel_rfl)) k1 bel lt1) trodAll_mk0)), rfl, bel.frame _, fun h => by cases h⟩

theorem storeTears_over : Rows.storeTearsRow.holds Try.pinned (OpenSpec.ofChange Rows.storeTearsSpec) :=
  OpenClaim.holds_of_wide 13 Try.f13 rfl rfl rfl rfl rfl rfl rfl ⟨rfl, rfl, rfl, rfl, rfl⟩ rfl rfl rfl rfl rfl (by kernel_rfl) Try.func13 (by kernel_rfl)
    (of_decide_eq_true (by kernel_rfl)) (by unfold Func.isWrapper; first | (rw [if_pos (by decide +kernel)]; kernel_rfl) | (rw [if_neg (by decide +kernel)]; exact ⟨rfl, rfl⟩))
    (fun os started H enc _ => storeTears_lifted os started H enc)

theorem storeTears_holds : Rows.StoreTearsSaid := storeTears_over
#print axioms storeTears_holds

end Go.Proofs.Ytlndphpidkacgaa

