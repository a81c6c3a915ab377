/- ClientAgain: the walk. -/
import Derived.Test.YtfpommjolbipmabKr
namespace Go.Proofs.Ytfpommjolbipmab
open Go.RowKit
set_option linter.unusedSimpArgs false
set_option linter.unusedVariables false

theorem yields_bin {a : Act} {o : Oper} {t2 : TypeId} {x y : Operand} {u u' v : Value} {wz : World} (ho : o.op = .binOp .eql 33 x y t2) (hx : a.eval x = u) (hy : a.eval y = u') (hq : (binOp .eql 33 u u').run Try.prog wz = .ok v wz) (hg : (eqGuard .eql 33 x y u u').run Try.prog wz = .ok () wz) : (execOp a.eval o).run Try.prog wz = .ok (.value v) wz := by
  unfold execOp
  simp [ho, hx, hy, hq, hg]
theorem guardP (x y : Operand) (c c' : Array Value) (wz : World) : (eqGuard .eql 33 x y (.agg c) (.agg c')).run Try.prog wz = .ok () wz := by
  unfold eqGuard
  simp [Try.eqGuardType33]
theorem neq32s (c : ACall) (w : World) : (binOp .neq 29 (.agg (callCells c)) (.agg (callCells c))).run Try.prog w = .ok (.bool false) w := by
  have h := equal32 9998 c c w
  have e : (c.kind == c.kind && c.name.toList == c.name.toList && c.dst.toList == c.dst.toList && c.text.toList == c.text.toList) = true := callB_self c
  rw [e] at h
  rw [run_neq_struct, h]
  rfl
theorem ask_busy {c : ACli} (h : c.op = true) (y : ACall) : c.ask y ≠ 0 := by
  unfold ACli.ask
  by_cases h1 : checkI y ≠ 0
  · rw [if_pos h1]; exact h1
  · rw [if_neg h1, if_pos h]; omega
theorem asked_not {c : ACli} {y : ACall} (h : c.ask y ≠ 0) : c.asked y = c := by unfold ACli.asked; rw [if_neg h]
theorem ask_free {c : ACli} {x : ACall} (h : c.ask x = 0) : c.op = false := by
  cases h1 : c.op
  · rfl
  · exact absurd h (ask_busy h1 x)

set_option maxRecDepth 100000 in
set_option maxHeartbeats 8000000 in
theorem kagain_walk (me : Int) (a0 : Option Addr) (n0 c0 : Nat) (ls : List AKStep) (x y : ACall) (w : World) (hl : KStepsAt w a0 n0 ls) (hx : SmallC x) (hy : SmallC y) :
    Calls Try.prog 8 #[.int .i64 me, .slice a0 n0 c0, .agg #[.int .i64 x.kind, .string x.name, .string x.dst, .string x.text], .agg #[.int .i64 y.kind, .string y.name, .string y.dst, .string y.text]] w fun e w' => e = .returned (.bool true) ∧ Below w.heap.size w w' := by
  have HBG := hide clientBegun_any
  have HL := hide hl
  have hn0 := hl.2.1
  unfold maxLen at hn0
  have HGR := hide (fun W (hb : Below w.heap.size w W) => greatClient_any a0 n0 c0 ls W (hl.below hb))
  obtain ⟨r1, hg1⟩ := greatCall_fix x
  obtain ⟨r2, hg2⟩ := greatCall_fix y
  have HG1 := hide hg1
  have HG2 := hide hg2
  have HSX := hide hx
  have HSY := hide hy
  have eX := fun W => neq32s x W
  obtain ⟨X0, hX0⟩ : ∃ X, X = x := ⟨_, rfl⟩
  obtain ⟨Y0, hY0⟩ : ∃ Y, Y = y := ⟨_, rfl⟩
  have HX0 := hide hX0
  have HY0 := hide hY0
  clear hl hx hy hg1 hg2 hX0 hY0
  obtain ⟨xk, xa, xb, xt⟩ := x
  obtain ⟨yk, ya, yb, yt⟩ := y
  dsimp only [callCells] at *
  obtain ⟨V, hV⟩ : ∃ V, V = (w.alloc (.cells #[.int .i64 xk, .string xa, .string xb, .string xt] 29)).alloc (.cells #[.int .i64 yk, .string ya, .string yb, .string yt] 29) := ⟨_, rfl⟩
  have hbV : Below w.heap.size w V := by rw [hV]; exact ((Below.refl _ _).alloc (Nat.le_refl _) _).alloc (by simp) _
  have hxV : V.heap[w.heap.size]? = some (.cells #[.int .i64 xk, .string xa, .string xb, .string xt] 29 (0, 0)) := by rw [hV, Below.heap_alloc _ _ _ (by simp)]; exact heap_alloc_new _ _
  have hyV : V.heap[w.heap.size + 1]? = some (.cells #[.int .i64 yk, .string ya, .string yb, .string yt] 29 (0, 0)) := by
    rw [hV]
    have := heap_alloc_new (w.alloc (.cells #[.int .i64 xk, .string xa, .string xb, .string xt] 29)) (.cells #[.int .i64 yk, .string ya, .string yb, .string yt] 29)
    rw [al_size] at this
    exact this
  have HBV := hide hbV
  have HXV : Hid (∀ W, Below V.heap.size V W → W.heap[w.heap.size]? = some (.cells #[.int .i64 xk, .string xa, .string xb, .string xt] 29 (0, 0)) ∧ W.heap[w.heap.size + 1]? = some (.cells #[.int .i64 yk, .string ya, .string yb, .string yt] 29 (0, 0))) := fun W hW => ⟨(hW.block _ (Array.getElem?_eq_some_iff.1 hxV).1).trans hxV, (hW.block _ (Array.getElem?_eq_some_iff.1 hyV).1).trans hyV⟩
  have HV := hide hV
  have hzV : V.heap.size = w.heap.size + 1 + 1 := by rw [hV]; simp
  clear hbV hxV hyV hV
  go_enter Try.func8, Try.ntmps8
  go_wp2_with fail
  rw [← unhide HV]
  refine ((unhide HBG) _).mono ?_
  rintro e w1 ⟨rfl, b1⟩
  have HB1 := hide b1
  have HBw1 := hide ((unhide HBV).trans (b1.mono (unhide HBV).size))
  clear b1
  go_wp2_with fail
  refine ((unhide HGR) _ (unhide HBw1)).mono ?_
  rintro e wa ⟨⟨rg, rfl⟩, ba⟩
  have bVa := (unhide HB1).trans (ba.mono (unhide HB1).size)
  have HBa := hide bVa
  have HBwa := hide ((unhide HBV).trans (bVa.mono (unhide HBV).size))
  cases rg
  rotate_left 1
  · clear ba bVa
    go_wp2
    go_ret
    exact ⟨rfl, unhide HBwa⟩
  obtain ⟨hxa, hya⟩ := (unhide HXV) wa bVa
  obtain ⟨g0, g1, g2, g3, _⟩ := four hxa
  clear ba bVa hxa hya
  go_wp2_with fail
  refine ((unhide HG1) _).mono ?_
  rintro e wb ⟨rfl, bb⟩
  have bVb := (unhide HBa).trans (bb.mono (unhide HBa).size)
  have HBwb := hide ((unhide HBV).trans (bVb.mono (unhide HBV).size))
  have HBb := hide bVb
  obtain ⟨hxb, hyb⟩ := (unhide HXV) wb bVb
  obtain ⟨j0, j1, j2, j3, _⟩ := four hyb
  clear bb bVb hxb hyb g0 g1 g2 g3
  cases r1
  rotate_left 1
  · go_wp2
    go_ret
    exact ⟨rfl, unhide HBwb⟩
  go_wp2_with fail
  refine ((unhide HG2) _).mono ?_
  rintro e w2 ⟨rfl, b2⟩
  have bV2 := (unhide HBb).trans (b2.mono (unhide HBb).size)
  have HB2 := hide ((unhide HBV).trans (bV2.mono (unhide HBV).size))
  have HBV2 := hide bV2
  clear b2 bV2 j0 j1 j2 j3
  cases r2
  rotate_left 1
  · go_wp2
    go_ret
    exact ⟨rfl, unhide HB2⟩
  by_cases hme : me < 0 ∨ 3 ≤ me
  · have HNW := hide (New_none me w2 hme)
    go_wp2_with fail
    refine (unhide HNW).mono ?_
    rintro e w3 ⟨rfl, hw3⟩
    obtain rfl := hw3.symm
    clear hw3
    by_cases h0 : me < 0
    · clear hme
      go_wp2
      go_ret
      exact ⟨rfl, unhide HB2⟩
    · have h3 : (3 : Int) ≤ me := by omega
      clear hme
      go_wp2
      go_ret
      exact ⟨rfl, unhide HB2⟩
  have HNW := hide (New_some me w2 hme)
  go_wp2_with fail
  refine (unhide HNW).mono ?_
  rintro e w3 ⟨rfl, rfl⟩
  have h0 : ¬ me < 0 := by omega
  have h3 : ¬ (3 : Int) ≤ me := by omega
  clear hme
  have HK0 := hide (KG.start me w2)
  have HB3 : Hid (Below w2.heap.size w2 ((w2.alloc (.cells #[.int .i64 me, .slice none 0 0, .int .i64 0, .string ⟨#[]⟩, .string ⟨#[]⟩, .string ⟨#[]⟩, .bool false] 73)).alloc (.cells #[.int .i64 me, .int .i64 0, .int .i64 0, .string ⟨#[]⟩, .string ⟨#[]⟩, .string ⟨#[]⟩, .bool false, .slice none 0 0] 53))) := ((Below.refl _ _).alloc (Nat.le_refl _) _).alloc (by simp) _
  have hzw : w.heap.size ≤ w2.heap.size := (unhide HB2).size
  have hzV2 : V.heap.size ≤ w2.heap.size := (unhide HBV2).size
  obtain ⟨Y, hY⟩ : ∃ Y, Y = w2.heap.size + 1 := ⟨_, rfl⟩
  rw [← hY] at HK0
  go_wp2_with fail
  rw [← hY]
  clear hY
  go_loopw [11] (fun i wr => ∃ (q : Nat) (v u : Value) (c : ACli) (y : ACall), q ≤ n0 ∧ i = .int .i64 (q : Int) ∧ Hid (KG w2.heap.size wr w2.heap.size v c Y u c y) ∧ Hid (Below w2.heap.size w2 wr)) (fun i _ => n0 - (intOf i).toNat)
  case atStart => exact ⟨0, _, _, _, _, Nat.zero_le _, rfl, unhide HK0, unhide HB3⟩
  case round =>
    obtain ⟨q, v, u, c, yy, hq, rfl, HK, HB⟩ := hrel
    have HBw := hide ((unhide HB2).trans ((unhide HB).mono hzw))
    by_cases hlt : (q : Int) < (n0 : Int)
    · obtain ⟨s, hs⟩ : ∃ s, ls[q]? = some s := ⟨_, List.getElem?_eq_getElem (by rw [(unhide HL).1]; omega)⟩
      obtain ⟨b, off, rfl, hc⟩ := ((unhide HL).below (unhide HBw)).2.2.2 (by omega)
      obtain ⟨e0, e1, e2, e3, e4, e5, e6, e7, e8, e9, e10, e11, e12, e13, e14, e15⟩ := hc q s hs
      have hsz := (unhide HL).2.2.1 s (List.mem_of_getElem? hs)
      have HST := hide (clientStep_any (unhide HK) s hsz)
      have hqi : (0 : Int) ≤ (q : Int) := by omega
      obtain ⟨c2, hc2⟩ : ∃ c2, c.step s = c2 := ⟨_, rfl⟩
      rw [hc2] at HST
      clear hc hs hsz hc2
      obtain ⟨act, ⟨ck, ca, cb, ct⟩, ⟨r, pc, pn, ⟨pk, s1, s2, s3⟩, d, u2⟩, ad, au⟩ := s
      dsimp only [AKStep.val] at *
      go_wp2_with fail
      refine (unhide HST).mono ?_
      rintro e w4 ⟨rfl, y4, hT⟩
      have hb4 := KGT.below (unhide HK) hT
      obtain ⟨v4, u4, h4, _, _⟩ := hT
      have HK4 := hide h4
      have HB4 := hide ((unhide HB).trans hb4)
      clear h4 hb4 e0 e1 e2 e3 e4 e5 e6 e7 e8 e9 e10 e11 e12 e13 e14 e15
      go_wp2
      go_roundw
      case rel => exact ⟨q + 1, v4, u4, c2, y4, by omega, by go_num, unhide HK4, unhide HB4⟩
      case measure => simp [intOf]; omega
    · have HKK := hide (unhide HK).k
      have HBV3 := hide ((unhide HBV2).trans ((unhide HB).mono hzV2))
      have HS1 := hide (Send_any (unhide HKK))
      have eW := fun W => eqlP c.pkt c.pkt W
      rw [pktB_self] at eW
      clear HK
      obtain ⟨m, hm⟩ : ∃ m, c.pkt = m := ⟨_, rfl⟩
      rw [hm] at HS1 eW
      have HM := hide hm
      obtain ⟨op, hop⟩ : ∃ o, c.op = o := ⟨_, rfl⟩
      rw [hop] at HS1
      have HOP := hide hop
      obtain ⟨mr, mc, mn, ⟨mk, m1, m2, m3⟩, md, mu⟩ := m
      dsimp only [APkt.val] at HS1 eW
      clear hm hop
      go_wp2_with fail
      refine (unhide HS1).mono ?_
      rintro e w5 ⟨rfl, b5⟩
      obtain ⟨W5, hW5⟩ : ∃ W, W = w5.alloc (.cells #[.bool mr, .int .i64 mc, .int .i64 mn, .int .i64 mk, .string m1, .string m2, .string m3, .int .i64 md, .string mu] 33) := ⟨_, rfl⟩
      have hB5 : Below wr.heap.size wr W5 := by rw [hW5]; exact b5.alloc b5.size _
      have hP5 : W5.heap[w5.heap.size]? = some (.cells #[.bool mr, .int .i64 mc, .int .i64 mn, .int .i64 mk, .string m1, .string m2, .string m3, .int .i64 md, .string mu] 33 (0, 0)) := by rw [hW5]; exact heap_alloc_new _ _
      have hz5 := b5.size
      have hK5 := (unhide HKK).below hB5
      have hn5 : w5.heap.size ∉ powns w2.heap.size v := fun hm => by have := ((unhide HKK).o.ge _ hm).2; omega
      have hBV5 := (unhide HBV3).trans (hB5.mono (unhide HBV3).size)
      obtain ⟨hxx, _⟩ := (unhide HXV) W5 hBV5
      obtain ⟨hxa, hya⟩ := (unhide HXV) w5 ((unhide HBV3).trans (b5.mono (unhide HBV3).size))
      obtain ⟨g0, g1, g2, g3, _⟩ := four hxa
      have hxl : w.heap.size < w5.heap.size := (Array.getElem?_eq_some_iff.1 hxa).1
      have HC5 := hide (Call_any hK5 X0 (by rw [unhide HX0]; exact unhide HSX))
      rw [unhide HX0] at HC5
      dsimp only at HC5
      have HK5 := hide hK5
      have HP5 := hide hP5
      have HN5 := hide hn5
      have HB5 := hide ((unhide HBw).trans (hB5.mono (unhide HBw).size))
      have HBV5 := hide hBV5
      have HW5 := hide hW5
      have hl5 : w5.heap.size < W5.heap.size := (Array.getElem?_eq_some_iff.1 hP5).1
      obtain ⟨ak, hak⟩ : ∃ a, c.ask ⟨xk, xa, xb, xt⟩ = a := ⟨_, rfl⟩
      rw [hak] at HC5
      have HAK := hide hak
      clear b5 hB5 hP5 hW5 hK5 hn5 hBV5 hxx hxa hya hak
      go_wp2_with fail
      rw [← unhide HW5]
      refine (unhide HC5).mono ?_
      rintro e w6 ⟨rfl, hT6⟩
      have hP6 := (hT6.blk hl5 (unhide HN5)).trans (unhide HP5)
      have hb6 := hT6.below (unhide HK5).o
      obtain ⟨v6, hr6, hn6⟩ := hT6.rep ((unhide HK5).ok.asked (by have := unhide HSX; exact this))
      clear g0 g1 g2 g3
      by_cases hz : ak = 0
      · subst hz
        have hop0 := ask_free (unhide HAK)
        have hopf : op = false := (unhide HOP).symm.trans hop0
        subst hopf
        have hc1 : c.asked ⟨xk, xa, xb, xt⟩ = ⟨c.me, c.done, ⟨xk, xa, xb, xt⟩, true⟩ := by unfold ACli.asked; rw [if_pos (unhide HAK)]
        rw [hc1] at hr6
        have HS6 := hide (Send_some hr6 rfl)
        have HKR6 := hide hr6
        have HBw6 := hide ((unhide HB5).trans (hb6.mono hzw))
        have HBV6 := hide ((unhide HBV5).trans (hb6.mono hzV2))
        obtain ⟨n, hn⟩ : ∃ n, c.done.length = n := ⟨_, rfl⟩
        have hn200 : n ≤ 200 := by rw [← hn]; exact hr6.ok.few
        have hno : (⟨c.me, c.done, ⟨xk, xa, xb, xt⟩, true⟩ : ACli).no = (n : Int) + 1 := by unfold ACli.no; rw [← hn]
        rw [hno] at HS6
        have HNL := hide hn
        dsimp only [APkt.val] at HS6
        generalize c.me = me2 at *
        clear hT6 hr6 hn6 hP6 hb6 hc1 hop0 hno hn
        go_wp2_with fail
        refine (unhide HS6).mono ?_
        rintro e w7 ⟨rfl, b7⟩
        obtain ⟨W7, hW7⟩ : ∃ W, W = w7.alloc (.cells #[.bool false, .int .i64 me2, .int .i64 ((n : Int) + 1), .int .i64 xk, .string xa, .string xb, .string xt, .int .i64 0, .string ⟨#[]⟩] 33) := ⟨_, rfl⟩
        have hB7 : Below w6.heap.size w6 W7 := by rw [hW7]; exact b7.alloc b7.size _
        have hP7 : W7.heap[w7.heap.size]? = some (.cells #[.bool false, .int .i64 me2, .int .i64 ((n : Int) + 1), .int .i64 xk, .string xa, .string xb, .string xt, .int .i64 0, .string ⟨#[]⟩] 33 (0, 0)) := by rw [hW7]; exact heap_alloc_new _ _
        have hz7 := b7.size
        have hK7 := (unhide HKR6).below hB7
        have hn7 : w7.heap.size ∉ powns w2.heap.size v6 := fun hm => by have := ((unhide HKR6).o.ge _ hm).2; omega
        have hBV7 := (unhide HBV6).trans (b7.mono (unhide HBV6).size)
        obtain ⟨hxa, hya⟩ := (unhide HXV) w7 hBV7
        obtain ⟨g0, g1, g2, g3, _⟩ := four hxa
        obtain ⟨j0, j1, j2, j3, _⟩ := four hya
        have hxl7 : w.heap.size < w7.heap.size := (Array.getElem?_eq_some_iff.1 hxa).1
        have hyl7 : w.heap.size + 1 < w7.heap.size := (Array.getElem?_eq_some_iff.1 hya).1
        have hC7 := Call_any hK7 Y0 (by rw [unhide HY0]; exact unhide HSY)
        have hb0 := ask_busy (c := ⟨me2, c.done, ⟨xk, xa, xb, xt⟩, true⟩) rfl Y0
        rw [asked_not hb0] at hC7
        rw [unhide HY0] at hC7 hb0
        dsimp only at hC7
        generalize (⟨me2, c.done, ⟨xk, xa, xb, xt⟩, true⟩ : ACli).ask ⟨yk, ya, yb, yt⟩ = ak2 at hC7 hb0
        have hakz : (ak2 == 0) = false := by simpa using hb0
        have HC7 := hide hC7
        have HK7 := hide hK7
        have HP7 := hide hP7
        have HN7 := hide hn7
        have HB7 := hide ((unhide HBw6).trans (hB7.mono (unhide HBw6).size))
        have HW7 := hide hW7
        have hl7 : w7.heap.size < W7.heap.size := (Array.getElem?_eq_some_iff.1 hP7).1
        clear b7 hB7 hP7 hW7 hK7 hn7 hBV7 hxa hya hC7 hb0
        go_wp2_with fail
        rw [← unhide HW7]
        refine (unhide HC7).mono ?_
        rintro e w8 ⟨rfl, hT8⟩
        clear g0 g1 g2 g3 j0 j1 j2 j3
        have hP8 := (hT8.blk hl7 (unhide HN7)).trans (unhide HP7)
        have hb8 := hT8.below (unhide HK7).o
        obtain ⟨v8, hr8, _⟩ := hT8.rep (unhide HK7).ok
        have HS8 := hide (Send_some hr8 rfl)
        have hno : (⟨me2, c.done, ⟨xk, xa, xb, xt⟩, true⟩ : ACli).no = (n : Int) + 1 := by unfold ACli.no; rw [← unhide HNL]
        rw [hno] at HS8
        dsimp only [APkt.val] at HS8
        have HK8 := hide hr8
        have HP8 := hide hP8
        have hl8 : w7.heap.size < w8.heap.size := (Array.getElem?_eq_some_iff.1 hP8).1
        have HB8 := hide ((unhide HB7).trans (hb8.mono hzw))
        clear hT8 hr8 hP8 hb8 hno
        go_wp2_with fail
        refine (unhide HS8).mono ?_
        rintro e w9 ⟨rfl, b9⟩
        obtain ⟨W9, hW9⟩ : ∃ W, W = w9.alloc (.cells #[.bool false, .int .i64 me2, .int .i64 ((n : Int) + 1), .int .i64 xk, .string xa, .string xb, .string xt, .int .i64 0, .string ⟨#[]⟩] 33) := ⟨_, rfl⟩
        have hB9 : Below w8.heap.size w8 W9 := by rw [hW9]; exact b9.alloc b9.size _
        have hQ9 : W9.heap[w9.heap.size]? = some (.cells #[.bool false, .int .i64 me2, .int .i64 ((n : Int) + 1), .int .i64 xk, .string xa, .string xb, .string xt, .int .i64 0, .string ⟨#[]⟩] 33 (0, 0)) := by rw [hW9]; exact heap_alloc_new _ _
        have hP9 := (hB9.block _ hl8).trans (unhide HP8)
        have hK9 := (unhide HK8).below hB9.drew
        have HO9 := hide (Open_any hK9)
        have HD9 := hide (Done_any hK9 (unhide HNL))
        have HPQ := hide (And.intro hP9 hQ9)
        have HB9 := hide ((unhide HB8).trans (hB9.drew.mono (unhide HB8).size))
        have HW9 := hide hW9
        have hlp9 : w7.heap.size < W9.heap.size := (Array.getElem?_eq_some_iff.1 hP9).1
        have hlq9 : w9.heap.size < W9.heap.size := (Array.getElem?_eq_some_iff.1 hQ9).1
        have eQ := fun W => eqlP ⟨false, me2, (n : Int) + 1, ⟨xk, xa, xb, xt⟩, 0, ⟨#[]⟩⟩ ⟨false, me2, (n : Int) + 1, ⟨xk, xa, xb, xt⟩, 0, ⟨#[]⟩⟩ W
        rw [pktB_self] at eQ
        dsimp only [APkt.val] at eQ
        have hw1 : IntKind.i64.wrap ((n : Int) + 1 - 1) = (n : Int) := by rw [IntKind.wrap_i64]; omega
        have hw2 : IntKind.i64.wrap (n : Int) = (n : Int) := by rw [IntKind.wrap_i64]; omega
        clear b9 hB9 hQ9 hP9 hK9 hW9
        go_wp2_with fail
        rw [← unhide HW9]
        refine wp_region_held_drew (S := (fun wx => wx.heap[w7.heap.size]? = some (.cells #[.bool false, .int .i64 me2, .int .i64 ((n : Int) + 1), .int .i64 xk, .string xa, .string xb, .string xt, .int .i64 0, .string ⟨#[]⟩] 33 (0, 0)) ∧ wx.heap[w9.heap.size]? = some (.cells #[.bool false, .int .i64 me2, .int .i64 ((n : Int) + 1), .int .i64 xk, .string xa, .string xb, .string xt, .int .i64 0, .string ⟨#[]⟩] 33 (0, 0)))) (by kernel_rfl) (unhide HPQ) (fun hHeld => ?_)
        refine wpAnyH_take (i := 0) (v := ?_) opn0 (by kernel_rfl) (by kernel_rfl) (by kernel_rfl) (fun _ _ _ h => h) (Or.inl ⟨by kernel_rfl, ?_⟩) (by assumption) ?_
        rotate_left 1
        · intro wz hSw
          try dsimp only at hSw
          go_simp
          all_goals with_reducible rfl
        try simp only [Act.put, List.setIfInBounds_toArray, List.set_cons_zero, List.set_cons_succ]
        refine wpAnyH_take (i := 1) (v := ?_) opn1 (by kernel_rfl) (by kernel_rfl) (by kernel_rfl) (fun _ _ _ h => h) (Or.inl ⟨by kernel_rfl, ?_⟩) (by assumption) ?_
        rotate_left 1
        · intro wz hSw
          try dsimp only at hSw
          go_simp
          all_goals with_reducible rfl
        try simp only [Act.put, List.setIfInBounds_toArray, List.set_cons_zero, List.set_cons_succ]
        refine wpAnyH_take (i := 2) (v := ?_) opn2 (by kernel_rfl) (by kernel_rfl) (by kernel_rfl) (fun _ _ _ h => h) (Or.inl ⟨by kernel_rfl, ?_⟩) (by assumption) ?_
        rotate_left 1
        · intro wz hSw
          try dsimp only at hSw
          obtain ⟨⟨z0, z1, z2, z3⟩, ⟨z4, z5, z6, z7, z8⟩, _⟩ := nine hSw.2
          go_simp
          all_goals with_reducible rfl
        try simp only [Act.put, List.setIfInBounds_toArray, List.set_cons_zero, List.set_cons_succ]
        refine wpAnyH_take (i := 3) (v := ?_) opn3 (by kernel_rfl) (by kernel_rfl) (by kernel_rfl) (fun _ _ _ h => h) (Or.inl ⟨by kernel_rfl, ?_⟩) (by assumption) ?_
        rotate_left 1
        · intro wz hSw
          try dsimp only at hSw
          obtain ⟨⟨z0, z1, z2, z3⟩, ⟨z4, z5, z6, z7, z8⟩, _⟩ := nine hSw.1
          go_simp
          all_goals with_reducible rfl
        try simp only [Act.put, List.setIfInBounds_toArray, List.set_cons_zero, List.set_cons_succ]
        refine wpAnyH_take (i := 4) (v := .bool true) opn4 (by kernel_rfl) (by kernel_rfl) (by kernel_rfl) (fun _ _ _ h => h) (Or.inl ⟨by kernel_rfl, ?_⟩) (by assumption) ?_
        · intro wz hSw
          exact yields_bin rfl (by simp [Act.eval]) (by simp [Act.eval]) (eQ wz) (guardP _ _ _ _ wz)
        try simp only [Act.put, List.setIfInBounds_toArray, List.set_cons_zero, List.set_cons_succ]
        refine wpAnyH_take (i := 5) (v := ?_) opn5 (by kernel_rfl) (by kernel_rfl) (by kernel_rfl) (fun _ _ _ h => h) (Or.inl ⟨by kernel_rfl, ?_⟩) (by assumption) ?_
        rotate_left 1
        · intro wz hSw
          try dsimp only at hSw
          go_simp
          all_goals with_reducible rfl
        try simp only [Act.put, List.setIfInBounds_toArray, List.set_cons_zero, List.set_cons_succ]
        refine wpAnyH_take (i := 6) (v := ?_) opn6 (by kernel_rfl) (by kernel_rfl) (by kernel_rfl) (fun _ _ _ h => h) (Or.inl ⟨by kernel_rfl, ?_⟩) (by assumption) ?_
        rotate_left 1
        · intro wz hSw
          try dsimp only at hSw
          go_simp
          all_goals with_reducible rfl
        try simp only [Act.put, List.setIfInBounds_toArray, List.set_cons_zero, List.set_cons_succ]
        refine wpAnyH_take (i := 7) (v := ?_) opn7 (by kernel_rfl) (by kernel_rfl) (by kernel_rfl) (fun _ _ _ h => h) (Or.inl ⟨by kernel_rfl, ?_⟩) (by assumption) ?_
        rotate_left 1
        · intro wz hSw
          try dsimp only at hSw
          go_simp
          all_goals with_reducible rfl
        try simp only [Act.put, List.setIfInBounds_toArray, List.set_cons_zero, List.set_cons_succ]
        refine wpAnyH_ready (rs := [8]) (by kernel_rfl) (by simp) ?_
        refine AllReadyH.cons opn8 (fun K hK => ?_) AllReadyH.nil
        rw [if_pos (by kernel_rfl)]
        go_simp
        refine (unhide HO9).mono ?_
        rintro e w10 ⟨rfl, hw10⟩
        obtain rfl := hw10.symm
        clear hw10
        refine hK.out _ _ hHeld (fun hHeldN => ?_)
        clear hHeld hK K
        have hHeld := hHeldN
        clear hHeldN
        try simp only [Act.put, List.setIfInBounds_toArray, List.set_cons_zero, List.set_cons_succ]
        refine wpAnyH_take (i := 9) (v := ?_) opn9 (by kernel_rfl) (by kernel_rfl) (by kernel_rfl) (fun _ _ _ h => h) (Or.inl ⟨by kernel_rfl, ?_⟩) (by assumption) ?_
        rotate_left 1
        · intro wz hSw
          try dsimp only at hSw
          go_simp
          all_goals with_reducible rfl
        try simp only [Act.put, List.setIfInBounds_toArray, List.set_cons_zero, List.set_cons_succ]
        refine wpAnyH_take (i := 10) (v := ?_) opn10 (by kernel_rfl) (by kernel_rfl) (by kernel_rfl) (fun _ _ _ h => h) (Or.inl ⟨by kernel_rfl, ?_⟩) (by assumption) ?_
        rotate_left 1
        · intro wz hSw
          try dsimp only at hSw
          go_simp
          all_goals with_reducible rfl
        try simp only [Act.put, List.setIfInBounds_toArray, List.set_cons_zero, List.set_cons_succ]
        refine wpAnyH_take (i := 11) (v := ?_) opn11 (by kernel_rfl) (by kernel_rfl) (by kernel_rfl) (fun _ _ _ h => h) (Or.inl ⟨by kernel_rfl, ?_⟩) (by assumption) ?_
        rotate_left 1
        · intro wz hSw
          try dsimp only at hSw
          go_simp
          all_goals with_reducible rfl
        try simp only [Act.put, List.setIfInBounds_toArray, List.set_cons_zero, List.set_cons_succ]
        refine wpAnyH_take (i := 14) (v := ?_) opn14 (by kernel_rfl) (by kernel_rfl) (by kernel_rfl) (fun _ _ _ h => h) (Or.inl ⟨by kernel_rfl, ?_⟩) (by assumption) ?_
        rotate_left 1
        · intro wz hSw
          try dsimp only at hSw
          go_simp
          all_goals with_reducible rfl
        try simp only [Act.put, List.setIfInBounds_toArray, List.set_cons_zero, List.set_cons_succ]
        refine wpAnyH_take (i := 15) (v := ?_) opn15 (by kernel_rfl) (by kernel_rfl) (by kernel_rfl) (fun _ _ _ h => h) (Or.inl ⟨by kernel_rfl, ?_⟩) (by assumption) ?_
        rotate_left 1
        · intro wz hSw
          try dsimp only at hSw
          obtain ⟨⟨z0, z1, z2, z3⟩, ⟨z4, z5, z6, z7, z8⟩, _⟩ := nine hSw.1
          go_simp
          all_goals with_reducible rfl
        try simp only [Act.put, List.setIfInBounds_toArray, List.set_cons_zero, List.set_cons_succ]
        refine wpAnyH_take (i := 16) (v := ?_) opn16 (by kernel_rfl) (by kernel_rfl) (by kernel_rfl) (fun _ _ _ h => h) (Or.inl ⟨by kernel_rfl, ?_⟩) (by assumption) ?_
        rotate_left 1
        · intro wz hSw
          try dsimp only at hSw
          have hq := hw1
          have hq2 := hw2
          go_simp
          all_goals with_reducible rfl
        try simp only [Act.put, List.setIfInBounds_toArray, List.set_cons_zero, List.set_cons_succ]
        refine wpAnyH_ready (rs := [12]) (by kernel_rfl) (by simp) ?_
        refine AllReadyH.cons opn12 (fun K hK => ?_) AllReadyH.nil
        rw [if_pos (by kernel_rfl)]
        go_simp
        refine (unhide HD9).mono ?_
        rintro e w11 ⟨g, cap, rfl, ho, b11⟩
        have HBF := hide ((unhide HB9).trans (b11.mono (unhide HB9).size))
        clear ho
        refine hK.out _ _ ⟨(b11.block _ (by show _ < W9.heap.size; omega)).trans (unhide HPQ).1, (b11.block _ (by show _ < W9.heap.size; omega)).trans (unhide HPQ).2⟩ (fun hHeldN => ?_)
        clear hHeld hK K
        have hHeld := hHeldN
        clear hHeldN
        try simp only [Act.put, List.setIfInBounds_toArray, List.set_cons_zero, List.set_cons_succ]
        refine wpAnyH_take (i := 13) (v := ?_) opn13 (by kernel_rfl) (by kernel_rfl) (by kernel_rfl) (fun _ _ _ h => h) (Or.inl ⟨by kernel_rfl, ?_⟩) (by assumption) ?_
        rotate_left 1
        · intro wz hSw
          try dsimp only at hSw
          go_simp
          all_goals with_reducible rfl
        try simp only [Act.put, List.setIfInBounds_toArray, List.set_cons_zero, List.set_cons_succ]
        refine wpAnyH_take (i := 17) (v := ?_) opn17 (by kernel_rfl) (by kernel_rfl) (by kernel_rfl) (fun _ _ _ h => h) (Or.inl ⟨by kernel_rfl, ?_⟩) (by assumption) ?_
        rotate_left 1
        · intro wz hSw
          try dsimp only at hSw
          go_simp
          all_goals with_reducible rfl
        try simp only [Act.put, List.setIfInBounds_toArray, List.set_cons_zero, List.set_cons_succ]
        refine wpAnyH_take (i := 18) (v := ?_) opn18 (by kernel_rfl) (by kernel_rfl) (by kernel_rfl) (fun _ _ _ h => h) (Or.inl ⟨by kernel_rfl, ?_⟩) (by assumption) ?_
        rotate_left 1
        · intro wz hSw
          try dsimp only at hSw
          go_simp
          all_goals with_reducible rfl
        try simp only [Act.put, List.setIfInBounds_toArray, List.set_cons_zero, List.set_cons_succ]
        refine wpAnyH_take (i := 19) (v := ?_) opn19 (by kernel_rfl) (by kernel_rfl) (by kernel_rfl) (fun _ _ _ h => h) (Or.inl ⟨by kernel_rfl, ?_⟩) (by assumption) ?_
        rotate_left 1
        · intro wz hSw
          try dsimp only at hSw
          go_simp
          all_goals with_reducible rfl
        try simp only [Act.put, List.setIfInBounds_toArray, List.set_cons_zero, List.set_cons_succ]
        refine wpAnyH_done (by kernel_rfl) ?_ _
        clear hHeld b11
        go_wp2
        go_ret
        exact ⟨rfl, unhide HBF⟩
      · have hc1 := asked_not (c := c) (y := ⟨xk, xa, xb, xt⟩) (by rw [unhide HAK]; exact hz)
        rw [hc1] at hr6
        have HS6 := hide (Send_any hr6)
        rw [unhide HM, unhide HOP] at HS6
        dsimp only [APkt.val] at HS6
        have hakb : (ak != 0) = true := by simpa using hz
        have HP6 := hide hP6
        have HB6 := hide ((unhide HB5).trans (hb6.mono hzw))
        have hl6 : w5.heap.size < w6.heap.size := (Array.getElem?_eq_some_iff.1 hP6).1
        clear hT6 hr6 hn6 hP6 hb6 hc1 hz
        go_wp2_with fail
        refine (unhide HS6).mono ?_
        rintro e w7 ⟨rfl, b7⟩
        obtain ⟨⟨p0, p1, p2, p3⟩, ⟨p4, p5, p6, p7, p8⟩, pf⟩ := nine ((b7.block _ hl6).trans (unhide HP6))
        have hl7 : w5.heap.size < w7.heap.size := by have := b7.size; omega
        have HB7 := hide (((unhide HB6).trans (b7.mono (unhide HB6).size)).alloc (by have := (unhide HB6).size; have := b7.size; omega) (.cells #[.bool mr, .int .i64 mc, .int .i64 mn, .int .i64 mk, .string m1, .string m2, .string m3, .int .i64 md, .string mu] 33))
        clear b7
        go_wp2
        go_ret
        exact ⟨rfl, unhide HB7⟩

end Go.Proofs.Ytfpommjolbipmab
