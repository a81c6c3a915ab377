/- PostOrder: the walk. -/
import Derived.Test.YtlndphpidkacgabPi
namespace Go.Proofs.Ytlndphpidkacgab
open Go.RowKit
set_option linter.unusedSimpArgs false
set_option linter.unusedVariables false

theorem below_dr (w : World) : Below w.heap.size w w.drew := ⟨rfl, rfl, rfl, Nat.le_refl _, fun _ _ => rfl⟩
theorem setCells_row {w : World} {b : Nat} {C cs : Array Value} {e : TypeId} (h : w.heap[b]? = some (.cells C e (0, 0))) (hs : C.size = cs.size) : (w.setCells b 0 cs.toList).heap[b]? = some (.cells cs e (0, 0)) := by
  rw [heap_setCells b e (0, 0) cs.toList 0 w C h]
  congr 2
  apply Array.ext'
  rw [putList_toList cs.toList 0 C (by simp; omega)]
  rw [List.take_zero, List.nil_append, List.drop_of_length_le (by simp; omega), List.append_nil]
theorem PTurn.blk {t : TypeId} {N : Nat} {w w' : World} {P : Nat} {v : Value} {ms' : List APkt} (hT : PTurn t N w P v w' ms') {X : Nat} (hX : X < w.heap.size) (hn : X ∉ powns P v) : w'.heap[X]? = w.heap[X]? := by
  obtain ⟨v', hr, hk, _⟩ := hT
  exact hk.block X hX hn
theorem yields_bin {a : Act} {o : Oper} {t2 : TypeId} {x y : Operand} {u u' v : Value} {wz : World} (ho : o.op = .binOp .eql 33 x y t2) (hx : a.eval x = u) (hy : a.eval y = u') (hq : (binOp .eql 33 u u').run Try.prog wz = .ok v wz) (hg : (eqGuard .eql 33 x y u u').run Try.prog wz = .ok () wz) : (execOp a.eval o).run Try.prog wz = .ok (.value v) wz := by
  unfold execOp
  simp [ho, hx, hy, hq, hg]
theorem guardP (x y : Operand) (c c' : Array Value) (wz : World) : (eqGuard .eql 33 x y (.agg c) (.agg c')).run Try.prog wz = .ok () wz := by
  unfold eqGuard
  simp [Try.eqGuardType33]
/-- A row of packets of the statement's own. -/
structure WRow (N : Nat) (w : World) (g k cap : Nat) (ms : List APkt) : Prop where
  row : w.ownsRow N 33 9 (.slice (some ⟨g, 0, none⟩) k cap) k (ms.flatMap pcells)
  len : ms.length = k
theorem WRow.same {N : Nat} {w w' : World} {g k cap : Nat} {ms : List APkt} (h : WRow N w g k cap ms) (hs : w'.heap[g]? = w.heap[g]?) : WRow N w' g k cap ms :=
  ⟨ownsRow_same h.row (fun j hj => by have : j = g := by simpa [Value.ownBlock] using hj.symm
                                      rw [this]; exact hs), h.len⟩
theorem WRow.lt {N : Nat} {w : World} {g k cap : Nat} {ms : List APkt} (h : WRow N w g k cap ms) : N ≤ g ∧ g < w.heap.size := h.row.lt g rfl
theorem WRow.below {N : Nat} {w w' : World} {g k cap : Nat} {ms : List APkt} (h : WRow N w g k cap ms) (hb : Below w.heap.size w w') : WRow N w' g k cap ms := h.same (hb.block g h.lt.2)
theorem WRow.at {N : Nat} {w : World} {g k cap : Nat} {ms : List APkt} (h : WRow N w g k cap ms) {j : Nat} {m : APkt} (hj : ms[j]? = some m) : PktAt w g (j * 9) m := by
  obtain ⟨b, he, hc⟩ := (pkts_row h.row h.len).2 (by have := (List.getElem?_eq_some_iff.1 hj).1; have := h.len; omega)
  cases he
  exact hc j m hj
theorem WRow.take {N : Nat} {w : World} {g k cap : Nat} {ms : List APkt} (h : WRow N w g k cap ms) {n : Nat} (hn : n ≤ k) : PktsAt w (some ⟨g, 0, none⟩) n (ms.take n) := by
  refine ⟨by rw [List.length_take, h.len]; omega, fun h0 => ⟨g, rfl, fun j r hr => h.at ?_⟩⟩
  rw [List.getElem?_take] at hr
  split at hr
  · exact hr
  · cases hr
theorem WRow.cap {N : Nat} {w : World} {g k cap : Nat} {ms : List APkt} (h : WRow N w g k cap ms) : k ≤ cap ∧ cap ≤ maxLen := by
  refine ⟨row_cap h.row, ?_⟩
  rcases h.row.2 with ⟨he, _⟩ | ⟨g', cap', cur, he, _, _, _, hcm, _⟩
  · cases he
  · obtain ⟨_, rfl⟩ : g = g' ∧ cap = cap' := by simpa using he
    exact hcm

set_option maxRecDepth 100000 in
set_option maxHeartbeats 8000000 in
theorem porder_walk (a0 : Option Addr) (n0 c0 : Nat) (ls : List APStep) (x : APStep) (w : World) (hl : PStepsAt w a0 n0 ls) (hx : SmallP x.m) :
    Calls Try.prog 5 #[.slice a0 n0 c0, x.val] w fun e w' => e = .returned (.bool true) ∧ Below w.heap.size w w' := by
  have hB0 : Below w.heap.size w (w.alloc (.cells (pxcells x).toArray 35)) := (Below.refl _ _).alloc (Nat.le_refl _) _
  have hX0 : (w.alloc (.cells (pxcells x).toArray 35)).heap[w.heap.size]? = some (.cells (pxcells x).toArray 35 (0, 0)) := heap_alloc_new w _
  have HBG := hide postBegun_any
  have HNW := hide (fun W => New_P W)
  have HL := hide hl
  have HSX := hide hx
  have hn0 := hl.2.1
  unfold maxLen at hn0
  have HB0 := hide hB0
  have HX0 := hide hX0
  clear hl hx hB0 hX0
  obtain ⟨xa, xn, mx⟩ := x
  obtain ⟨mx0, mx1, mx2, ⟨mx3, mx4, mx5, mx6⟩, mx7, mx8⟩ := mx
  dsimp only [APStep.val, pxcells] at *
  go_enter Try.func5, Try.ntmps5
  go_wp2_with fail
  refine ((unhide HBG) _).mono ?_
  rintro e w2 ⟨rfl, b2⟩
  have HB2 := hide ((unhide HB0).trans (b2.mono (unhide HB0).size))
  have HX2 := hide ((b2.block w.heap.size (by simp)).trans (unhide HX0))
  have hz2 : w.heap.size < w2.heap.size := (Array.getElem?_eq_some_iff.1 (unhide HX2)).1
  clear b2
  by_cases hbig : (200 : Int) < (n0 : Int)
  · go_wp2
    go_ret
    exact ⟨rfl, unhide HB2⟩
  go_wp2_with fail
  refine ((unhide HNW) _).mono ?_
  rintro e w3 ⟨rfl, rfl⟩
  have HP0 := hide (PRep.start 47 w2)
  have HBP : Hid (Below w2.heap.size w2 (w2.alloc (.cells #[.slice none 0 0] 47))) := (Below.refl _ _).alloc (Nat.le_refl _) _
  go_wp2_with fail
  go_loopw [6] (fun i wr => ∃ (q : Nat) (v : Value) (ms : List APkt), q ≤ n0 ∧ i = .int .i64 (q : Int) ∧ Hid (PRep 47 w2.heap.size wr w2.heap.size v ms) ∧ Hid (Below w2.heap.size w2 wr)) (fun i _ => n0 - (intOf i).toNat)
  case atStart => exact ⟨0, _, [], Nat.zero_le _, rfl, unhide HP0, unhide HBP⟩
  case round =>
    obtain ⟨q, v, ms, hq, rfl, HP, HB⟩ := hrel
    have HBw := hide ((unhide HB2).trans ((unhide HB).mono (unhide HB2).size))
    by_cases hlt : (q : Int) < (n0 : Int)
    · obtain ⟨y, hy⟩ : ∃ y, ls[q]? = some y := ⟨_, List.getElem?_eq_getElem (by rw [(unhide HL).1]; omega)⟩
      obtain ⟨b, off, rfl, hc⟩ := ((unhide HL).below (unhide HBw)).2.2.2 (by omega)
      obtain ⟨g0, g1, g2, g3, g4, g5, g6, g7, g8, g9, g10⟩ := hc q y hy
      have hsz := (unhide HL).2.2.1 y (List.mem_of_getElem? hy)
      clear hc hy
      obtain ⟨ya, yn, my⟩ := y
      have HS := hide (PSend_any (unhide HP) my hsz)
      have HT := hide (PTake_any (unhide HP) yn)
      have HD := hide (PDbl_any (unhide HP) yn)
      obtain ⟨my0, my1, my2, ⟨my3, my4, my5, my6⟩, my7, my8⟩ := my
      dsimp only [APkt.val] at *
      clear hsz
      by_cases h0 : ya = 0
      · subst h0
        go_wp2_with fail
        refine (unhide HS).mono ?_
        rintro e w5 ⟨rfl, hT⟩
        have hb5 := hT.below (unhide HP)
        obtain ⟨v5, hr5, _, _⟩ := hT
        have HP5 := hide hr5
        have HB5 := hide ((unhide HB).trans hb5)
        clear hr5 hb5
        go_wp2
        go_roundw
        case rel => exact ⟨q + 1, v5, _, by omega, by go_num, unhide HP5, unhide HB5⟩
        case measure => simp [intOf]; omega
      by_cases h1 : ya = 1
      · subst h1
        go_wp2_with fail
        refine (unhide HT).mono ?_
        rintro e w5 ⟨rfl, hT⟩
        have hb5 := hT.below (unhide HP)
        obtain ⟨v5, hr5, _, _⟩ := hT
        have HP5 := hide hr5
        have HB5 := hide ((unhide HB).trans hb5)
        clear hr5 hb5
        go_wp2
        go_roundw
        case rel => exact ⟨q + 1, v5, _, by omega, by go_num, unhide HP5, unhide HB5⟩
        case measure => simp [intOf]; omega
      by_cases h2 : ya = 2
      · subst h2
        go_wp2_with fail
        refine (unhide HD).mono ?_
        rintro e w5 ⟨rfl, hT⟩
        have hb5 := hT.below (unhide HP)
        obtain ⟨v5, hr5, _, _⟩ := hT
        have HP5 := hide hr5
        have HB5 := hide ((unhide HB).trans hb5)
        clear hr5 hb5
        go_wp2
        go_roundw
        case rel => exact ⟨q + 1, v5, _, by omega, by go_num, unhide HP5, unhide HB5⟩
        case measure => simp [intOf]; omega
      have k0 : (ya == 0) = false := by simpa using h0
      have k1 : (ya == 1) = false := by simpa using h1
      have k2' : (ya == 2) = false := by simpa using h2
      clear h0 h1 h2
      go_wp2
      go_roundw
      case rel => exact ⟨q + 1, v, ms, by omega, by go_num, unhide HP, unhide HB⟩
      case measure => simp [intOf]; omega
    · obtain ⟨k, hk⟩ : ∃ k, ms.length = k := ⟨_, rfl⟩
      have HK := hide hk
      have hk40 : k ≤ 40 := by rw [← hk]; exact (unhide HP).few
      clear hk
      go_wp2_with fail
      refine (List_P (unhide HP) (unhide HK)).mono ?_
      rintro e w3 ⟨g, cap, rfl, og, b3⟩
      have HW3 : Hid (WRow wr.heap.size w3 g k cap ms) := ⟨og, unhide HK⟩
      have HP3 := hide ((unhide HP).below b3)
      have HB3 := hide ((unhide HB).trans (b3.mono (unhide HB).size))
      have hx3 := ((unhide HB3).block w.heap.size hz2).trans (unhide HX2)
      have HX3 := hide hx3
      have hgP : g ∉ powns w2.heap.size v := fun hm => by have h1 := ((unhide HP).ge g hm).2; have h2 := (unhide HW3).lt.1; omega
      have hXP : w.heap.size ∉ powns w2.heap.size v := fun hm => by have h1 := ((unhide HP).ge _ hm).1; omega
      have hz3 : w.heap.size < w3.heap.size := (Array.getElem?_eq_some_iff.1 hx3).1
      have hcapk := (unhide HW3).cap
      obtain ⟨hcap1, hcap2⟩ := hcapk
      unfold maxLen at hcap2
      obtain ⟨y0, y1, x0, x1, x2, x3, x4, x5, x6, x7, x8⟩ := PStepAt.blk (x := ⟨xa, xn, ⟨mx0, mx1, mx2, ⟨mx3, mx4, mx5, mx6⟩, mx7, mx8⟩⟩) hx3
      simp only [Nat.zero_add] at y0 y1 x0 x1 x2 x3 x4 x5 x6 x7 x8
      clear og b3 hx3
      obtain ⟨tb, htb⟩ : ∃ b, aTakeB ms = b := ⟨_, rfl⟩
      have HTB := hide htb
      obtain ⟨tm, htm⟩ : ∃ t, aTakeM ms xn = t := ⟨_, rfl⟩
      have HTM := hide htm
      clear htb htm
      by_cases hxa : xa = 1
      · subst hxa
        have hc1 := PTake_any (unhide HP3) xn
        rw [unhide HTM, unhide HTB] at hc1
        have HC1 := hide hc1
        obtain ⟨t0, t1, t2, ⟨t3, t4, t5, t6⟩, t7, t8⟩ := tm
        dsimp only [APkt.val] at HC1
        clear hc1
        go_wp2_with fail
        refine (unhide HC1).mono ?_
        rintro e w4 ⟨rfl, hT⟩
        clear y0 y1 x0 x1 x2 x3 x4 x5 x6 x7 x8
        have hb4 := hT.below (unhide HP3)
        have HX4 := hide ((hT.blk hz3 hXP).trans (unhide HX3))
        have hw4 := (unhide HW3).same (hT.blk (unhide HW3).lt.2 hgP)
        obtain ⟨v4, hr4, hkp4, hn4⟩ := hT
        obtain ⟨V4, hV4⟩ : ∃ V, V = w4.alloc (.cells #[.bool t0, .int .i64 t1, .int .i64 t2, .int .i64 t3, .string t4, .string t5, .string t6, .int .i64 t7, .string t8] 33) := ⟨_, rfl⟩
        have hbV : Below w4.heap.size w4 V4 := by rw [hV4]; exact (Below.refl _ _).alloc (Nat.le_refl _) _
        have hmV : V4.heap[w4.heap.size]? = some (.cells #[.bool t0, .int .i64 t1, .int .i64 t2, .int .i64 t3, .string t4, .string t5, .string t6, .int .i64 t7, .string t8] 33 (0, 0)) := by rw [hV4]; exact heap_alloc_new _ _
        have HPV := hide (hr4.below hbV)
        have HWV := hide (hw4.below hbV)
        have hB4 := (unhide HB3).trans hb4
        have HBV := hide (hB4.trans (hbV.mono hB4.size))
        have HMV := hide hmV
        have HV4 := hide hV4
        obtain ⟨k', hk'⟩ : ∃ k, (aTakeL ms xn).length = k := ⟨_, rfl⟩
        have HK' := hide hk'
        have hk40' : k' ≤ 40 := by rw [← hk']; exact hr4.few
        clear hb4 hw4 hr4 hkp4 hn4 hbV hmV hB4 hV4 hk'
        go_wp2_with fail
        rw [← unhide HV4]
        refine (List_P (unhide HPV) (unhide HK')).mono ?_
        rintro e w5 ⟨g', cap', rfl, og, b5⟩
        have HN5 : Hid (WRow V4.heap.size w5 g' k' cap' (aTakeL ms xn)) := ⟨og, unhide HK'⟩
        have HW5 := hide ((unhide HWV).below b5)
        have HB5 := hide ((unhide HBV).trans (b5.mono (unhide HBV).size))
        have HM5 := hide ((b5.block _ (Array.getElem?_eq_some_iff.1 (unhide HMV)).1).trans (unhide HMV))
        have HX5 := hide (((unhide HB5).block w.heap.size hz2).trans (unhide HX2))
        have HBF := hide ((unhide HB2).trans ((unhide HB5).mono (unhide HB2).size))
        clear og b5
        by_cases hk0 : k = 0
        · have htb : tb = false := by rw [← unhide HTB]; unfold aTakeB; rw [unhide HK, hk0]; rfl
          have hk0' : k' = 0 := by
            have h1 := unhide HK'
            have h2 : ms = [] := List.length_eq_zero_iff.1 (by rw [unhide HK, hk0])
            rw [h2] at h1
            rw [← h1]; rfl
          subst htb hk0 hk0'
          go_wp2
          go_ret
          exact ⟨rfl, unhide HBF⟩
        have hkp : 0 < k := by omega
        have htb : tb = true := by rw [← unhide HTB]; unfold aTakeB; rw [unhide HK]; exact decide_eq_true hkp
        subst htb
        have h0i : ((k : Int) == 0) = false := by simp; omega
        obtain ⟨r, hr⟩ : ∃ r, rnd xn k = r := ⟨_, rfl⟩
        have hv := rnd_val xn hkp hk40
        have hrk := rnd_lt xn hkp
        rw [hr] at hv hrk
        have hv2 : wrap64 (Int.tmod (IntKind.u64.wrap xn) (k : Int)) = (r : Int) := by
          have h1 : IntKind.u64.wrap (k : Int) = k := by rw [wrap_u]; omega
          rw [h1] at hv
          exact hv
        have hne : ¬ (IntKind.u64.wrap (k : Int) = 0) := by rw [wrap_u]; omega
        have htk := take_some (ms := ms) xn (by rw [unhide HK]; exact hkp)
        rw [unhide HK, hr, unhide HTM] at htk
        obtain ⟨l1, l2, e1, e2, e3⟩ := psplit htk
        have hTL : aTakeL ms xn = l1 ++ l2 := by unfold aTakeL; rw [unhide HK, hr, e3]
        have hl2 : l2.length = k - (r + 1) := by have h1 := unhide HK; rw [e1] at h1; simp at h1; omega
        have hat := (unhide HW5).at htk
        have hlie := fun W (hW : Below w5.heap.size w5 W) => lies_prow (l1 := l1) (l2 := l2) (m := ⟨t0, t1, t2, ⟨t3, t4, t5, t6⟩, t7, t8⟩) (by have := (unhide HW5).row; rw [e1] at this; exact this) (by rw [← e1]; exact unhide HK) W (hW.block g (unhide HW5).lt.2)
        rw [e2] at hlie
        obtain ⟨A, hA, HL2⟩ : ∃ A : Addr, (if cap = r + 1 then some (⟨g, 0, none⟩ : Addr) else some ⟨g, (r + 1) * 9, none⟩) = some A ∧ Hid (∀ W, Below w5.heap.size w5 W → Lies W (.slice (some A) (k - (r + 1)) (cap - (r + 1))) (k - (r + 1)) (l2.flatMap pcells)) := by
          by_cases h : cap = r + 1
          · exact ⟨⟨g, 0, none⟩, by simp [h], fun W hW => by have := (hlie W hW).2; rwa [if_pos h] at this⟩
          · exact ⟨⟨g, (r + 1) * 9, none⟩, by simp [h], fun W hW => by have := (hlie W hW).2; rwa [if_neg h] at this⟩
        have HL1 : Hid (∀ W, Below w5.heap.size w5 W → Lies W (.slice (some ⟨g, 0, none⟩) r cap) r (l1.flatMap pcells)) := fun W hW => (hlie W hW).1
        have HE1 : Hid ((l1.flatMap pcells).length = r * 9) := by rw [Hid, pflat_len, e2]
        have HE3 : Hid ((l2.flatMap pcells).length = (k - (r + 1)) * 9) := by rw [Hid, pflat_len, hl2]
        have HE2 : Hid (∀ u ∈ l1.flatMap pcells, u.oneCell' = true) := pflat_one l1
        have HE4 : Hid (∀ u ∈ l2.flatMap pcells, u.oneCell' = true) := pflat_one l2
        have HAT := hide hat
        have HTL := hide hTL
        have HLN : Hid ((l1 ++ l2).length = r + (k - (r + 1))) := by rw [Hid, List.length_append, e2, hl2]
        obtain ⟨i0, hi0, hz0, hz1, hzb⟩ := info_parts infoPP
        have hri : (r : Int) < (k : Int) := by omega
        have hr0 : (0 : Int) ≤ (r : Int) := by omega
        have ix2 : (r : Int) + 1 ≤ (k : Int) := by omega
        have ix3 : (0 : Int) ≤ (r : Int) + 1 := by omega
        have ic1 : r ≤ cap := by omega
        have ic2 : r + 1 ≤ cap := by omega
        have htn : ((r : Int) + 1).toNat = r + 1 := by omega
        have hwr : IntKind.i64.wrap ((r : Int) + 1) = (r : Int) + 1 := by rw [IntKind.wrap_i64]; omega
        have eP := fun W => eqlP ⟨t0, t1, t2, ⟨t3, t4, t5, t6⟩, t7, t8⟩ ⟨t0, t1, t2, ⟨t3, t4, t5, t6⟩, t7, t8⟩ W
        rw [pktB_self] at eP
        dsimp only [APkt.val] at eP
        obtain ⟨y0, y1, x0, x1, x2, x3, x4, x5, x6, x7, x8⟩ := PStepAt.blk (x := ⟨1, xn, ⟨mx0, mx1, mx2, ⟨mx3, mx4, mx5, mx6⟩, mx7, mx8⟩⟩) (unhide HX5)
        simp only [Nat.zero_add] at y0 y1 x0 x1 x2 x3 x4 x5 x6 x7 x8
        clear hr htk e1 e2 e3 hTL hl2 hat hlie
        go_wp2_with fail
        clear y0 y1 x0 x1 x2 x3 x4 x5 x6 x7 x8
        go_region_law (first | (refine step_new (wx := w5) (by rfl) (.tmp 101) (.tmp 104) 26 (by rfl) (below_drew w5) 33 i0 _ 9 104 Try.underlying26 hi0 hz0 hz1 hzb rfl (by omega) (.slice none 0 0) 0 [] (by simp [Act.eval, Act.put]) (World.ownsRow_nil _ _ _ _) (.slice (some ⟨g, 0, none⟩) r cap) r (l1.flatMap pcells) (by simp [Act.eval, Act.put]) ((unhide HL1) _ (below_drew w5)) (unhide HE1) (unhide HE2) (by unfold maxLen; omega) (by omega) ?_; intro aA cA wA hownA bA hgrowA; rw [Nat.zero_add, List.nil_append] at hownA; rw [Nat.zero_add]; clear hgrowA) | (refine step_new (wx := w5) (by rfl) (.tmp 105) (.tmp 109) 26 (by rfl) bA 33 i0 _ 9 104 Try.underlying26 hi0 hz0 hz1 hzb rfl (by omega) (.slice aA r cA) r (l1.flatMap pcells) (by simp [Act.eval, Act.put]) hownA (.slice (some A) (k - (r + 1)) (cap - (r + 1))) (k - (r + 1)) (l2.flatMap pcells) (by simp [Act.eval, Act.put]) ((unhide HL2) _ bA) (unhide HE3) (unhide HE4) (by unfold maxLen; omega) (by omega) ?_; intro aB cB wB hownB bB hgrowB; clear hgrowB) | fail)
        rw [← List.flatMap_append] at hownB
        have HRB := hide (pkts_row hownB (unhide HLN))
        have HNB := hide ((unhide HN5).below bB)
        have HAB := hide ((unhide HAT).same (bB.block g (unhide HW5).lt.2))
        have hMB := (bB.block _ (Array.getElem?_eq_some_iff.1 (unhide HM5)).1).trans (unhide HM5)
        have HBB := hide ((unhide HB5).trans (bB.mono (unhide HB5).size))
        obtain ⟨⟨m0, m1, m2, m3⟩, ⟨m4, m5, m6, m7, m8⟩, _⟩ := nine hMB
        clear hownA hownB bA bB hMB
        go_wp2_with fail
        refine wp_region_held_drew (S := (fun wx => (wx.cell? ⟨w4.heap.size, 0, none⟩ = some (.bool t0) ∧ wx.cell? ⟨w4.heap.size, 1, none⟩ = some (.int .i64 t1) ∧ wx.cell? ⟨w4.heap.size, 2, none⟩ = some (.int .i64 t2) ∧ wx.cell? ⟨w4.heap.size, 3, none⟩ = some (.int .i64 t3) ∧ wx.cell? ⟨w4.heap.size, 4, none⟩ = some (.string t4) ∧ wx.cell? ⟨w4.heap.size, 5, none⟩ = some (.string t5) ∧ wx.cell? ⟨w4.heap.size, 6, none⟩ = some (.string t6) ∧ wx.cell? ⟨w4.heap.size, 7, none⟩ = some (.int .i64 t7) ∧ wx.cell? ⟨w4.heap.size, 8, none⟩ = some (.string t8)) ∧ PktAt wx g (r * 9) ⟨t0, t1, t2, ⟨t3, t4, t5, t6⟩, t7, t8⟩ ∧ PktsAt wx aB (r + (k - (r + 1))) (l1 ++ l2) ∧ WRow V4.heap.size wx g' k' cap' (aTakeL ms xn) ∧ Below w2.heap.size w2 wx)) (by kernel_rfl) ⟨⟨m0, m1, m2, m3, m4, m5, m6, m7, m8⟩, (unhide HAB).same rfl, (unhide HRB).below (below_dr wB), (unhide HNB).below (below_dr wB), (unhide HBB).trans ((below_dr wB).mono (unhide HBB).size)⟩ (fun hHeld => ?_)
        clear m0 m1 m2 m3 m4 m5 m6 m7 m8
        refine wpAnyH_take (i := 0) (v := ?_) opn0 (by kernel_rfl) (by kernel_rfl) (by kernel_rfl) (fun _ _ _ h => h) (Or.inl ⟨by kernel_rfl, ?_⟩) (by assumption) ?_
        rotate_left 1
        · intro wz hSw
          try dsimp only at hSw
          obtain ⟨q0, q1, q2, q3, q4, q5, q6, q7, q8⟩ := hSw.1
          go_simp
          all_goals with_reducible rfl
        try simp only [Act.put, List.setIfInBounds_toArray, List.set_cons_zero, List.set_cons_succ]
        refine wpAnyH_take (i := 1) (v := ?_) opn1 (by kernel_rfl) (by kernel_rfl) (by kernel_rfl) (fun _ _ _ h => h) (Or.inl ⟨by kernel_rfl, ?_⟩) (by assumption) ?_
        rotate_left 1
        · intro wz hSw
          try dsimp only at hSw
          go_simp
          all_goals with_reducible rfl
        try simp only [Act.put, List.setIfInBounds_toArray, List.set_cons_zero, List.set_cons_succ]
        refine wpAnyH_take (i := 2) (v := ?_) opn2 (by kernel_rfl) (by kernel_rfl) (by kernel_rfl) (fun _ _ _ h => h) (Or.inl ⟨by kernel_rfl, ?_⟩) (by assumption) ?_
        rotate_left 1
        · intro wz hSw
          try dsimp only at hSw
          go_simp
          all_goals with_reducible rfl
        try simp only [Act.put, List.setIfInBounds_toArray, List.set_cons_zero, List.set_cons_succ]
        refine wpAnyH_take (i := 3) (v := ?_) opn3 (by kernel_rfl) (by kernel_rfl) (by kernel_rfl) (fun _ _ _ h => h) (Or.inl ⟨by kernel_rfl, ?_⟩) (by assumption) ?_
        rotate_left 1
        · intro wz hSw
          try dsimp only at hSw
          go_simp
          all_goals with_reducible rfl
        try simp only [Act.put, List.setIfInBounds_toArray, List.set_cons_zero, List.set_cons_succ]
        refine wpAnyH_take (i := 4) (v := ?_) opn4 (by kernel_rfl) (by kernel_rfl) (by kernel_rfl) (fun _ _ _ h => h) (Or.inl ⟨by kernel_rfl, ?_⟩) (by assumption) ?_
        rotate_left 1
        · intro wz hSw
          try dsimp only at hSw
          obtain ⟨q0, q1, q2, q3, q4, q5, q6, q7, q8⟩ := hSw.2.1
          go_simp
          all_goals with_reducible rfl
        try simp only [Act.put, List.setIfInBounds_toArray, List.set_cons_zero, List.set_cons_succ]
        refine wpAnyH_take (i := 5) (v := .bool true) opn5 (by kernel_rfl) (by kernel_rfl) (by kernel_rfl) (fun _ _ _ h => h) (Or.inl ⟨by kernel_rfl, ?_⟩) (by assumption) ?_
        · intro wz hSw
          exact yields_bin rfl (by simp [Act.eval]) (by simp [Act.eval]) (eP wz) (guardP _ _ _ _ wz)
        try simp only [Act.put, List.setIfInBounds_toArray, List.set_cons_zero, List.set_cons_succ]
        refine wpAnyH_take (i := 6) (v := ?_) opn6 (by kernel_rfl) (by kernel_rfl) (by kernel_rfl) (fun _ _ _ h => h) (Or.inl ⟨by kernel_rfl, ?_⟩) (by assumption) ?_
        rotate_left 1
        · intro wz hSw
          try dsimp only at hSw
          go_simp
          all_goals with_reducible rfl
        try simp only [Act.put, List.setIfInBounds_toArray, List.set_cons_zero, List.set_cons_succ]
        refine wpAnyH_take (i := 7) (v := ?_) opn7 (by kernel_rfl) (by kernel_rfl) (by kernel_rfl) (fun _ _ _ h => h) (Or.inl ⟨by kernel_rfl, ?_⟩) (by assumption) ?_
        rotate_left 1
        · intro wz hSw
          try dsimp only at hSw
          go_simp
          all_goals with_reducible rfl
        try simp only [Act.put, List.setIfInBounds_toArray, List.set_cons_zero, List.set_cons_succ]
        refine wpAnyH_take (i := 8) (v := ?_) opn8 (by kernel_rfl) (by kernel_rfl) (by kernel_rfl) (fun _ _ _ h => h) (Or.inl ⟨by kernel_rfl, ?_⟩) (by assumption) ?_
        rotate_left 1
        · intro wz hSw
          try dsimp only at hSw
          go_simp
          all_goals with_reducible rfl
        try simp only [Act.put, List.setIfInBounds_toArray, List.set_cons_zero, List.set_cons_succ]
        refine wpAnyH_ready (rs := [9]) (by kernel_rfl) (by simp) ?_
        refine AllReadyH.cons opn9 (fun K hK => ?_) AllReadyH.nil
        rw [if_pos (by kernel_rfl)]
        go_simp
        refine (SamePackets_any aB (some ⟨g', 0, none⟩) (r + (k - (r + 1))) k' cB cap' (l1 ++ l2) (aTakeL ms xn) _ hHeld.2.2.1 (pkts_row hHeld.2.2.2.1.row (unhide HK')) (by omega) (by omega) true ⟨fun _ => (unhide HTL).symm, fun _ => rfl⟩).mono ?_
        rintro e wO ⟨rfl, bO⟩
        refine hK.out _ _ ⟨⟨(bO.cell (p := ⟨w4.heap.size, 0, none⟩) (World.block_lt_of_cell? _ _ hHeld.1.1)).trans hHeld.1.1, (bO.cell (p := ⟨w4.heap.size, 1, none⟩) (World.block_lt_of_cell? _ _ hHeld.1.2.1)).trans hHeld.1.2.1, (bO.cell (p := ⟨w4.heap.size, 2, none⟩) (World.block_lt_of_cell? _ _ hHeld.1.2.2.1)).trans hHeld.1.2.2.1, (bO.cell (p := ⟨w4.heap.size, 3, none⟩) (World.block_lt_of_cell? _ _ hHeld.1.2.2.2.1)).trans hHeld.1.2.2.2.1, (bO.cell (p := ⟨w4.heap.size, 4, none⟩) (World.block_lt_of_cell? _ _ hHeld.1.2.2.2.2.1)).trans hHeld.1.2.2.2.2.1, (bO.cell (p := ⟨w4.heap.size, 5, none⟩) (World.block_lt_of_cell? _ _ hHeld.1.2.2.2.2.2.1)).trans hHeld.1.2.2.2.2.2.1, (bO.cell (p := ⟨w4.heap.size, 6, none⟩) (World.block_lt_of_cell? _ _ hHeld.1.2.2.2.2.2.2.1)).trans hHeld.1.2.2.2.2.2.2.1, (bO.cell (p := ⟨w4.heap.size, 7, none⟩) (World.block_lt_of_cell? _ _ hHeld.1.2.2.2.2.2.2.2.1)).trans hHeld.1.2.2.2.2.2.2.2.1, (bO.cell (p := ⟨w4.heap.size, 8, none⟩) (World.block_lt_of_cell? _ _ hHeld.1.2.2.2.2.2.2.2.2)).trans hHeld.1.2.2.2.2.2.2.2.2⟩, hHeld.2.1.same (bO.block g hHeld.2.1.lt), hHeld.2.2.1.below bO, hHeld.2.2.2.1.below bO, hHeld.2.2.2.2.trans (bO.mono hHeld.2.2.2.2.size)⟩ (fun hHeldN => ?_)
        clear hHeld hK K
        have hHeld := hHeldN
        clear hHeldN
        try simp only [Act.put, List.setIfInBounds_toArray, List.set_cons_zero, List.set_cons_succ]
        refine wpAnyH_take (i := 10) (v := ?_) opn10 (by kernel_rfl) (by kernel_rfl) (by kernel_rfl) (fun _ _ _ h => h) (Or.inl ⟨by kernel_rfl, ?_⟩) (by assumption) ?_
        rotate_left 1
        · intro wz hSw
          try dsimp only at hSw
          go_simp
          all_goals with_reducible rfl
        try simp only [Act.put, List.setIfInBounds_toArray, List.set_cons_zero, List.set_cons_succ]
        refine wpAnyH_take (i := 11) (v := ?_) opn11 (by kernel_rfl) (by kernel_rfl) (by kernel_rfl) (fun _ _ _ h => h) (Or.inl ⟨by kernel_rfl, ?_⟩) (by assumption) ?_
        rotate_left 1
        · intro wz hSw
          try dsimp only at hSw
          go_simp
          all_goals with_reducible rfl
        try simp only [Act.put, List.setIfInBounds_toArray, List.set_cons_zero, List.set_cons_succ]
        refine wpAnyH_done (by kernel_rfl) ?_ _
        have HBZ := hide ((unhide HB2).trans (hHeld.2.2.2.2.mono (unhide HB2).size))
        clear hHeld
        go_wp2
        go_ret
        exact ⟨rfl, unhide HBZ⟩
      · have hxa1 : (xa == 1) = false := by simpa using hxa
        clear hxa
        go_wp2_with fail
        clear y0 y1 x0 x1 x2 x3 x4 x5 x6 x7 x8
        refine wp_region_held_drew (S := (fun wx => PStepAt wx w.heap.size 0 ⟨xa, xn, ⟨mx0, mx1, mx2, ⟨mx3, mx4, mx5, mx6⟩, mx7, mx8⟩⟩ ∧ Below w3.heap.size w3 wx)) (by kernel_rfl) ⟨(PStepAt.blk (x := ⟨xa, xn, ⟨mx0, mx1, mx2, ⟨mx3, mx4, mx5, mx6⟩, mx7, mx8⟩⟩) (unhide HX3)).same rfl, below_dr w3⟩ (fun hHeld => ?_)
        refine wpAnyH_take (i := 0) (v := ?_) opn0 (by kernel_rfl) (by kernel_rfl) (by kernel_rfl) (fun _ _ _ h => h) (Or.inl ⟨by kernel_rfl, ?_⟩) (by assumption) ?_
        rotate_left 1
        · intro wz hSw
          try dsimp only at hSw
          go_simp
          all_goals with_reducible rfl
        try simp only [Act.put, List.setIfInBounds_toArray, List.set_cons_zero, List.set_cons_succ]
        refine wpAnyH_take (i := 1) (v := ?_) opn1 (by kernel_rfl) (by kernel_rfl) (by kernel_rfl) (fun _ _ _ h => h) (Or.inl ⟨by kernel_rfl, ?_⟩) (by assumption) ?_
        rotate_left 1
        · intro wz hSw
          try dsimp only at hSw
          obtain ⟨y0, y1, x0, x1, x2, x3, x4, x5, x6, x7, x8⟩ := hSw.1
          simp only [Nat.zero_add] at *
          go_simp
          all_goals with_reducible rfl
        try simp only [Act.put, List.setIfInBounds_toArray, List.set_cons_zero, List.set_cons_succ]
        refine wpAnyH_ready (rs := [2]) (by kernel_rfl) (by simp) ?_
        refine AllReadyH.cons opn2 (fun K hK => ?_) AllReadyH.nil
        go_simp
        have hbA := below_alloc_drew w3 (.cells #[.bool false, .int .i64 0, .int .i64 0, .int .i64 0, .string ⟨#[]⟩, .string ⟨#[]⟩, .string ⟨#[]⟩, .int .i64 0, .string ⟨#[]⟩] 33)
        have hA := alloc_drew_new w3 (.cells #[.bool false, .int .i64 0, .int .i64 0, .int .i64 0, .string ⟨#[]⟩, .string ⟨#[]⟩, .string ⟨#[]⟩, .int .i64 0, .string ⟨#[]⟩] 33)
        obtain ⟨V3, hV3⟩ : ∃ V, V = (w3.alloc (.cells #[.bool false, .int .i64 0, .int .i64 0, .int .i64 0, .string ⟨#[]⟩, .string ⟨#[]⟩, .string ⟨#[]⟩, .int .i64 0, .string ⟨#[]⟩] 33)).drew := ⟨_, rfl⟩
        rw [← hV3] at hbA hA ⊢
        refine hK.out _ _ ⟨hHeld.1.same (by have h1 := hbA.block w.heap.size hz3; exact h1), hbA⟩ (fun hHeldN => ?_)
        clear hHeld hK K
        have hHeld := hHeldN
        clear hHeldN
        try simp only [Act.put, List.setIfInBounds_toArray, List.set_cons_zero, List.set_cons_succ]
        refine wpAnyH_take (i := 3) (v := ?_) opn3 (by kernel_rfl) (by kernel_rfl) (by kernel_rfl) (fun _ _ _ h => h) (Or.inl ⟨by kernel_rfl, ?_⟩) (by assumption) ?_
        rotate_left 1
        · intro wz hSw
          try dsimp only at hSw
          go_simp
          all_goals with_reducible rfl
        try simp only [Act.put, List.setIfInBounds_toArray, List.set_cons_zero, List.set_cons_succ]
        refine wpAnyH_ready (rs := [4]) (by kernel_rfl) (by simp) ?_
        refine AllReadyH.cons opn4 (fun K hK => ?_) AllReadyH.nil
        rw [if_pos (by kernel_rfl)]
        refine wp_store_mid _ _ _ rfl w3.heap.size 0 #[.bool mx0, .int .i64 mx1, .int .i64 mx2, .int .i64 mx3, .string mx4, .string mx5, .string mx6, .int .i64 mx7, .string mx8] (by simp [Act.eval]) (by simp [Act.eval]) (fun j hj => ⟨by rw [Nat.zero_add, cell_of_row V3 w3.heap.size j _ _ _ hA, Array.getElem?_eq_getElem (by simpa using hj)]; rfl, by rw [Nat.zero_add]; exact frozen_of_row V3 w3.heap.size j _ _ hA⟩) infoP (by simp [Value.oneCell']) ?_
        have hLW := setCells_row (cs := #[.bool mx0, .int .i64 mx1, .int .i64 mx2, .int .i64 mx3, .string mx4, .string mx5, .string mx6, .int .i64 mx7, .string mx8]) hA rfl
        have hkW := kept_setCells w3.heap.size (Array.toList #[.bool mx0, .int .i64 mx1, .int .i64 mx2, .int .i64 mx3, .string mx4, .string mx5, .string mx6, .int .i64 mx7, .string mx8]) 0 V3
        obtain ⟨W, hW⟩ : ∃ W, W = V3.setCells w3.heap.size 0 (Array.toList #[.bool mx0, .int .i64 mx1, .int .i64 mx2, .int .i64 mx3, .string mx4, .string mx5, .string mx6, .int .i64 mx7, .string mx8]) := ⟨_, rfl⟩
        rw [← hW] at hLW hkW ⊢
        have hbW : Below w3.heap.size w3 W := ⟨hkW.os.trans hbA.os, hkW.tape.trans hbA.tape, hkW.output.trans hbA.output, Nat.le_trans hbA.size hkW.size, fun j hj => (hkW.block j (Nat.lt_of_lt_of_le hj hbA.size) (by simp; omega)).trans (hbA.block j hj)⟩
        refine hK.out _ _ ⟨hHeld.1.same (hkW.block w.heap.size (Nat.lt_of_lt_of_le hz3 hbA.size) (by simp; omega)), hbW⟩ (fun hHeldN => ?_)
        clear hHeld hK K
        have hHeld := hHeldN
        clear hHeldN
        try simp only [Act.put, List.setIfInBounds_toArray, List.set_cons_zero, List.set_cons_succ]
        refine wpAnyH_done (by kernel_rfl) ?_ _
        have HPW := hide ((unhide HP3).below hbW)
        have HWW := hide ((unhide HW3).below hbW)
        have HBW := hide ((unhide HB3).trans (hbW.mono (unhide HB3).size))
        have HXW := hide ((hbW.block w.heap.size hz3).trans (unhide HX3))
        have HLW := hide hLW
        have hLl : w3.heap.size < W.heap.size := (Array.getElem?_eq_some_iff.1 hLW).1
        have hLP : w3.heap.size ∉ powns w2.heap.size v := fun hm => by have := ((unhide HP3).ge _ hm).2; omega
        have hLg : g ≠ w3.heap.size := by have := (unhide HW3).lt.2; omega
        have hLX : w.heap.size ≠ w3.heap.size := by omega
        have hXl : w.heap.size < W.heap.size := by omega
        have hgl : g < W.heap.size := (unhide HWW).lt.2
        clear hHeld hLW hkW hbW hbA hA hV3 hW V3
        by_cases h0 : xa = 0
        · subst h0
          clear hxa1
          have HPc := HPW
          have HWc := HWW
          have HLc := HLW
          have HBc := HBW
          have hgc := hgl
          have hLc := hLl
          obtain ⟨y0, y1, x0, x1, x2, x3, x4, x5, x6, x7, x8⟩ := PStepAt.blk (x := ⟨0, xn, ⟨mx0, mx1, mx2, ⟨mx3, mx4, mx5, mx6⟩, mx7, mx8⟩⟩) (unhide HXW)
          simp only [Nat.zero_add] at y0 y1 x0 x1 x2 x3 x4 x5 x6 x7 x8
          have hcs := PSend_any (unhide HPW) ⟨mx0, mx1, mx2, ⟨mx3, mx4, mx5, mx6⟩, mx7, mx8⟩ (unhide HSX)
          rw [unhide HK] at hcs
          dsimp only [APkt.val] at hcs
          by_cases hk : k < 40
          · have hdec : decide (k < 40) = true := decide_eq_true hk
            have hms : aSend ms ⟨mx0, mx1, mx2, ⟨mx3, mx4, mx5, mx6⟩, mx7, mx8⟩ = ms ++ [⟨mx0, mx1, mx2, ⟨mx3, mx4, mx5, mx6⟩, mx7, mx8⟩] := by unfold aSend; rw [unhide HK, if_pos hk]
            rw [hdec, hms] at hcs
            have HCS := hide hcs
            clear hcs hdec hms
            go_wp2_with fail
            refine (unhide HCS).mono ?_
            rintro e Wd ⟨rfl, hT⟩
            clear y0 y1 x0 x1 x2 x3 x4 x5 x6 x7 x8
            have hbT := hT.below (unhide HPc)
            have HWd := hide ((unhide HWc).same (hT.blk hgc hgP))
            have HLd := hide ((hT.blk hLc hLP).trans (unhide HLc))
            have HBd := hide ((unhide HBc).trans hbT)
            obtain ⟨vd, hrd, _, _⟩ := hT
            have HPd := hide hrd
            clear hbT hrd
            obtain ⟨k1, hk1⟩ : ∃ n, (ms ++ [(⟨mx0, mx1, mx2, ⟨mx3, mx4, mx5, mx6⟩, mx7, mx8⟩ : APkt)]).length = n := ⟨_, rfl⟩
            have HK1 := hide hk1
            have hk1' : k1 = k + 1 := by rw [← hk1, List.length_append, unhide HK]; rfl
            have hki : (k : Int) < (k1 : Int) := by omega
            have hkq : ((k1 : Int) == (k : Int) + 1) = true := by simp; omega
            have hwk : IntKind.i64.wrap ((k : Int) + 1) = (k : Int) + 1 := by rw [IntKind.wrap_i64]; omega
            have hk0 : (0 : Int) ≤ (k : Int) := by omega
            have hk1b : k1 ≤ 41 := by omega
            have HKK := hide hk1'
            clear hk1 hk1'
            have eQ := fun W => eqlP (⟨mx0, mx1, mx2, ⟨mx3, mx4, mx5, mx6⟩, mx7, mx8⟩ : APkt) ⟨mx0, mx1, mx2, ⟨mx3, mx4, mx5, mx6⟩, mx7, mx8⟩ W
            rw [pktB_self] at eQ
            dsimp only [APkt.val] at eQ
            go_wp2_with fail
            refine (List_P (unhide HPd) (unhide HK1)).mono ?_
            rintro e w6 ⟨g6, cap6, rfl, o6, b6⟩
            have HN6 : Hid (WRow Wd.heap.size w6 g6 k1 cap6 (ms ++ [⟨mx0, mx1, mx2, ⟨mx3, mx4, mx5, mx6⟩, mx7, mx8⟩])) := ⟨o6, unhide HK1⟩
            have HW6 := hide ((unhide HWd).below b6)
            have HB6 := hide ((unhide HBd).trans (b6.mono (unhide HBd).size))
            have hL6 := (b6.block _ (Array.getElem?_eq_some_iff.1 (unhide HLd)).1).trans (unhide HLd)
            obtain ⟨hc61, hc62⟩ := (unhide HN6).cap
            unfold maxLen at hc62
            have hkc : (k : Int) ≤ (cap6 : Int) := by omega
            obtain ⟨⟨m0, m1, m2, m3⟩, ⟨m4, m5, m6, m7, m8⟩, _⟩ := nine hL6
            clear o6 b6 hL6
            go_wp2_with fail
            refine wp_region_held_drew (S := (fun wx => (wx.cell? ⟨w3.heap.size, 0, none⟩ = some (.bool mx0) ∧ wx.cell? ⟨w3.heap.size, 1, none⟩ = some (.int .i64 mx1) ∧ wx.cell? ⟨w3.heap.size, 2, none⟩ = some (.int .i64 mx2) ∧ wx.cell? ⟨w3.heap.size, 3, none⟩ = some (.int .i64 mx3) ∧ wx.cell? ⟨w3.heap.size, 4, none⟩ = some (.string mx4) ∧ wx.cell? ⟨w3.heap.size, 5, none⟩ = some (.string mx5) ∧ wx.cell? ⟨w3.heap.size, 6, none⟩ = some (.string mx6) ∧ wx.cell? ⟨w3.heap.size, 7, none⟩ = some (.int .i64 mx7) ∧ wx.cell? ⟨w3.heap.size, 8, none⟩ = some (.string mx8)) ∧ WRow Wd.heap.size wx g6 k1 cap6 (ms ++ [⟨mx0, mx1, mx2, ⟨mx3, mx4, mx5, mx6⟩, mx7, mx8⟩]) ∧ WRow wr.heap.size wx g k cap ms ∧ Below w2.heap.size w2 wx)) (by kernel_rfl) ⟨⟨m0, m1, m2, m3, m4, m5, m6, m7, m8⟩, (unhide HN6).below (below_dr w6), (unhide HW6).below (below_dr w6), (unhide HB6).trans ((below_dr w6).mono (unhide HB6).size)⟩ (fun hHeld => ?_)
            clear m0 m1 m2 m3 m4 m5 m6 m7 m8
            refine wpAnyH_take (i := 0) (v := ?_) opn0 (by kernel_rfl) (by kernel_rfl) (by kernel_rfl) (fun _ _ _ h => h) (Or.inl ⟨by kernel_rfl, ?_⟩) (by assumption) ?_
            rotate_left 1
            · intro wz hSw
              try dsimp only at hSw
              go_simp
              all_goals with_reducible rfl
            try simp only [Act.put, List.setIfInBounds_toArray, List.set_cons_zero, List.set_cons_succ]
            refine wpAnyH_take (i := 1) (v := ?_) opn1 (by kernel_rfl) (by kernel_rfl) (by kernel_rfl) (fun _ _ _ h => h) (Or.inl ⟨by kernel_rfl, ?_⟩) (by assumption) ?_
            rotate_left 1
            · intro wz hSw
              try dsimp only at hSw
              go_simp
              all_goals with_reducible rfl
            try simp only [Act.put, List.setIfInBounds_toArray, List.set_cons_zero, List.set_cons_succ]
            refine wpAnyH_take (i := 2) (v := ?_) opn2 (by kernel_rfl) (by kernel_rfl) (by kernel_rfl) (fun _ _ _ h => h) (Or.inl ⟨by kernel_rfl, ?_⟩) (by assumption) ?_
            rotate_left 1
            · intro wz hSw
              try dsimp only at hSw
              go_simp
              all_goals with_reducible rfl
            try simp only [Act.put, List.setIfInBounds_toArray, List.set_cons_zero, List.set_cons_succ]
            refine wpAnyH_take (i := 3) (v := ?_) opn3 (by kernel_rfl) (by kernel_rfl) (by kernel_rfl) (fun _ _ _ h => h) (Or.inl ⟨by kernel_rfl, ?_⟩) (by assumption) ?_
            rotate_left 1
            · intro wz hSw
              try dsimp only at hSw
              go_simp
              all_goals with_reducible rfl
            try simp only [Act.put, List.setIfInBounds_toArray, List.set_cons_zero, List.set_cons_succ]
            refine wpAnyH_take (i := 4) (v := ?_) opn4 (by kernel_rfl) (by kernel_rfl) (by kernel_rfl) (fun _ _ _ h => h) (Or.inl ⟨by kernel_rfl, ?_⟩) (by assumption) ?_
            rotate_left 1
            · intro wz hSw
              try dsimp only at hSw
              go_simp
              all_goals with_reducible rfl
            try simp only [Act.put, List.setIfInBounds_toArray, List.set_cons_zero, List.set_cons_succ]
            refine wpAnyH_take (i := 5) (v := ?_) opn5 (by kernel_rfl) (by kernel_rfl) (by kernel_rfl) (fun _ _ _ h => h) (Or.inl ⟨by kernel_rfl, ?_⟩) (by assumption) ?_
            rotate_left 1
            · intro wz hSw
              try dsimp only at hSw
              go_simp
              all_goals with_reducible rfl
            try simp only [Act.put, List.setIfInBounds_toArray, List.set_cons_zero, List.set_cons_succ]
            refine wpAnyH_take (i := 6) (v := ?_) opn6 (by kernel_rfl) (by kernel_rfl) (by kernel_rfl) (fun _ _ _ h => h) (Or.inl ⟨by kernel_rfl, ?_⟩) (by assumption) ?_
            rotate_left 1
            · intro wz hSw
              try dsimp only at hSw
              go_simp
              all_goals with_reducible rfl
            try simp only [Act.put, List.setIfInBounds_toArray, List.set_cons_zero, List.set_cons_succ]
            refine wpAnyH_take (i := 7) (v := ?_) opn7 (by kernel_rfl) (by kernel_rfl) (by kernel_rfl) (fun _ _ _ h => h) (Or.inl ⟨by kernel_rfl, ?_⟩) (by assumption) ?_
            rotate_left 1
            · intro wz hSw
              try dsimp only at hSw
              go_simp
              all_goals with_reducible rfl
            try simp only [Act.put, List.setIfInBounds_toArray, List.set_cons_zero, List.set_cons_succ]
            refine wpAnyH_take (i := 8) (v := ?_) opn8 (by kernel_rfl) (by kernel_rfl) (by kernel_rfl) (fun _ _ _ h => h) (Or.inl ⟨by kernel_rfl, ?_⟩) (by assumption) ?_
            rotate_left 1
            · intro wz hSw
              try dsimp only at hSw
              go_simp
              all_goals with_reducible rfl
            try simp only [Act.put, List.setIfInBounds_toArray, List.set_cons_zero, List.set_cons_succ]
            refine wpAnyH_take (i := 9) (v := ?_) opn9 (by kernel_rfl) (by kernel_rfl) (by kernel_rfl) (fun _ _ _ h => h) (Or.inl ⟨by kernel_rfl, ?_⟩) (by assumption) ?_
            rotate_left 1
            · intro wz hSw
              try dsimp only at hSw
              go_simp
              all_goals with_reducible rfl
            try simp only [Act.put, List.setIfInBounds_toArray, List.set_cons_zero, List.set_cons_succ]
            refine wpAnyH_take (i := 10) (v := ?_) opn10 (by kernel_rfl) (by kernel_rfl) (by kernel_rfl) (fun _ _ _ h => h) (Or.inl ⟨by kernel_rfl, ?_⟩) (by assumption) ?_
            rotate_left 1
            · intro wz hSw
              try dsimp only at hSw
              go_simp
              all_goals with_reducible rfl
            try simp only [Act.put, List.setIfInBounds_toArray, List.set_cons_zero, List.set_cons_succ]
            refine wpAnyH_take (i := 11) (v := ?_) opn11 (by kernel_rfl) (by kernel_rfl) (by kernel_rfl) (fun _ _ _ h => h) (Or.inl ⟨by kernel_rfl, ?_⟩) (by assumption) ?_
            rotate_left 1
            · intro wz hSw
              try dsimp only at hSw
              go_simp
              all_goals with_reducible rfl
            try simp only [Act.put, List.setIfInBounds_toArray, List.set_cons_zero, List.set_cons_succ]
            have htk : (ms ++ [(⟨mx0, mx1, mx2, ⟨mx3, mx4, mx5, mx6⟩, mx7, mx8⟩ : APkt)]).take k = ms := by rw [← unhide HK, List.take_left]
            have hpt := hHeld.2.1.take (n := k) (by have := unhide HKK; omega)
            rw [htk] at hpt
            have HPT := hide hpt
            clear htk hpt
            refine wpAnyH_ready (rs := [12]) (by kernel_rfl) (by simp) ?_
            refine AllReadyH.cons opn12 (fun K hK => ?_) AllReadyH.nil
            rw [if_pos (by kernel_rfl)]
            go_simp
            refine (SamePackets_any (some ⟨g6, 0, none⟩) (some ⟨g, 0, none⟩) k k cap6 cap ms ms _ (unhide HPT) (pkts_row hHeld.2.2.1.row (unhide HK)) (by omega) (by omega) true ⟨fun _ => rfl, fun _ => rfl⟩).mono ?_
            rintro e w7 ⟨rfl, b7⟩
            refine hK.out _ _ ⟨⟨(b7.cell (p := ⟨w3.heap.size, 0, none⟩) (World.block_lt_of_cell? _ _ hHeld.1.1)).trans hHeld.1.1, (b7.cell (p := ⟨w3.heap.size, 1, none⟩) (World.block_lt_of_cell? _ _ hHeld.1.2.1)).trans hHeld.1.2.1, (b7.cell (p := ⟨w3.heap.size, 2, none⟩) (World.block_lt_of_cell? _ _ hHeld.1.2.2.1)).trans hHeld.1.2.2.1, (b7.cell (p := ⟨w3.heap.size, 3, none⟩) (World.block_lt_of_cell? _ _ hHeld.1.2.2.2.1)).trans hHeld.1.2.2.2.1, (b7.cell (p := ⟨w3.heap.size, 4, none⟩) (World.block_lt_of_cell? _ _ hHeld.1.2.2.2.2.1)).trans hHeld.1.2.2.2.2.1, (b7.cell (p := ⟨w3.heap.size, 5, none⟩) (World.block_lt_of_cell? _ _ hHeld.1.2.2.2.2.2.1)).trans hHeld.1.2.2.2.2.2.1, (b7.cell (p := ⟨w3.heap.size, 6, none⟩) (World.block_lt_of_cell? _ _ hHeld.1.2.2.2.2.2.2.1)).trans hHeld.1.2.2.2.2.2.2.1, (b7.cell (p := ⟨w3.heap.size, 7, none⟩) (World.block_lt_of_cell? _ _ hHeld.1.2.2.2.2.2.2.2.1)).trans hHeld.1.2.2.2.2.2.2.2.1, (b7.cell (p := ⟨w3.heap.size, 8, none⟩) (World.block_lt_of_cell? _ _ hHeld.1.2.2.2.2.2.2.2.2)).trans hHeld.1.2.2.2.2.2.2.2.2⟩, hHeld.2.1.below b7, hHeld.2.2.1.below b7, hHeld.2.2.2.trans (b7.mono hHeld.2.2.2.size)⟩ (fun hHeldN => ?_)
            clear hHeld hK K
            have hHeld := hHeldN
            clear hHeldN
            try simp only [Act.put, List.setIfInBounds_toArray, List.set_cons_zero, List.set_cons_succ]
            refine wpAnyH_take (i := 13) (v := ?_) opn13 (by kernel_rfl) (by kernel_rfl) (by kernel_rfl) (fun _ _ _ h => h) (Or.inl ⟨by kernel_rfl, ?_⟩) (by assumption) ?_
            rotate_left 1
            · intro wz hSw
              try dsimp only at hSw
              go_simp
              all_goals with_reducible rfl
            try simp only [Act.put, List.setIfInBounds_toArray, List.set_cons_zero, List.set_cons_succ]
            refine wpAnyH_take (i := 14) (v := ?_) opn14 (by kernel_rfl) (by kernel_rfl) (by kernel_rfl) (fun _ _ _ h => h) (Or.inl ⟨by kernel_rfl, ?_⟩) (by assumption) ?_
            rotate_left 1
            · intro wz hSw
              try dsimp only at hSw
              go_simp
              all_goals with_reducible rfl
            try simp only [Act.put, List.setIfInBounds_toArray, List.set_cons_zero, List.set_cons_succ]
            refine wpAnyH_take (i := 15) (v := ?_) opn15 (by kernel_rfl) (by kernel_rfl) (by kernel_rfl) (fun _ _ _ h => h) (Or.inl ⟨by kernel_rfl, ?_⟩) (by assumption) ?_
            rotate_left 1
            · intro wz hSw
              try dsimp only at hSw
              go_simp
              all_goals with_reducible rfl
            try simp only [Act.put, List.setIfInBounds_toArray, List.set_cons_zero, List.set_cons_succ]
            refine wpAnyH_take (i := 16) (v := ?_) opn16 (by kernel_rfl) (by kernel_rfl) (by kernel_rfl) (fun _ _ _ h => h) (Or.inl ⟨by kernel_rfl, ?_⟩) (by assumption) ?_
            rotate_left 1
            · intro wz hSw
              try dsimp only at hSw
              go_simp
              all_goals with_reducible rfl
            try simp only [Act.put, List.setIfInBounds_toArray, List.set_cons_zero, List.set_cons_succ]
            refine wpAnyH_take (i := 17) (v := ?_) opn17 (by kernel_rfl) (by kernel_rfl) (by kernel_rfl) (fun _ _ _ h => h) (Or.inl ⟨by kernel_rfl, ?_⟩) (by assumption) ?_
            rotate_left 1
            · intro wz hSw
              try dsimp only at hSw
              go_simp
              all_goals with_reducible rfl
            try simp only [Act.put, List.setIfInBounds_toArray, List.set_cons_zero, List.set_cons_succ]
            refine wpAnyH_take (i := 18) (v := ?_) opn18 (by kernel_rfl) (by kernel_rfl) (by kernel_rfl) (fun _ _ _ h => h) (Or.inl ⟨by kernel_rfl, ?_⟩) (by assumption) ?_
            rotate_left 1
            · intro wz hSw
              try dsimp only at hSw
              go_simp
              all_goals with_reducible rfl
            try simp only [Act.put, List.setIfInBounds_toArray, List.set_cons_zero, List.set_cons_succ]
            refine wpAnyH_take (i := 19) (v := ?_) opn19 (by kernel_rfl) (by kernel_rfl) (by kernel_rfl) (fun _ _ _ h => h) (Or.inl ⟨by kernel_rfl, ?_⟩) (by assumption) ?_
            rotate_left 1
            · intro wz hSw
              try dsimp only at hSw
              have hqa := hSw.2.1.at (j := k) (m := ⟨mx0, mx1, mx2, ⟨mx3, mx4, mx5, mx6⟩, mx7, mx8⟩) (by rw [← unhide HK]; simp)
              obtain ⟨q0, q1, q2, q3, q4, q5, q6, q7, q8⟩ := hqa
              go_simp
              all_goals with_reducible rfl
            try simp only [Act.put, List.setIfInBounds_toArray, List.set_cons_zero, List.set_cons_succ]
            refine wpAnyH_take (i := 20) (v := ?_) opn20 (by kernel_rfl) (by kernel_rfl) (by kernel_rfl) (fun _ _ _ h => h) (Or.inl ⟨by kernel_rfl, ?_⟩) (by assumption) ?_
            rotate_left 1
            · intro wz hSw
              try dsimp only at hSw
              obtain ⟨q0, q1, q2, q3, q4, q5, q6, q7, q8⟩ := hSw.1
              go_simp
              all_goals with_reducible rfl
            try simp only [Act.put, List.setIfInBounds_toArray, List.set_cons_zero, List.set_cons_succ]
            refine wpAnyH_take (i := 21) (v := .bool true) opn21 (by kernel_rfl) (by kernel_rfl) (by kernel_rfl) (fun _ _ _ h => h) (Or.inl ⟨by kernel_rfl, ?_⟩) (by assumption) ?_
            · intro wz hSw
              exact yields_bin rfl (by simp [Act.eval]) (by simp [Act.eval]) (eQ wz) (guardP _ _ _ _ wz)
            try simp only [Act.put, List.setIfInBounds_toArray, List.set_cons_zero, List.set_cons_succ]
            refine wpAnyH_take (i := 22) (v := ?_) opn22 (by kernel_rfl) (by kernel_rfl) (by kernel_rfl) (fun _ _ _ h => h) (Or.inl ⟨by kernel_rfl, ?_⟩) (by assumption) ?_
            rotate_left 1
            · intro wz hSw
              try dsimp only at hSw
              go_simp
              all_goals with_reducible rfl
            try simp only [Act.put, List.setIfInBounds_toArray, List.set_cons_zero, List.set_cons_succ]
            refine wpAnyH_take (i := 23) (v := ?_) opn23 (by kernel_rfl) (by kernel_rfl) (by kernel_rfl) (fun _ _ _ h => h) (Or.inl ⟨by kernel_rfl, ?_⟩) (by assumption) ?_
            rotate_left 1
            · intro wz hSw
              try dsimp only at hSw
              go_simp
              all_goals with_reducible rfl
            try simp only [Act.put, List.setIfInBounds_toArray, List.set_cons_zero, List.set_cons_succ]
            refine wpAnyH_done (by kernel_rfl) ?_ _
            have HBZ := hide ((unhide HB2).trans (hHeld.2.2.2.mono (unhide HB2).size))
            clear hHeld
            go_wp2
            go_ret
            exact ⟨rfl, unhide HBZ⟩
          · have hdec : decide (k < 40) = false := decide_eq_false hk
            have hms : aSend ms ⟨mx0, mx1, mx2, ⟨mx3, mx4, mx5, mx6⟩, mx7, mx8⟩ = ms := by unfold aSend; rw [unhide HK, if_neg hk]
            rw [hdec, hms] at hcs
            have HCS := hide hcs
            clear hcs hdec hms
            go_wp2_with fail
            refine (unhide HCS).mono ?_
            rintro e Wd ⟨rfl, hT⟩
            clear y0 y1 x0 x1 x2 x3 x4 x5 x6 x7 x8
            have hbT := hT.below (unhide HPc)
            have HWd := hide ((unhide HWc).same (hT.blk hgc hgP))
            have HLd := hide ((hT.blk hLc hLP).trans (unhide HLc))
            have HBd := hide ((unhide HBc).trans hbT)
            obtain ⟨vd, hrd, _, _⟩ := hT
            have HPd := hide hrd
            clear hbT hrd
            go_wp2_with fail
            refine (List_P (unhide HPd) (unhide HK)).mono ?_
            rintro e w6 ⟨g6, cap6, rfl, o6, b6⟩
            have HW6 := hide ((unhide HWd).below b6)
            have HB6 := hide ((unhide HBd).trans (b6.mono (unhide HBd).size))
            have HSP := hide (SamePackets_any (some ⟨g, 0, none⟩) (some ⟨g6, 0, none⟩) k k cap cap6 ms ms w6 (pkts_row (unhide HW6).row (unhide HK)) (pkts_row o6 (unhide HK)) (by omega) (by omega) true ⟨fun _ => rfl, fun _ => rfl⟩)
            clear o6 b6
            go_wp2_with fail
            refine (unhide HSP).mono ?_
            rintro e w7 ⟨rfl, b7⟩
            have HBF := hide ((unhide HB2).trans (((unhide HB6).trans (b7.mono (unhide HB6).size)).mono (unhide HB2).size))
            clear b7
            go_wp2
            go_ret
            exact ⟨rfl, unhide HBF⟩
        by_cases h2 : xa = 2
        · subst h2
          clear hxa1 h0
          by_cases hk0 : k = 0
          · have hms : ms = [] := List.length_eq_zero_iff.1 (by rw [unhide HK, hk0])
            have hcs := PDbl_any (unhide HPW) xn
            have e1 : aDblB ms = false := by rw [hms]; rfl
            have e2 : aDblL ms xn = ms := by rw [hms]; rfl
            rw [e1, e2] at hcs
            have HCS := hide hcs
            have hkz : ¬ ((0 : Int) < (k : Int)) := by omega
            clear hcs e1 e2 hms hk0
            have HPc := HPW
            have HWc := HWW
            have HLc := HLW
            have HBc := HBW
            have hgc := hgl
            have hLc := hLl
            obtain ⟨y0, y1, x0, x1, x2, x3, x4, x5, x6, x7, x8⟩ := PStepAt.blk (x := ⟨2, xn, ⟨mx0, mx1, mx2, ⟨mx3, mx4, mx5, mx6⟩, mx7, mx8⟩⟩) (unhide HXW)
            simp only [Nat.zero_add] at y0 y1 x0 x1 x2 x3 x4 x5 x6 x7 x8
            go_wp2_with fail
            refine (unhide HCS).mono ?_
            rintro e Wd ⟨rfl, hT⟩
            clear y0 y1 x0 x1 x2 x3 x4 x5 x6 x7 x8
            have hbT := hT.below (unhide HPc)
            have HWd := hide ((unhide HWc).same (hT.blk hgc hgP))
            have HLd := hide ((hT.blk hLc hLP).trans (unhide HLc))
            have HBd := hide ((unhide HBc).trans hbT)
            obtain ⟨vd, hrd, _, _⟩ := hT
            have HPd := hide hrd
            clear hbT hrd
            go_wp2_with fail
            refine (List_P (unhide HPd) (unhide HK)).mono ?_
            rintro e w6 ⟨g6, cap6, rfl, o6, b6⟩
            have HW6 := hide ((unhide HWd).below b6)
            have HB6 := hide ((unhide HBd).trans (b6.mono (unhide HBd).size))
            have HSP := hide (SamePackets_any (some ⟨g, 0, none⟩) (some ⟨g6, 0, none⟩) k k cap cap6 ms ms w6 (pkts_row (unhide HW6).row (unhide HK)) (pkts_row o6 (unhide HK)) (by omega) (by omega) true ⟨fun _ => rfl, fun _ => rfl⟩)
            clear o6 b6
            go_wp2_with fail
            refine (unhide HSP).mono ?_
            rintro e w7 ⟨rfl, b7⟩
            have HBF := hide ((unhide HB2).trans (((unhide HB6).trans (b7.mono (unhide HB6).size)).mono (unhide HB2).size))
            clear b7
            go_wp2
            go_ret
            exact ⟨rfl, unhide HBF⟩
          have hkp : 0 < k := by omega
          have hkpi : (0 : Int) < (k : Int) := by omega
          obtain ⟨r, hr⟩ : ∃ r, rnd xn k = r := ⟨_, rfl⟩
          have hv := rnd_val xn hkp hk40
          have hrk := rnd_lt xn hkp
          rw [hr] at hv hrk
          have hv2 : wrap64 (Int.tmod (IntKind.u64.wrap xn) (k : Int)) = (r : Int) := by
            have h1 : IntKind.u64.wrap (k : Int) = k := by rw [wrap_u]; omega
            rw [h1] at hv
            exact hv
          have hne : ¬ (IntKind.u64.wrap (k : Int) = 0) := by rw [wrap_u]; omega
          have htk := take_some (ms := ms) xn (by rw [unhide HK]; exact hkp)
          rw [unhide HK, hr, unhide HTM] at htk
          have hri : (r : Int) < (k : Int) := by omega
          have hr0 : (0 : Int) ≤ (r : Int) := by omega
          have hat := (unhide HWW).at htk
          obtain ⟨t0, t1, t2, ⟨t3, t4, t5, t6⟩, t7, t8⟩ := tm
          obtain ⟨z0, z1, z2, z3, z4, z5, z6, z7, z8⟩ := hat
          obtain ⟨W2, hW2⟩ : ∃ W2, W2 = W.setRow w3.heap.size #[.bool t0, .int .i64 t1, .int .i64 t2, .int .i64 t3, .string t4, .string t5, .string t6, .int .i64 t7, .string t8] := ⟨_, rfl⟩
          have hkW2 : Kept [w3.heap.size] W W2 := by
            rw [hW2]
            exact kept_setRow W _ _
          have HLc : Hid (W2.heap[w3.heap.size]? = some (.cells #[.bool t0, .int .i64 t1, .int .i64 t2, .int .i64 t3, .string t4, .string t5, .string t6, .int .i64 t7, .string t8] 33 (0, 0))) := by rw [hW2]; exact setRow_heap W w3.heap.size _ _ 33 (0, 0) (unhide HLW)
          have HPc := hide ((unhide HPW).kept hkW2 (fun j h1 h2 => by simp at h2; subst h2; exact hLP h1))
          have HWc := hide ((unhide HWW).same (hkW2.block g hgl (by simp; omega)))
          have HBc := hide ((unhide HBW).trans (hkW2.below (unhide HBW).size (fun j h1 => by simp at h1; subst h1; exact (unhide HB3).size)))
          have HXc := hide ((hkW2.block w.heap.size hXl (by simp; omega)).trans (unhide HXW))
          have hgc : g < W2.heap.size := (unhide HWc).lt.2
          have hLc : w3.heap.size < W2.heap.size := (Array.getElem?_eq_some_iff.1 (unhide HLc)).1
          have hLrow := unhide HLW
          have hcs := PDbl_any (unhide HPc) xn
          have e1 : aDblB ms = decide (k < 40) := by unfold aDblB; rw [unhide HK, decide_eq_true hkp, Bool.true_and]
          have e2 : aDblL ms xn = aSend ms ⟨t0, t1, t2, ⟨t3, t4, t5, t6⟩, t7, t8⟩ := by unfold aDblL; rw [unhide HK, if_pos hkp, unhide HTM]
          rw [e1, e2] at hcs
          have HW2 := hide hW2
          clear hr htk e1 e2 hkW2 hW2
          by_cases hk : k < 40
          · have hdec : decide (k < 40) = true := decide_eq_true hk
            have hms : aSend ms ⟨t0, t1, t2, ⟨t3, t4, t5, t6⟩, t7, t8⟩ = ms ++ [⟨t0, t1, t2, ⟨t3, t4, t5, t6⟩, t7, t8⟩] := by unfold aSend; rw [unhide HK, if_pos hk]
            rw [hdec, hms] at hcs
            have HCS := hide hcs
            clear hcs hdec hms
            obtain ⟨y0, y1, x0, x1, x2, x3, x4, x5, x6, x7, x8⟩ := PStepAt.blk (x := ⟨2, xn, ⟨mx0, mx1, mx2, ⟨mx3, mx4, mx5, mx6⟩, mx7, mx8⟩⟩) (unhide HXW)
            simp only [Nat.zero_add] at y0 y1 x0 x1 x2 x3 x4 x5 x6 x7 x8
            have hxc := unhide HXc
            rw [unhide HW2] at hxc
            obtain ⟨p0, p1, _, _, _, _, _, _, _, _, _⟩ := PStepAt.blk (x := ⟨2, xn, ⟨mx0, mx1, mx2, ⟨mx3, mx4, mx5, mx6⟩, mx7, mx8⟩⟩) hxc
            simp only [Nat.zero_add] at p0 p1
            clear hxc
            go_wp2_with (refine wpList_store_row rfl 33 _ _ rfl w3.heap.size #[.bool t0, .int .i64 t1, .int .i64 t2, .int .i64 t3, .string t4, .string t5, .string t6, .int .i64 t7, .string t8] rfl rfl 33 _ hLrow infoP rfl (by simp [Value.oneCell']) ?_)
            rw [← unhide HW2]
            clear z0 z1 z2 z3 z4 z5 z6 z7 z8 hLrow p0 p1
            refine (unhide HCS).mono ?_
            rintro e Wd ⟨rfl, hT⟩
            clear y0 y1 x0 x1 x2 x3 x4 x5 x6 x7 x8
            have hbT := hT.below (unhide HPc)
            have HWd := hide ((unhide HWc).same (hT.blk hgc hgP))
            have HLd := hide ((hT.blk hLc hLP).trans (unhide HLc))
            have HBd := hide ((unhide HBc).trans hbT)
            obtain ⟨vd, hrd, _, _⟩ := hT
            have HPd := hide hrd
            clear hbT hrd
            obtain ⟨k1, hk1⟩ : ∃ n, (ms ++ [(⟨t0, t1, t2, ⟨t3, t4, t5, t6⟩, t7, t8⟩ : APkt)]).length = n := ⟨_, rfl⟩
            have HK1 := hide hk1
            have hk1' : k1 = k + 1 := by rw [← hk1, List.length_append, unhide HK]; rfl
            have hki : (k : Int) < (k1 : Int) := by omega
            have hkq : ((k1 : Int) == (k : Int) + 1) = true := by simp; omega
            have hwk : IntKind.i64.wrap ((k : Int) + 1) = (k : Int) + 1 := by rw [IntKind.wrap_i64]; omega
            have hk0 : (0 : Int) ≤ (k : Int) := by omega
            have hk1b : k1 ≤ 41 := by omega
            have HKK := hide hk1'
            clear hk1 hk1'
            have eQ := fun W => eqlP (⟨t0, t1, t2, ⟨t3, t4, t5, t6⟩, t7, t8⟩ : APkt) ⟨t0, t1, t2, ⟨t3, t4, t5, t6⟩, t7, t8⟩ W
            rw [pktB_self] at eQ
            dsimp only [APkt.val] at eQ
            go_wp2_with fail
            refine (List_P (unhide HPd) (unhide HK1)).mono ?_
            rintro e w6 ⟨g6, cap6, rfl, o6, b6⟩
            have HN6 : Hid (WRow Wd.heap.size w6 g6 k1 cap6 (ms ++ [⟨t0, t1, t2, ⟨t3, t4, t5, t6⟩, t7, t8⟩])) := ⟨o6, unhide HK1⟩
            have HW6 := hide ((unhide HWd).below b6)
            have HB6 := hide ((unhide HBd).trans (b6.mono (unhide HBd).size))
            have hL6 := (b6.block _ (Array.getElem?_eq_some_iff.1 (unhide HLd)).1).trans (unhide HLd)
            obtain ⟨hc61, hc62⟩ := (unhide HN6).cap
            unfold maxLen at hc62
            have hkc : (k : Int) ≤ (cap6 : Int) := by omega
            obtain ⟨⟨m0, m1, m2, m3⟩, ⟨m4, m5, m6, m7, m8⟩, _⟩ := nine hL6
            clear o6 b6 hL6
            go_wp2_with fail
            refine wp_region_held_drew (S := (fun wx => (wx.cell? ⟨w3.heap.size, 0, none⟩ = some (.bool t0) ∧ wx.cell? ⟨w3.heap.size, 1, none⟩ = some (.int .i64 t1) ∧ wx.cell? ⟨w3.heap.size, 2, none⟩ = some (.int .i64 t2) ∧ wx.cell? ⟨w3.heap.size, 3, none⟩ = some (.int .i64 t3) ∧ wx.cell? ⟨w3.heap.size, 4, none⟩ = some (.string t4) ∧ wx.cell? ⟨w3.heap.size, 5, none⟩ = some (.string t5) ∧ wx.cell? ⟨w3.heap.size, 6, none⟩ = some (.string t6) ∧ wx.cell? ⟨w3.heap.size, 7, none⟩ = some (.int .i64 t7) ∧ wx.cell? ⟨w3.heap.size, 8, none⟩ = some (.string t8)) ∧ WRow Wd.heap.size wx g6 k1 cap6 (ms ++ [⟨t0, t1, t2, ⟨t3, t4, t5, t6⟩, t7, t8⟩]) ∧ WRow wr.heap.size wx g k cap ms ∧ Below w2.heap.size w2 wx)) (by kernel_rfl) ⟨⟨m0, m1, m2, m3, m4, m5, m6, m7, m8⟩, (unhide HN6).below (below_dr w6), (unhide HW6).below (below_dr w6), (unhide HB6).trans ((below_dr w6).mono (unhide HB6).size)⟩ (fun hHeld => ?_)
            clear m0 m1 m2 m3 m4 m5 m6 m7 m8
            refine wpAnyH_take (i := 0) (v := ?_) opn0 (by kernel_rfl) (by kernel_rfl) (by kernel_rfl) (fun _ _ _ h => h) (Or.inl ⟨by kernel_rfl, ?_⟩) (by assumption) ?_
            rotate_left 1
            · intro wz hSw
              try dsimp only at hSw
              go_simp
              all_goals with_reducible rfl
            try simp only [Act.put, List.setIfInBounds_toArray, List.set_cons_zero, List.set_cons_succ]
            refine wpAnyH_take (i := 1) (v := ?_) opn1 (by kernel_rfl) (by kernel_rfl) (by kernel_rfl) (fun _ _ _ h => h) (Or.inl ⟨by kernel_rfl, ?_⟩) (by assumption) ?_
            rotate_left 1
            · intro wz hSw
              try dsimp only at hSw
              go_simp
              all_goals with_reducible rfl
            try simp only [Act.put, List.setIfInBounds_toArray, List.set_cons_zero, List.set_cons_succ]
            refine wpAnyH_take (i := 2) (v := ?_) opn2 (by kernel_rfl) (by kernel_rfl) (by kernel_rfl) (fun _ _ _ h => h) (Or.inl ⟨by kernel_rfl, ?_⟩) (by assumption) ?_
            rotate_left 1
            · intro wz hSw
              try dsimp only at hSw
              go_simp
              all_goals with_reducible rfl
            try simp only [Act.put, List.setIfInBounds_toArray, List.set_cons_zero, List.set_cons_succ]
            refine wpAnyH_take (i := 3) (v := ?_) opn3 (by kernel_rfl) (by kernel_rfl) (by kernel_rfl) (fun _ _ _ h => h) (Or.inl ⟨by kernel_rfl, ?_⟩) (by assumption) ?_
            rotate_left 1
            · intro wz hSw
              try dsimp only at hSw
              go_simp
              all_goals with_reducible rfl
            try simp only [Act.put, List.setIfInBounds_toArray, List.set_cons_zero, List.set_cons_succ]
            refine wpAnyH_take (i := 4) (v := ?_) opn4 (by kernel_rfl) (by kernel_rfl) (by kernel_rfl) (fun _ _ _ h => h) (Or.inl ⟨by kernel_rfl, ?_⟩) (by assumption) ?_
            rotate_left 1
            · intro wz hSw
              try dsimp only at hSw
              go_simp
              all_goals with_reducible rfl
            try simp only [Act.put, List.setIfInBounds_toArray, List.set_cons_zero, List.set_cons_succ]
            refine wpAnyH_take (i := 5) (v := ?_) opn5 (by kernel_rfl) (by kernel_rfl) (by kernel_rfl) (fun _ _ _ h => h) (Or.inl ⟨by kernel_rfl, ?_⟩) (by assumption) ?_
            rotate_left 1
            · intro wz hSw
              try dsimp only at hSw
              go_simp
              all_goals with_reducible rfl
            try simp only [Act.put, List.setIfInBounds_toArray, List.set_cons_zero, List.set_cons_succ]
            refine wpAnyH_take (i := 6) (v := ?_) opn6 (by kernel_rfl) (by kernel_rfl) (by kernel_rfl) (fun _ _ _ h => h) (Or.inl ⟨by kernel_rfl, ?_⟩) (by assumption) ?_
            rotate_left 1
            · intro wz hSw
              try dsimp only at hSw
              go_simp
              all_goals with_reducible rfl
            try simp only [Act.put, List.setIfInBounds_toArray, List.set_cons_zero, List.set_cons_succ]
            refine wpAnyH_take (i := 7) (v := ?_) opn7 (by kernel_rfl) (by kernel_rfl) (by kernel_rfl) (fun _ _ _ h => h) (Or.inl ⟨by kernel_rfl, ?_⟩) (by assumption) ?_
            rotate_left 1
            · intro wz hSw
              try dsimp only at hSw
              go_simp
              all_goals with_reducible rfl
            try simp only [Act.put, List.setIfInBounds_toArray, List.set_cons_zero, List.set_cons_succ]
            refine wpAnyH_take (i := 8) (v := ?_) opn8 (by kernel_rfl) (by kernel_rfl) (by kernel_rfl) (fun _ _ _ h => h) (Or.inl ⟨by kernel_rfl, ?_⟩) (by assumption) ?_
            rotate_left 1
            · intro wz hSw
              try dsimp only at hSw
              go_simp
              all_goals with_reducible rfl
            try simp only [Act.put, List.setIfInBounds_toArray, List.set_cons_zero, List.set_cons_succ]
            refine wpAnyH_take (i := 9) (v := ?_) opn9 (by kernel_rfl) (by kernel_rfl) (by kernel_rfl) (fun _ _ _ h => h) (Or.inl ⟨by kernel_rfl, ?_⟩) (by assumption) ?_
            rotate_left 1
            · intro wz hSw
              try dsimp only at hSw
              go_simp
              all_goals with_reducible rfl
            try simp only [Act.put, List.setIfInBounds_toArray, List.set_cons_zero, List.set_cons_succ]
            refine wpAnyH_take (i := 10) (v := ?_) opn10 (by kernel_rfl) (by kernel_rfl) (by kernel_rfl) (fun _ _ _ h => h) (Or.inl ⟨by kernel_rfl, ?_⟩) (by assumption) ?_
            rotate_left 1
            · intro wz hSw
              try dsimp only at hSw
              go_simp
              all_goals with_reducible rfl
            try simp only [Act.put, List.setIfInBounds_toArray, List.set_cons_zero, List.set_cons_succ]
            refine wpAnyH_take (i := 11) (v := ?_) opn11 (by kernel_rfl) (by kernel_rfl) (by kernel_rfl) (fun _ _ _ h => h) (Or.inl ⟨by kernel_rfl, ?_⟩) (by assumption) ?_
            rotate_left 1
            · intro wz hSw
              try dsimp only at hSw
              go_simp
              all_goals with_reducible rfl
            try simp only [Act.put, List.setIfInBounds_toArray, List.set_cons_zero, List.set_cons_succ]
            have htk : (ms ++ [(⟨t0, t1, t2, ⟨t3, t4, t5, t6⟩, t7, t8⟩ : APkt)]).take k = ms := by rw [← unhide HK, List.take_left]
            have hpt := hHeld.2.1.take (n := k) (by have := unhide HKK; omega)
            rw [htk] at hpt
            have HPT := hide hpt
            clear htk hpt
            refine wpAnyH_ready (rs := [12]) (by kernel_rfl) (by simp) ?_
            refine AllReadyH.cons opn12 (fun K hK => ?_) AllReadyH.nil
            rw [if_pos (by kernel_rfl)]
            go_simp
            refine (SamePackets_any (some ⟨g6, 0, none⟩) (some ⟨g, 0, none⟩) k k cap6 cap ms ms _ (unhide HPT) (pkts_row hHeld.2.2.1.row (unhide HK)) (by omega) (by omega) true ⟨fun _ => rfl, fun _ => rfl⟩).mono ?_
            rintro e w7 ⟨rfl, b7⟩
            refine hK.out _ _ ⟨⟨(b7.cell (p := ⟨w3.heap.size, 0, none⟩) (World.block_lt_of_cell? _ _ hHeld.1.1)).trans hHeld.1.1, (b7.cell (p := ⟨w3.heap.size, 1, none⟩) (World.block_lt_of_cell? _ _ hHeld.1.2.1)).trans hHeld.1.2.1, (b7.cell (p := ⟨w3.heap.size, 2, none⟩) (World.block_lt_of_cell? _ _ hHeld.1.2.2.1)).trans hHeld.1.2.2.1, (b7.cell (p := ⟨w3.heap.size, 3, none⟩) (World.block_lt_of_cell? _ _ hHeld.1.2.2.2.1)).trans hHeld.1.2.2.2.1, (b7.cell (p := ⟨w3.heap.size, 4, none⟩) (World.block_lt_of_cell? _ _ hHeld.1.2.2.2.2.1)).trans hHeld.1.2.2.2.2.1, (b7.cell (p := ⟨w3.heap.size, 5, none⟩) (World.block_lt_of_cell? _ _ hHeld.1.2.2.2.2.2.1)).trans hHeld.1.2.2.2.2.2.1, (b7.cell (p := ⟨w3.heap.size, 6, none⟩) (World.block_lt_of_cell? _ _ hHeld.1.2.2.2.2.2.2.1)).trans hHeld.1.2.2.2.2.2.2.1, (b7.cell (p := ⟨w3.heap.size, 7, none⟩) (World.block_lt_of_cell? _ _ hHeld.1.2.2.2.2.2.2.2.1)).trans hHeld.1.2.2.2.2.2.2.2.1, (b7.cell (p := ⟨w3.heap.size, 8, none⟩) (World.block_lt_of_cell? _ _ hHeld.1.2.2.2.2.2.2.2.2)).trans hHeld.1.2.2.2.2.2.2.2.2⟩, hHeld.2.1.below b7, hHeld.2.2.1.below b7, hHeld.2.2.2.trans (b7.mono hHeld.2.2.2.size)⟩ (fun hHeldN => ?_)
            clear hHeld hK K
            have hHeld := hHeldN
            clear hHeldN
            try simp only [Act.put, List.setIfInBounds_toArray, List.set_cons_zero, List.set_cons_succ]
            refine wpAnyH_take (i := 13) (v := ?_) opn13 (by kernel_rfl) (by kernel_rfl) (by kernel_rfl) (fun _ _ _ h => h) (Or.inl ⟨by kernel_rfl, ?_⟩) (by assumption) ?_
            rotate_left 1
            · intro wz hSw
              try dsimp only at hSw
              go_simp
              all_goals with_reducible rfl
            try simp only [Act.put, List.setIfInBounds_toArray, List.set_cons_zero, List.set_cons_succ]
            refine wpAnyH_take (i := 14) (v := ?_) opn14 (by kernel_rfl) (by kernel_rfl) (by kernel_rfl) (fun _ _ _ h => h) (Or.inl ⟨by kernel_rfl, ?_⟩) (by assumption) ?_
            rotate_left 1
            · intro wz hSw
              try dsimp only at hSw
              go_simp
              all_goals with_reducible rfl
            try simp only [Act.put, List.setIfInBounds_toArray, List.set_cons_zero, List.set_cons_succ]
            refine wpAnyH_take (i := 15) (v := ?_) opn15 (by kernel_rfl) (by kernel_rfl) (by kernel_rfl) (fun _ _ _ h => h) (Or.inl ⟨by kernel_rfl, ?_⟩) (by assumption) ?_
            rotate_left 1
            · intro wz hSw
              try dsimp only at hSw
              go_simp
              all_goals with_reducible rfl
            try simp only [Act.put, List.setIfInBounds_toArray, List.set_cons_zero, List.set_cons_succ]
            refine wpAnyH_take (i := 16) (v := ?_) opn16 (by kernel_rfl) (by kernel_rfl) (by kernel_rfl) (fun _ _ _ h => h) (Or.inl ⟨by kernel_rfl, ?_⟩) (by assumption) ?_
            rotate_left 1
            · intro wz hSw
              try dsimp only at hSw
              go_simp
              all_goals with_reducible rfl
            try simp only [Act.put, List.setIfInBounds_toArray, List.set_cons_zero, List.set_cons_succ]
            refine wpAnyH_take (i := 17) (v := ?_) opn17 (by kernel_rfl) (by kernel_rfl) (by kernel_rfl) (fun _ _ _ h => h) (Or.inl ⟨by kernel_rfl, ?_⟩) (by assumption) ?_
            rotate_left 1
            · intro wz hSw
              try dsimp only at hSw
              go_simp
              all_goals with_reducible rfl
            try simp only [Act.put, List.setIfInBounds_toArray, List.set_cons_zero, List.set_cons_succ]
            refine wpAnyH_take (i := 18) (v := ?_) opn18 (by kernel_rfl) (by kernel_rfl) (by kernel_rfl) (fun _ _ _ h => h) (Or.inl ⟨by kernel_rfl, ?_⟩) (by assumption) ?_
            rotate_left 1
            · intro wz hSw
              try dsimp only at hSw
              go_simp
              all_goals with_reducible rfl
            try simp only [Act.put, List.setIfInBounds_toArray, List.set_cons_zero, List.set_cons_succ]
            refine wpAnyH_take (i := 19) (v := ?_) opn19 (by kernel_rfl) (by kernel_rfl) (by kernel_rfl) (fun _ _ _ h => h) (Or.inl ⟨by kernel_rfl, ?_⟩) (by assumption) ?_
            rotate_left 1
            · intro wz hSw
              try dsimp only at hSw
              have hqa := hSw.2.1.at (j := k) (m := ⟨t0, t1, t2, ⟨t3, t4, t5, t6⟩, t7, t8⟩) (by rw [← unhide HK]; simp)
              obtain ⟨q0, q1, q2, q3, q4, q5, q6, q7, q8⟩ := hqa
              go_simp
              all_goals with_reducible rfl
            try simp only [Act.put, List.setIfInBounds_toArray, List.set_cons_zero, List.set_cons_succ]
            refine wpAnyH_take (i := 20) (v := ?_) opn20 (by kernel_rfl) (by kernel_rfl) (by kernel_rfl) (fun _ _ _ h => h) (Or.inl ⟨by kernel_rfl, ?_⟩) (by assumption) ?_
            rotate_left 1
            · intro wz hSw
              try dsimp only at hSw
              obtain ⟨q0, q1, q2, q3, q4, q5, q6, q7, q8⟩ := hSw.1
              go_simp
              all_goals with_reducible rfl
            try simp only [Act.put, List.setIfInBounds_toArray, List.set_cons_zero, List.set_cons_succ]
            refine wpAnyH_take (i := 21) (v := .bool true) opn21 (by kernel_rfl) (by kernel_rfl) (by kernel_rfl) (fun _ _ _ h => h) (Or.inl ⟨by kernel_rfl, ?_⟩) (by assumption) ?_
            · intro wz hSw
              exact yields_bin rfl (by simp [Act.eval]) (by simp [Act.eval]) (eQ wz) (guardP _ _ _ _ wz)
            try simp only [Act.put, List.setIfInBounds_toArray, List.set_cons_zero, List.set_cons_succ]
            refine wpAnyH_take (i := 22) (v := ?_) opn22 (by kernel_rfl) (by kernel_rfl) (by kernel_rfl) (fun _ _ _ h => h) (Or.inl ⟨by kernel_rfl, ?_⟩) (by assumption) ?_
            rotate_left 1
            · intro wz hSw
              try dsimp only at hSw
              go_simp
              all_goals with_reducible rfl
            try simp only [Act.put, List.setIfInBounds_toArray, List.set_cons_zero, List.set_cons_succ]
            refine wpAnyH_take (i := 23) (v := ?_) opn23 (by kernel_rfl) (by kernel_rfl) (by kernel_rfl) (fun _ _ _ h => h) (Or.inl ⟨by kernel_rfl, ?_⟩) (by assumption) ?_
            rotate_left 1
            · intro wz hSw
              try dsimp only at hSw
              go_simp
              all_goals with_reducible rfl
            try simp only [Act.put, List.setIfInBounds_toArray, List.set_cons_zero, List.set_cons_succ]
            refine wpAnyH_done (by kernel_rfl) ?_ _
            have HBZ := hide ((unhide HB2).trans (hHeld.2.2.2.mono (unhide HB2).size))
            clear hHeld
            go_wp2
            go_ret
            exact ⟨rfl, unhide HBZ⟩
          · have hdec : decide (k < 40) = false := decide_eq_false hk
            have hms : aSend ms ⟨t0, t1, t2, ⟨t3, t4, t5, t6⟩, t7, t8⟩ = ms := by unfold aSend; rw [unhide HK, if_neg hk]
            rw [hdec, hms] at hcs
            have HCS := hide hcs
            clear hcs hdec hms
            obtain ⟨y0, y1, x0, x1, x2, x3, x4, x5, x6, x7, x8⟩ := PStepAt.blk (x := ⟨2, xn, ⟨mx0, mx1, mx2, ⟨mx3, mx4, mx5, mx6⟩, mx7, mx8⟩⟩) (unhide HXW)
            simp only [Nat.zero_add] at y0 y1 x0 x1 x2 x3 x4 x5 x6 x7 x8
            have hxc := unhide HXc
            rw [unhide HW2] at hxc
            obtain ⟨p0, p1, _, _, _, _, _, _, _, _, _⟩ := PStepAt.blk (x := ⟨2, xn, ⟨mx0, mx1, mx2, ⟨mx3, mx4, mx5, mx6⟩, mx7, mx8⟩⟩) hxc
            simp only [Nat.zero_add] at p0 p1
            clear hxc
            go_wp2_with (refine wpList_store_row rfl 33 _ _ rfl w3.heap.size #[.bool t0, .int .i64 t1, .int .i64 t2, .int .i64 t3, .string t4, .string t5, .string t6, .int .i64 t7, .string t8] rfl rfl 33 _ hLrow infoP rfl (by simp [Value.oneCell']) ?_)
            rw [← unhide HW2]
            clear z0 z1 z2 z3 z4 z5 z6 z7 z8 hLrow p0 p1
            refine (unhide HCS).mono ?_
            rintro e Wd ⟨rfl, hT⟩
            clear y0 y1 x0 x1 x2 x3 x4 x5 x6 x7 x8
            have hbT := hT.below (unhide HPc)
            have HWd := hide ((unhide HWc).same (hT.blk hgc hgP))
            have HLd := hide ((hT.blk hLc hLP).trans (unhide HLc))
            have HBd := hide ((unhide HBc).trans hbT)
            obtain ⟨vd, hrd, _, _⟩ := hT
            have HPd := hide hrd
            clear hbT hrd
            go_wp2_with fail
            refine (List_P (unhide HPd) (unhide HK)).mono ?_
            rintro e w6 ⟨g6, cap6, rfl, o6, b6⟩
            have HW6 := hide ((unhide HWd).below b6)
            have HB6 := hide ((unhide HBd).trans (b6.mono (unhide HBd).size))
            have HSP := hide (SamePackets_any (some ⟨g, 0, none⟩) (some ⟨g6, 0, none⟩) k k cap cap6 ms ms w6 (pkts_row (unhide HW6).row (unhide HK)) (pkts_row o6 (unhide HK)) (by omega) (by omega) true ⟨fun _ => rfl, fun _ => rfl⟩)
            clear o6 b6
            go_wp2_with fail
            refine (unhide HSP).mono ?_
            rintro e w7 ⟨rfl, b7⟩
            have HBF := hide ((unhide HB2).trans (((unhide HB6).trans (b7.mono (unhide HB6).size)).mono (unhide HB2).size))
            clear b7
            go_wp2
            go_ret
            exact ⟨rfl, unhide HBF⟩
        have k0 : (xa == 0) = false := by simpa using h0
        have k2' : (xa == 2) = false := by simpa using h2
        clear h0 h2
        have HPd := HPW
        have HWd := HWW
        have HBd := HBW
        obtain ⟨y0, y1, x0, x1, x2, x3, x4, x5, x6, x7, x8⟩ := PStepAt.blk (x := ⟨xa, xn, ⟨mx0, mx1, mx2, ⟨mx3, mx4, mx5, mx6⟩, mx7, mx8⟩⟩) (unhide HXW)
        simp only [Nat.zero_add] at y0 y1 x0 x1 x2 x3 x4 x5 x6 x7 x8
        go_wp2_with fail
        clear y0 y1 x0 x1 x2 x3 x4 x5 x6 x7 x8
        refine (List_P (unhide HPd) (unhide HK)).mono ?_
        rintro e w6 ⟨g6, cap6, rfl, o6, b6⟩
        have HW6 := hide ((unhide HWd).below b6)
        have HB6 := hide ((unhide HBd).trans (b6.mono (unhide HBd).size))
        have HSP := hide (SamePackets_any (some ⟨g, 0, none⟩) (some ⟨g6, 0, none⟩) k k cap cap6 ms ms w6 (pkts_row (unhide HW6).row (unhide HK)) (pkts_row o6 (unhide HK)) (by omega) (by omega) true ⟨fun _ => rfl, fun _ => rfl⟩)
        clear o6 b6
        go_wp2_with fail
        refine (unhide HSP).mono ?_
        rintro e w7 ⟨rfl, b7⟩
        have HBF := hide ((unhide HB2).trans (((unhide HB6).trans (b7.mono (unhide HB6).size)).mono (unhide HB2).size))
        clear b7
        go_wp2
        go_ret
        exact ⟨rfl, unhide HBF⟩

end Go.Proofs.Ytlndphpidkacgab
