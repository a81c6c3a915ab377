/- PostKeeps: the walk. -/
import Derived.Test.YtlndphpidkacgabPi
namespace Go.Proofs.Ytlndphpidkacgab
open Go.RowKit
set_option linter.unusedSimpArgs false
set_option linter.unusedVariables false

theorem below_dr (w : World) : Below w.heap.size w w.drew := ⟨rfl, rfl, rfl, Nat.le_refl _, fun _ _ => rfl⟩
theorem PTurn.blk {t : TypeId} {N : Nat} {w w' : World} {P : Nat} {v : Value} {ms' : List APkt} (hT : PTurn t N w P v w' ms') {X : Nat} (hX : X < w.heap.size) (hn : X ∉ powns P v) : w'.heap[X]? = w.heap[X]? := by
  obtain ⟨v', hr, hk, _⟩ := hT
  exact hk.block X hX hn
theorem yields_bin {a : Act} {o : Oper} {t2 : TypeId} {x y : Operand} {u u' v : Value} {wz : World} (ho : o.op = .binOp .eql 33 x y t2) (hx : a.eval x = u) (hy : a.eval y = u') (hq : (binOp .eql 33 u u').run Try.prog wz = .ok v wz) (hg : (eqGuard .eql 33 x y u u').run Try.prog wz = .ok () wz) : (execOp a.eval o).run Try.prog wz = .ok (.value v) wz := by
  unfold execOp
  simp [ho, hx, hy, hq, hg]
theorem guardP (x y : Operand) (c c' : Array Value) (wz : World) : (eqGuard .eql 33 x y (.agg c) (.agg c')).run Try.prog wz = .ok () wz := by
  unfold eqGuard
  simp [Try.eqGuardType33]
/-- What is left, in memory: none of the blocks o. -/
structure LRow (N : Nat) (w : World) (la : Option Addr) (kl lc : Nat) (lf : List APkt) (o : List Nat) : Prop where
  row : w.ownsRow N 33 9 (.slice la kl lc) kl (lf.flatMap pcells)
  len : lf.length = kl
  dj : ∀ k, (Value.slice la kl lc).ownBlock = some k → k ∉ o
theorem LRow.below {N : Nat} {w w' : World} {la : Option Addr} {kl lc : Nat} {lf : List APkt} {o : List Nat} (h : LRow N w la kl lc lf o) (hb : Below w.heap.size w w') : LRow N w' la kl lc lf o :=
  ⟨ownsRow_same h.row (fun k hk => hb.block k (h.row.lt k hk).2), h.len, h.dj⟩
theorem LRow.turn {t : TypeId} {N : Nat} {w w' : World} {la : Option Addr} {kl lc : Nat} {lf : List APkt} {P : Nat} {v : Value} {ms' : List APkt} (h : LRow N w la kl lc lf (powns P v)) (hT : PTurn t N w P v w' ms') :
    ∃ v', PRep t N w' P v' ms' ∧ LRow N w' la kl lc lf (powns P v') := by
  obtain ⟨v', hr, hk, hn⟩ := hT
  refine ⟨v', hr, ownsRow_same h.row (fun k h1 => hk.block k (h.row.lt k h1).2 (h.dj k h1)), h.len, fun k h1 h2 => ?_⟩
  rcases hn k h2 with h3 | h3
  · exact h.dj k h1 h3
  · have := (h.row.lt k h1).2; omega
theorem LRow.push {t : TypeId} {N : Nat} {W w2 : World} {la : Option Addr} {kl lc k1 g2 c2 : Nat} {lf : List APkt} {P : Nat} {v : Value} {ms : List APkt} {m : APkt} (hP : PRep t N W P v ms) (h : LRow N W la kl lc lf (powns P v)) (hg : W.grownBy w2 (Value.slice la kl lc).ownBlock) (hk1 : k1 = kl + 1)
    (hown : w2.ownsRow N 33 9 (.slice (some ⟨g2, 0, none⟩) k1 c2) k1 (lf.flatMap pcells ++ pcells m)) (hat : (Value.slice la kl lc).ownBlock = some g2 ∨ g2 = W.heap.size) :
    PRep t N w2 P v ms ∧ LRow N w2 (some ⟨g2, 0, none⟩) k1 c2 (lf ++ [m]) (powns P v) ∧ Below N W w2 := by
  have hN : N ≤ W.heap.size := Nat.le_trans hP.new (Nat.le_of_lt hP.lt)
  refine ⟨hP.same (fun k hk => hg.block k (hP.ge k hk).2 (fun e => h.dj k e.symm hk)), ⟨?_, by rw [List.length_append, h.len, hk1]; rfl, fun k h1 h2 => ?_⟩, ⟨hg.os, hg.tape, hg.output, hg.size, fun k hk => hg.block k (by omega) (fun e => by have := (h.row.lt k e.symm).1; omega)⟩⟩
  · have e2 : (lf ++ [m]).flatMap pcells = lf.flatMap pcells ++ pcells m := by simp
    rw [e2]; exact hown
  · have : k = g2 := by simpa [Value.ownBlock] using h1.symm
    subst this
    rcases hat with h3 | h3
    · exact h.dj _ h3 h2
    · have := (hP.ge _ h2).2; omega
theorem LRow.fresh {t : TypeId} {N : Nat} {W wB : World} {la lb : Option Addr} {kl lc kb cb : Nat} {lf lg : List APkt} {P : Nat} {v : Value} {ms : List APkt} (hP : PRep t N W P v ms) (hb : Below W.heap.size W wB) (hown : wB.ownsRow W.heap.size 33 9 (.slice lb kb cb) kb (lg.flatMap pcells)) (hl : lg.length = kb) :
    LRow N wB lb kb cb lg (powns P v) :=
  ⟨ownsRow_base hown (Nat.le_trans hP.new (Nat.le_of_lt hP.lt)), hl, fun k h1 h2 => by have h3 := (hown.lt k h1).1; have h4 := (hP.ge k h2).2; omega⟩
theorem LRow.at {N : Nat} {w : World} {la : Option Addr} {kl lc : Nat} {lf : List APkt} {o : List Nat} (h : LRow N w la kl lc lf o) (h0 : 0 < kl) : ∃ g, la = some ⟨g, 0, none⟩ ∧ g < w.heap.size ∧ N ≤ g ∧ ∀ (j : Nat) (r : APkt), lf[j]? = some r → PktAt w g (j * 9) r := by
  obtain ⟨g, rfl, hc⟩ := (pkts_row h.row h.len).2 h0
  exact ⟨g, rfl, (h.row.lt g rfl).2, (h.row.lt g rfl).1, hc⟩
theorem perm_erase {lf l1 l2 ms r1 r2 : List APkt} {m : APkt} (h : lf.Perm ms) (e1 : lf = l1 ++ m :: l2) (e2 : ms = r1 ++ m :: r2) : (l1 ++ l2).Perm (r1 ++ r2) := by
  subst e1 e2
  have h1 : (m :: (l1 ++ l2)).Perm (m :: (r1 ++ r2)) := (List.perm_middle.symm.trans h).trans List.perm_middle
  exact h1.cons_inv

set_option maxRecDepth 100000 in
set_option maxHeartbeats 8000000 in
theorem pkeeps_walk (a0 : Option Addr) (n0 c0 : Nat) (ls : List APStep) (w : World) (hl : PStepsAt w a0 n0 ls) :
    Calls Try.prog 4 #[.slice a0 n0 c0] w fun e w' => e = .returned (.bool true) ∧ Below w.heap.size w w' := by
  have HBG := hide postBegun_any
  have HNW := hide (fun W => New_P W)
  have HL := hide hl
  have hn0 := hl.2.1
  unfold maxLen at hn0
  obtain ⟨i0, hi0, hz0, hz1, hzb⟩ := info_parts infoPP
  clear hl
  go_enter Try.func4, Try.ntmps4
  go_wp2_with fail
  refine ((unhide HBG) _).mono ?_
  rintro e w2 ⟨rfl, b2⟩
  have HB2 := hide b2
  clear b2
  by_cases hbig : (200 : Int) < (n0 : Int)
  · go_wp2
    go_ret
    exact ⟨rfl, unhide HB2⟩
  go_wp2_with fail
  refine ((unhide HNW) _).mono ?_
  rintro e w3 ⟨rfl, rfl⟩
  have HP0 := hide (PRep.start 47 w2)
  have HB0 : Hid (Below w2.heap.size w2 (w2.alloc (.cells #[.slice none 0 0] 47))) := (Below.refl _ _).alloc (Nat.le_refl _) _
  have hzw : w.heap.size ≤ w2.heap.size := (unhide HB2).size
  go_wp2_with fail
  go_loopw [4, 5] (fun lv i wr => ∃ (q : Nat) (v : Value) (ms : List APkt) (la : Option Addr) (kl lc : Nat) (lf : List APkt), q ≤ n0 ∧ i = .int .i64 (q : Int) ∧ lv = .slice la kl lc ∧ Hid (PRep 47 w2.heap.size wr w2.heap.size v ms) ∧ Hid (Below w2.heap.size w2 wr) ∧ Hid (LRow w2.heap.size wr la kl lc lf (powns w2.heap.size v)) ∧ Hid (lf.Perm ms)) (fun _ i _ => n0 - (intOf i).toNat)
  case atStart => exact ⟨0, _, [], none, 0, 0, [], Nat.zero_le _, rfl, rfl, unhide HP0, unhide HB0, ⟨World.ownsRow_nil _ _ _ _, rfl, fun k h => by simp [Value.ownBlock] at h⟩, List.Perm.refl _⟩
  case round =>
    obtain ⟨q, v, ms, la, kl, lc, lf, hq, rfl, rfl, HP, HB, HLR, HPM⟩ := hrel
    have HBw := hide ((unhide HB2).trans ((unhide HB).mono hzw))
    by_cases hlt : (q : Int) < (n0 : Int)
    · obtain ⟨y, hy⟩ : ∃ y, ls[q]? = some y := ⟨_, List.getElem?_eq_getElem (by rw [(unhide HL).1]; omega)⟩
      obtain ⟨b, off, rfl, hc⟩ := ((unhide HL).below (unhide HBw)).2.2.2 (by omega)
      obtain ⟨g0, g1, g2, g3, g4, g5, g6, g7, g8, g9, g10⟩ := hc q y hy
      have hsz := (unhide HL).2.2.1 y (List.mem_of_getElem? hy)
      obtain ⟨V, hV⟩ : ∃ V, V = wr.alloc (.cells (pxcells y).toArray 35) := ⟨_, rfl⟩
      have hbV : Below wr.heap.size wr V := by rw [hV]; exact (Below.refl _ _).alloc (Nat.le_refl _) _
      have hxb : V.heap[wr.heap.size]? = some (.cells (pxcells y).toArray 35 (0, 0)) := by rw [hV]; exact heap_alloc_new _ _
      have HXV := hide (PStepAt.blk hxb)
      have HPV := hide ((unhide HP).below hbV)
      have HLV := hide ((unhide HLR).below hbV)
      have HBV := hide ((unhide HB).trans (hbV.mono (unhide HB).size))
      have hXV : wr.heap.size < V.heap.size := (Array.getElem?_eq_some_iff.1 hxb).1
      have HXN : Hid (wr.heap.size ∉ powns w2.heap.size v) := fun hm => by have := ((unhide HP).ge _ hm).2; omega
      have HV := hide hV
      have HSM := hide hsz
      obtain ⟨k, hk⟩ : ∃ k, ms.length = k := ⟨_, rfl⟩
      have HK := hide hk
      have hk40 : k ≤ 40 := by rw [← hk]; exact (unhide HP).few
      have HKL : Hid (kl = k) := by rw [Hid, ← (unhide HLR).len, (unhide HPM).length_eq, hk]
      have hkl40 : kl ≤ 40 := by have := unhide HKL; omega
      have HLN := hide (Len_P (unhide HPV) hk)
      clear hc hy hsz hbV hxb hV hk
      obtain ⟨ya, yn, my⟩ := y
      obtain ⟨my0, my1, my2, ⟨my3, my4, my5, my6⟩, my7, my8⟩ := my
      dsimp only [pxcells] at *
      go_wp2_with fail
      rw [← unhide HV]
      refine (unhide HLN).mono ?_
      rintro e w5 ⟨rfl, hw5⟩
      obtain rfl := hw5.symm
      clear hw5 g0 g1 g2 g3 g4 g5 g6 g7 g8 g9 g10
      obtain ⟨y0, y1, x0, x1, x2, x3, x4, x5, x6, x7, x8⟩ := unhide HXV
      simp only [Nat.zero_add] at y0 y1 x0 x1 x2 x3 x4 x5 x6 x7 x8
      by_cases h0 : ya = 0
      · subst h0
        have hcs := PSend_any (unhide HPV) ⟨my0, my1, my2, ⟨my3, my4, my5, my6⟩, my7, my8⟩ (unhide HSM)
        rw [unhide HK] at hcs
        dsimp only [APkt.val] at hcs
        by_cases hk : k < 40
        · have hdec : decide (k < 40) = true := decide_eq_true hk
          have hms : aSend ms ⟨my0, my1, my2, ⟨my3, my4, my5, my6⟩, my7, my8⟩ = ms ++ [⟨my0, my1, my2, ⟨my3, my4, my5, my6⟩, my7, my8⟩] := by unfold aSend; rw [unhide HK, if_pos hk]
          rw [hdec, hms] at hcs
          have HCS := hide hcs
          clear hcs hdec hms
          go_wp2_with fail
          refine (unhide HCS).mono ?_
          rintro e wd ⟨rfl, hT⟩
          clear y0 y1 x0 x1 x2 x3 x4 x5 x6 x7 x8
          have hbT := hT.below (unhide HPV)
          have hxd := (unhide HXV).same (hT.blk hXV (unhide HXN))
          obtain ⟨vd, hrd, hld⟩ := (unhide HLV).turn hT
          have HPd := hide hrd
          have HLd := hide hld
          have HBd := hide ((unhide HBV).trans hbT)
          obtain ⟨y0, y1, x0, x1, x2, x3, x4, x5, x6, x7, x8⟩ := hxd
          simp only [Nat.zero_add] at y0 y1 x0 x1 x2 x3 x4 x5 x6 x7 x8
          clear hbT hrd hld hT
          go_wp2_with (at_builtin; refine wpList_append_lies _ rfl _ _ 26 rfl w2.heap.size 33 i0 _ 9 104 Try.underlying26 hi0 hz0 hz1 hzb rfl (by omega) (.slice la kl lc) kl (lf.flatMap pcells) rfl ((unhide HLd).row.alloc _) ⟨wd.heap.size, 0, none⟩ 1 1 [.bool my0, .int .i64 my1, .int .i64 my2, .int .i64 my3, .string my4, .string my5, .string my6, .int .i64 my7, .string my8] rfl rfl (World.news_of_block (cs := #[.bool my0, .int .i64 my1, .int .i64 my2, .int .i64 my3, .string my4, .string my5, .string my6, .int .i64 my7, .string my8]) (t := 33) (fr := (0, 0)) (heap_alloc_new wd _)) (by simp [Value.oneCell']) (by omega) (by unfold maxLen; omega) (by omega) (by have := (unhide HBd).size; simp; omega) (wd.heap.size + 1) (by simp) ?_; intro gA cA wA hownA hgrowA hatA hltA)
          obtain ⟨hPA, hLA, hBA⟩ := LRow.push ((unhide HPd).below ((Below.refl _ _).alloc (Nat.le_refl _) (.cells #[.bool my0, .int .i64 my1, .int .i64 my2, .int .i64 my3, .string my4, .string my5, .string my6, .int .i64 my7, .string my8] 33))) ((unhide HLd).below ((Below.refl _ _).alloc (Nat.le_refl _) (.cells #[.bool my0, .int .i64 my1, .int .i64 my2, .int .i64 my3, .string my4, .string my5, .string my6, .int .i64 my7, .string my8] 33))) (m := ⟨my0, my1, my2, ⟨my3, my4, my5, my6⟩, my7, my8⟩) hgrowA rfl hownA (by simpa using hatA)
          have HPz := hide hPA
          have HLz := hide hLA
          have HBz := hide (((unhide HBd).alloc (unhide HBd).size (.cells #[.bool my0, .int .i64 my1, .int .i64 my2, .int .i64 my3, .string my4, .string my5, .string my6, .int .i64 my7, .string my8] 33)).trans hBA)
          have HPMz : Hid ((lf ++ [(⟨my0, my1, my2, ⟨my3, my4, my5, my6⟩, my7, my8⟩ : APkt)]).Perm (ms ++ [(⟨my0, my1, my2, ⟨my3, my4, my5, my6⟩, my7, my8⟩ : APkt)])) := (unhide HPM).append_right _
          obtain ⟨klz, hklq⟩ : ∃ n, n = kl + 1 := ⟨_, rfl⟩
          rw [← hklq] at HLz ⊢
          clear hownA hgrowA hatA hltA hPA hLA hBA hklq
          obtain ⟨kz, hkz⟩ : ∃ k, (ms ++ [(⟨my0, my1, my2, ⟨my3, my4, my5, my6⟩, my7, my8⟩ : APkt)]).length = k := ⟨_, rfl⟩
          have HKZ := hide hkz
          have hkz40 : kz ≤ 40 := by rw [← hkz]; exact (unhide HPz).few
          have hklz : klz = kz := by rw [← (unhide HLz).len, (unhide HPMz).length_eq, hkz]
          have hkk : ((kz : Int) != (klz : Int)) = false := by simp; omega
          have hkk2 : ((kz : Int) == (klz : Int)) = true := by simp; omega
          have hgt : ¬ ((40 : Int) < (kz : Int)) := by omega
          have HLNz := hide (Len_P (unhide HPz) hkz)
          clear hkz hklz
          clear y0 y1 x0 x1 x2 x3 x4 x5 x6 x7 x8
          go_wp2_with fail
          refine (unhide HLNz).mono ?_
          rintro e wL ⟨rfl, hwL⟩
          obtain rfl := hwL.symm
          clear hwL
          go_wp2_with fail
          refine (unhide HLNz).mono ?_
          rintro e wL ⟨rfl, hwL⟩
          obtain rfl := hwL.symm
          clear hwL
          go_wp2
          go_roundw
          case rel => exact ⟨q + 1, _, _, _, _, _, _, by omega, by go_num, rfl, unhide HPz, unhide HBz, unhide HLz, unhide HPMz⟩
          case measure => simp [intOf]; omega
        · have hdec : decide (k < 40) = false := decide_eq_false hk
          have hms : aSend ms ⟨my0, my1, my2, ⟨my3, my4, my5, my6⟩, my7, my8⟩ = ms := by unfold aSend; rw [unhide HK, if_neg hk]
          rw [hdec, hms] at hcs
          have HCS := hide hcs
          clear hcs hdec hms
          go_wp2_with fail
          refine (unhide HCS).mono ?_
          rintro e wd ⟨rfl, hT⟩
          clear y0 y1 x0 x1 x2 x3 x4 x5 x6 x7 x8
          have hbT := hT.below (unhide HPV)
          obtain ⟨vd, hrd, hld⟩ := (unhide HLV).turn hT
          have HPz := hide hrd
          have HLz := hide hld
          have HBz := hide ((unhide HBV).trans hbT)
          have HPMz := HPM
          obtain ⟨klz, hklq⟩ : ∃ n, n = kl := ⟨_, rfl⟩
          rw [← hklq] at HLz ⊢
          clear hbT hrd hld hT hklq
          obtain ⟨kz, hkz⟩ : ∃ k, ms.length = k := ⟨_, rfl⟩
          have HKZ := hide hkz
          have hkz40 : kz ≤ 40 := by rw [← hkz]; exact (unhide HPz).few
          have hklz : klz = kz := by rw [← (unhide HLz).len, (unhide HPMz).length_eq, hkz]
          have hkk : ((kz : Int) != (klz : Int)) = false := by simp; omega
          have hkk2 : ((kz : Int) == (klz : Int)) = true := by simp; omega
          have hgt : ¬ ((40 : Int) < (kz : Int)) := by omega
          have HLNz := hide (Len_P (unhide HPz) hkz)
          clear hkz hklz
          go_wp2_with fail
          refine (unhide HLNz).mono ?_
          rintro e wL ⟨rfl, hwL⟩
          obtain rfl := hwL.symm
          clear hwL
          go_wp2_with fail
          refine (unhide HLNz).mono ?_
          rintro e wL ⟨rfl, hwL⟩
          obtain rfl := hwL.symm
          clear hwL
          go_wp2
          go_roundw
          case rel => exact ⟨q + 1, _, _, _, _, _, _, by omega, by go_num, rfl, unhide HPz, unhide HBz, unhide HLz, unhide HPMz⟩
          case measure => simp [intOf]; omega
      by_cases h1 : ya = 1
      · subst h1
        obtain ⟨tm, htm⟩ : ∃ t, aTakeM ms yn = t := ⟨_, rfl⟩
        obtain ⟨tb, htb⟩ : ∃ b, aTakeB ms = b := ⟨_, rfl⟩
        have hcs := PTake_any (unhide HPV) yn
        rw [htm, htb] at hcs
        have HTM := hide htm
        have HTB := hide htb
        have HCS := hide hcs
        obtain ⟨t0, t1, t2, ⟨t3, t4, t5, t6⟩, t7, t8⟩ := tm
        dsimp only [APkt.val] at HCS
        clear hcs htm htb
        go_wp2_with fail
        refine (unhide HCS).mono ?_
        rintro e w4 ⟨rfl, hT⟩
        clear y0 y1 x0 x1 x2 x3 x4 x5 x6 x7 x8
        have hb4 := hT.below (unhide HPV)
        obtain ⟨v4, hr4, hl4⟩ := (unhide HLV).turn hT
        obtain ⟨V4, hV4⟩ : ∃ V, V = w4.alloc (.cells #[.bool t0, .int .i64 t1, .int .i64 t2, .int .i64 t3, .string t4, .string t5, .string t6, .int .i64 t7, .string t8] 33) := ⟨_, rfl⟩
        have hbV4 : Below w4.heap.size w4 V4 := by rw [hV4]; exact (Below.refl _ _).alloc (Nat.le_refl _) _
        have hmV : V4.heap[w4.heap.size]? = some (.cells #[.bool t0, .int .i64 t1, .int .i64 t2, .int .i64 t3, .string t4, .string t5, .string t6, .int .i64 t7, .string t8] 33 (0, 0)) := by rw [hV4]; exact heap_alloc_new _ _
        have HP4 := hide (hr4.below hbV4)
        have HL4 := hide (hl4.below hbV4)
        have hB4 := (unhide HBV).trans hb4
        have HB4 := hide (hB4.trans (hbV4.mono hB4.size))
        have HM4 := hide hmV
        have HV4 := hide hV4
        have hm4l : w4.heap.size < V4.heap.size := (Array.getElem?_eq_some_iff.1 hmV).1
        clear hT hb4 hr4 hl4 hbV4 hmV hB4 hV4
        by_cases hk0 : k = 0
        · have htb : tb = false := by rw [← unhide HTB]; unfold aTakeB; rw [unhide HK, hk0]; rfl
          have hTL : aTakeL ms yn = ms := by
            have h2 : ms = [] := List.length_eq_zero_iff.1 (by rw [unhide HK, hk0])
            rw [h2]; rfl
          have hkz0 : ((k : Int) != 0) = false := by simp; omega
          have hkz1 : ((k : Int) == 0) = true := by simp; omega
          subst htb
          rw [hTL] at HP4
          have HPz := HP4
          have HLz := HL4
          have HBz := HB4
          have HPMz := HPM
          obtain ⟨klz, hklq⟩ : ∃ n, n = kl := ⟨_, rfl⟩
          rw [← hklq] at HLz ⊢
          clear hTL hklq hk0
          obtain ⟨kz, hkz⟩ : ∃ k, ms.length = k := ⟨_, rfl⟩
          have HKZ := hide hkz
          have hkz40 : kz ≤ 40 := by rw [← hkz]; exact (unhide HPz).few
          have hklz : klz = kz := by rw [← (unhide HLz).len, (unhide HPMz).length_eq, hkz]
          have hkk : ((kz : Int) != (klz : Int)) = false := by simp; omega
          have hkk2 : ((kz : Int) == (klz : Int)) = true := by simp; omega
          have hgt : ¬ ((40 : Int) < (kz : Int)) := by omega
          have HLNz := hide (Len_P (unhide HPz) hkz)
          clear hkz hklz
          go_wp2_with fail
          rw [← unhide HV4]
          refine (unhide HLNz).mono ?_
          rintro e wL ⟨rfl, hwL⟩
          obtain rfl := hwL.symm
          clear hwL
          go_wp2_with fail
          refine (unhide HLNz).mono ?_
          rintro e wL ⟨rfl, hwL⟩
          obtain rfl := hwL.symm
          clear hwL
          go_wp2
          go_roundw
          case rel => exact ⟨q + 1, _, _, _, _, _, _, by omega, by go_num, rfl, unhide HPz, unhide HBz, unhide HLz, unhide HPMz⟩
          case measure => simp [intOf]; omega
        have hkp : 0 < k := by omega
        have htb : tb = true := by rw [← unhide HTB]; unfold aTakeB; rw [unhide HK]; exact decide_eq_true hkp
        subst htb
        obtain ⟨r, hr⟩ : ∃ r, rnd yn k = r := ⟨_, rfl⟩
        have hrk := rnd_lt yn hkp
        have htk := take_some (ms := ms) yn (by rw [unhide HK]; exact hkp)
        rw [unhide HK, hr, unhide HTM] at htk
        obtain ⟨s1, s2, es1, es2, es3⟩ := psplit htk
        have hTL : aTakeL ms yn = s1 ++ s2 := by unfold aTakeL; rw [unhide HK, hr, es3]
        have hmem : ⟨t0, t1, t2, ⟨t3, t4, t5, t6⟩, t7, t8⟩ ∈ lf := (unhide HPM).mem_iff.2 (List.mem_of_getElem? htk)
        have hklp : 0 < kl := by have := unhide HKL; omega
        obtain ⟨gl, hgl, hgl1, hgl2, hglc⟩ := (unhide HL4).at hklp
        subst hgl
        have HMEM := hide hmem
        have HES := hide es1
        have HTL := hide hTL
        have HGLC := hide hglc
        clear hr hrk htk es1 es2 es3 hTL hmem hglc
        go_wp2_with fail
        rw [← unhide HV4]
        go_loopw [10, 11] (fun av i wr => ∃ (j : Nat) (an : Int), j ≤ kl ∧ i = .int .i64 (j : Int) ∧ av = .int .i64 an ∧ Hid (Below V4.heap.size V4 wr) ∧ Hid ((an = -1 ∧ ∀ j' : Nat, j' < j → lf[j']? ≠ some ⟨t0, t1, t2, ⟨t3, t4, t5, t6⟩, t7, t8⟩) ∨ ∃ n : Nat, an = (n : Int) ∧ n < j ∧ lf[n]? = some ⟨t0, t1, t2, ⟨t3, t4, t5, t6⟩, t7, t8⟩)) (fun _ i _ => kl - (intOf i).toNat)
        case atStart => exact ⟨0, -1, Nat.zero_le _, rfl, rfl, Below.refl _ _, .inl ⟨rfl, fun j' h => absurd h (Nat.not_lt_zero _)⟩⟩
        case round =>
          obtain ⟨j, an, hj, rfl, rfl, HBj, HAT⟩ := hrel
          by_cases hjl : (j : Int) < (kl : Int)
          · obtain ⟨x, hx⟩ : ∃ x, lf[j]? = some x := ⟨_, List.getElem?_eq_getElem (by rw [(unhide HL4).len]; omega)⟩
            have HXJ := hide hx
            have HPX := hide (((unhide HGLC) j x hx).same ((unhide HBj).block gl hgl1))
            have HMX := hide (((unhide HBj).block _ hm4l).trans (unhide HM4))
            have hj0 : (0 : Int) ≤ (j : Int) := by omega
            obtain ⟨⟨q0, q1, q2, q3⟩, ⟨q4, q5, q6, q7, q8⟩, _⟩ := nine (unhide HMX)
            clear hx
            by_cases hxt : x = ⟨t0, t1, t2, ⟨t3, t4, t5, t6⟩, t7, t8⟩
            · subst hxt
              have eP := fun W => eqlP (⟨t0, t1, t2, ⟨t3, t4, t5, t6⟩, t7, t8⟩ : APkt) ⟨t0, t1, t2, ⟨t3, t4, t5, t6⟩, t7, t8⟩ W
              rw [pktB_self] at eP
              dsimp only [APkt.val] at eP
              go_wp2_with fail
              refine wp_region_held_drew (S := (fun wx => PktAt wx gl (j * 9) ⟨t0, t1, t2, ⟨t3, t4, t5, t6⟩, t7, t8⟩ ∧ (wx.cell? ⟨w4.heap.size, 0, none⟩ = some (.bool t0) ∧ wx.cell? ⟨w4.heap.size, 1, none⟩ = some (.int .i64 t1) ∧ wx.cell? ⟨w4.heap.size, 2, none⟩ = some (.int .i64 t2) ∧ wx.cell? ⟨w4.heap.size, 3, none⟩ = some (.int .i64 t3) ∧ wx.cell? ⟨w4.heap.size, 4, none⟩ = some (.string t4) ∧ wx.cell? ⟨w4.heap.size, 5, none⟩ = some (.string t5) ∧ wx.cell? ⟨w4.heap.size, 6, none⟩ = some (.string t6) ∧ wx.cell? ⟨w4.heap.size, 7, none⟩ = some (.int .i64 t7) ∧ wx.cell? ⟨w4.heap.size, 8, none⟩ = some (.string t8)) ∧ Below V4.heap.size V4 wx)) (by kernel_rfl) ⟨(unhide HPX).same rfl, ⟨q0, q1, q2, q3, q4, q5, q6, q7, q8⟩, (unhide HBj).trans ((below_dr wr).mono (unhide HBj).size)⟩ (fun hHeld => ?_)
              clear q0 q1 q2 q3 q4 q5 q6 q7 q8
              refine wpAnyH_take (i := 0) (v := ?_) opn0 (by kernel_rfl) (by kernel_rfl) (by kernel_rfl) (fun _ _ _ h => h) (Or.inl ⟨by kernel_rfl, ?_⟩) (by assumption) ?_
              rotate_left 1
              · intro wz hSw
                try dsimp only at hSw
                go_simp
                all_goals with_reducible rfl
              try simp only [Act.put, List.setIfInBounds_toArray, List.set_cons_zero, List.set_cons_succ]
              refine wpAnyH_take (i := 1) (v := ?_) opn1 (by kernel_rfl) (by kernel_rfl) (by kernel_rfl) (fun _ _ _ h => h) (Or.inl ⟨by kernel_rfl, ?_⟩) (by assumption) ?_
              rotate_left 1
              · intro wz hSw
                try dsimp only at hSw
                go_simp
                all_goals with_reducible rfl
              try simp only [Act.put, List.setIfInBounds_toArray, List.set_cons_zero, List.set_cons_succ]
              refine wpAnyH_take (i := 2) (v := ?_) opn2 (by kernel_rfl) (by kernel_rfl) (by kernel_rfl) (fun _ _ _ h => h) (Or.inl ⟨by kernel_rfl, ?_⟩) (by assumption) ?_
              rotate_left 1
              · intro wz hSw
                try dsimp only at hSw
                go_simp
                all_goals with_reducible rfl
              try simp only [Act.put, List.setIfInBounds_toArray, List.set_cons_zero, List.set_cons_succ]
              refine wpAnyH_take (i := 3) (v := ?_) opn3 (by kernel_rfl) (by kernel_rfl) (by kernel_rfl) (fun _ _ _ h => h) (Or.inl ⟨by kernel_rfl, ?_⟩) (by assumption) ?_
              rotate_left 1
              · intro wz hSw
                try dsimp only at hSw
                obtain ⟨c0, c1, c2, c3, c4, c5, c6, c7, c8⟩ := hSw.1
                go_simp
                all_goals with_reducible rfl
              try simp only [Act.put, List.setIfInBounds_toArray, List.set_cons_zero, List.set_cons_succ]
              refine wpAnyH_take (i := 4) (v := ?_) opn4 (by kernel_rfl) (by kernel_rfl) (by kernel_rfl) (fun _ _ _ h => h) (Or.inl ⟨by kernel_rfl, ?_⟩) (by assumption) ?_
              rotate_left 1
              · intro wz hSw
                try dsimp only at hSw
                obtain ⟨c0, c1, c2, c3, c4, c5, c6, c7, c8⟩ := hSw.2.1
                go_simp
                all_goals with_reducible rfl
              try simp only [Act.put, List.setIfInBounds_toArray, List.set_cons_zero, List.set_cons_succ]
              refine wpAnyH_take (i := 5) (v := .bool true) opn5 (by kernel_rfl) (by kernel_rfl) (by kernel_rfl) (fun _ _ _ h => h) (Or.inl ⟨by kernel_rfl, ?_⟩) (by assumption) ?_
              · intro wz hSw
                exact yields_bin rfl (by simp [Act.eval]) (by simp [Act.eval]) (eP wz) (guardP _ _ _ _ wz)
              try simp only [Act.put, List.setIfInBounds_toArray, List.set_cons_zero, List.set_cons_succ]
              refine wpAnyH_done (by kernel_rfl) ?_ _
              have HBj2 := hide (hHeld.2.2)
              clear hHeld
              go_wp2
              go_roundw
              case rel => exact ⟨j + 1, (j : Int), by omega, by go_num, rfl, unhide HBj2, .inr ⟨j, rfl, by omega, unhide HXJ⟩⟩
              case measure => simp [intOf]; omega
            · have eP := fun W => eqlP x ⟨t0, t1, t2, ⟨t3, t4, t5, t6⟩, t7, t8⟩ W
              rw [pktB_ne hxt] at eP
              have HXT := hide hxt
              clear hxt
              obtain ⟨u0, u1, u2, ⟨u3, u4, u5, u6⟩, u7, u8⟩ := x
              dsimp only [APkt.val] at eP
              go_wp2_with fail
              refine wp_region_held_drew (S := (fun wx => PktAt wx gl (j * 9) ⟨u0, u1, u2, ⟨u3, u4, u5, u6⟩, u7, u8⟩ ∧ (wx.cell? ⟨w4.heap.size, 0, none⟩ = some (.bool t0) ∧ wx.cell? ⟨w4.heap.size, 1, none⟩ = some (.int .i64 t1) ∧ wx.cell? ⟨w4.heap.size, 2, none⟩ = some (.int .i64 t2) ∧ wx.cell? ⟨w4.heap.size, 3, none⟩ = some (.int .i64 t3) ∧ wx.cell? ⟨w4.heap.size, 4, none⟩ = some (.string t4) ∧ wx.cell? ⟨w4.heap.size, 5, none⟩ = some (.string t5) ∧ wx.cell? ⟨w4.heap.size, 6, none⟩ = some (.string t6) ∧ wx.cell? ⟨w4.heap.size, 7, none⟩ = some (.int .i64 t7) ∧ wx.cell? ⟨w4.heap.size, 8, none⟩ = some (.string t8)) ∧ Below V4.heap.size V4 wx)) (by kernel_rfl) ⟨(unhide HPX).same rfl, ⟨q0, q1, q2, q3, q4, q5, q6, q7, q8⟩, (unhide HBj).trans ((below_dr wr).mono (unhide HBj).size)⟩ (fun hHeld => ?_)
              clear q0 q1 q2 q3 q4 q5 q6 q7 q8
              refine wpAnyH_take (i := 0) (v := ?_) opn0 (by kernel_rfl) (by kernel_rfl) (by kernel_rfl) (fun _ _ _ h => h) (Or.inl ⟨by kernel_rfl, ?_⟩) (by assumption) ?_
              rotate_left 1
              · intro wz hSw
                try dsimp only at hSw
                go_simp
                all_goals with_reducible rfl
              try simp only [Act.put, List.setIfInBounds_toArray, List.set_cons_zero, List.set_cons_succ]
              refine wpAnyH_take (i := 1) (v := ?_) opn1 (by kernel_rfl) (by kernel_rfl) (by kernel_rfl) (fun _ _ _ h => h) (Or.inl ⟨by kernel_rfl, ?_⟩) (by assumption) ?_
              rotate_left 1
              · intro wz hSw
                try dsimp only at hSw
                go_simp
                all_goals with_reducible rfl
              try simp only [Act.put, List.setIfInBounds_toArray, List.set_cons_zero, List.set_cons_succ]
              refine wpAnyH_take (i := 2) (v := ?_) opn2 (by kernel_rfl) (by kernel_rfl) (by kernel_rfl) (fun _ _ _ h => h) (Or.inl ⟨by kernel_rfl, ?_⟩) (by assumption) ?_
              rotate_left 1
              · intro wz hSw
                try dsimp only at hSw
                go_simp
                all_goals with_reducible rfl
              try simp only [Act.put, List.setIfInBounds_toArray, List.set_cons_zero, List.set_cons_succ]
              refine wpAnyH_take (i := 3) (v := ?_) opn3 (by kernel_rfl) (by kernel_rfl) (by kernel_rfl) (fun _ _ _ h => h) (Or.inl ⟨by kernel_rfl, ?_⟩) (by assumption) ?_
              rotate_left 1
              · intro wz hSw
                try dsimp only at hSw
                obtain ⟨c0, c1, c2, c3, c4, c5, c6, c7, c8⟩ := hSw.1
                go_simp
                all_goals with_reducible rfl
              try simp only [Act.put, List.setIfInBounds_toArray, List.set_cons_zero, List.set_cons_succ]
              refine wpAnyH_take (i := 4) (v := ?_) opn4 (by kernel_rfl) (by kernel_rfl) (by kernel_rfl) (fun _ _ _ h => h) (Or.inl ⟨by kernel_rfl, ?_⟩) (by assumption) ?_
              rotate_left 1
              · intro wz hSw
                try dsimp only at hSw
                obtain ⟨c0, c1, c2, c3, c4, c5, c6, c7, c8⟩ := hSw.2.1
                go_simp
                all_goals with_reducible rfl
              try simp only [Act.put, List.setIfInBounds_toArray, List.set_cons_zero, List.set_cons_succ]
              refine wpAnyH_take (i := 5) (v := .bool false) opn5 (by kernel_rfl) (by kernel_rfl) (by kernel_rfl) (fun _ _ _ h => h) (Or.inl ⟨by kernel_rfl, ?_⟩) (by assumption) ?_
              · intro wz hSw
                exact yields_bin rfl (by simp [Act.eval]) (by simp [Act.eval]) (eP wz) (guardP _ _ _ _ wz)
              try simp only [Act.put, List.setIfInBounds_toArray, List.set_cons_zero, List.set_cons_succ]
              refine wpAnyH_done (by kernel_rfl) ?_ _
              have HBj2 := hide (hHeld.2.2)
              clear hHeld
              go_wp2
              go_roundw
              case rel =>
                refine ⟨j + 1, an, by omega, by go_num, rfl, unhide HBj2, ?_⟩
                rcases unhide HAT with ⟨h1, h2⟩ | ⟨n, h1, h2, h3⟩
                · refine .inl ⟨h1, fun j' hj' => ?_⟩
                  by_cases e : j' = j
                  · rw [e, unhide HXJ]; intro e2; exact (unhide HXT) (by simpa using e2)
                  · exact h2 j' (by omega)
                · exact .inr ⟨n, h1, by omega, h3⟩
              case measure => simp [intOf]; omega
          · obtain ⟨n, hn, hnj, hnl⟩ : ∃ n : Nat, an = (n : Int) ∧ n < kl ∧ lf[n]? = some ⟨t0, t1, t2, ⟨t3, t4, t5, t6⟩, t7, t8⟩ := by
              rcases unhide HAT with ⟨_, h2⟩ | ⟨n, h1, h2, h3⟩
              · obtain ⟨i, hi⟩ := List.getElem?_of_mem (unhide HMEM)
                have h4 : i < kl := by have := (List.getElem?_eq_some_iff.1 hi).1; rw [(unhide HL4).len] at this; exact this
                exact absurd hi (h2 i (by omega))
              · exact ⟨n, h1, by omega, h3⟩
            subst hn
            obtain ⟨l1, l2, e1, e2, _⟩ := psplit hnl
            have HPj := hide ((unhide HP4).below (unhide HBj))
            have HLj := hide ((unhide HL4).below (unhide HBj))
            have HBw2 := hide ((unhide HB4).trans ((unhide HBj).mono (unhide HB4).size))
            obtain ⟨k', hk'⟩ : ∃ k, (aTakeL ms yn).length = k := ⟨_, rfl⟩
            have hkk' : k' = k - 1 := by
              have h1 := unhide HK
              rw [← hk', unhide HTL]
              rw [unhide HES] at h1
              simp at h1 ⊢
              omega
            have HLN' := hide (Len_P (unhide HPj) hk')
            have hnk : ((k' : Int) != (k : Int) - 1) = false := by simp; omega
            have hnk2 : ((k' : Int) == (k : Int) - 1) = true := by simp; omega
            have hwk : IntKind.i64.wrap ((k : Int) - 1) = (k : Int) - 1 := by rw [IntKind.wrap_i64]; omega
            have hn0' : ¬ ((n : Int) < 0) := by omega
            have hni : (0 : Int) ≤ (n : Int) := by omega
            have hcap := row_cap (unhide HLj).row
            have hcapm : lc ≤ maxLen := by
              rcases (unhide HLj).row.2 with ⟨he, _⟩ | ⟨g', cap', cur, he, _, _, _, hcm, _⟩
              · cases he
              · obtain ⟨_, rfl⟩ : gl = g' ∧ lc = cap' := by simpa using he
                exact hcm
            unfold maxLen at hcapm
            have ix2 : (n : Int) + 1 ≤ (kl : Int) := by omega
            have ix3 : (0 : Int) ≤ (n : Int) + 1 := by omega
            have ic1 : n ≤ lc := by omega
            have ic2 : n + 1 ≤ lc := by omega
            have htn : ((n : Int) + 1).toNat = n + 1 := by omega
            have hwr : IntKind.i64.wrap ((n : Int) + 1) = (n : Int) + 1 := by rw [IntKind.wrap_i64]; omega
            have hl2 : l2.length = kl - (n + 1) := by have h1 := (unhide HL4).len; rw [e1] at h1; simp at h1; omega
            have hgw : gl < wr.heap.size := Nat.lt_of_lt_of_le hgl1 (unhide HBj).size
            have hlie := fun W (hW : Below wr.heap.size wr W) => lies_prow (l1 := l1) (l2 := l2) (m := ⟨t0, t1, t2, ⟨t3, t4, t5, t6⟩, t7, t8⟩) (by have := (unhide HLj).row; rw [e1] at this; exact this) (by rw [← e1]; exact (unhide HL4).len) W (hW.block gl hgw)
            rw [e2] at hlie
            obtain ⟨A, hA, HL2⟩ : ∃ A : Addr, (if lc = n + 1 then some (⟨gl, 0, none⟩ : Addr) else some ⟨gl, (n + 1) * 9, none⟩) = some A ∧ Hid (∀ W, Below wr.heap.size wr W → Lies W (.slice (some A) (kl - (n + 1)) (lc - (n + 1))) (kl - (n + 1)) (l2.flatMap pcells)) := by
              by_cases h : lc = n + 1
              · exact ⟨⟨gl, 0, none⟩, by simp [h], fun W hW => by have := (hlie W hW).2; rwa [if_pos h] at this⟩
              · exact ⟨⟨gl, (n + 1) * 9, none⟩, by simp [h], fun W hW => by have := (hlie W hW).2; rwa [if_neg h] at this⟩
            have HL1 : Hid (∀ W, Below wr.heap.size wr W → Lies W (.slice (some ⟨gl, 0, none⟩) n lc) n (l1.flatMap pcells)) := fun W hW => (hlie W hW).1
            have HE1 : Hid ((l1.flatMap pcells).length = n * 9) := by rw [Hid, pflat_len, e2]
            have HE3 : Hid ((l2.flatMap pcells).length = (kl - (n + 1)) * 9) := by rw [Hid, pflat_len, hl2]
            have HE2 : Hid (∀ u ∈ l1.flatMap pcells, u.oneCell' = true) := pflat_one l1
            have HE4 : Hid (∀ u ∈ l2.flatMap pcells, u.oneCell' = true) := pflat_one l2
            have HLL : Hid ((l1 ++ l2).length = n + (kl - (n + 1))) := by rw [Hid, List.length_append, e2, hl2]
            have HPMz : Hid ((l1 ++ l2).Perm (aTakeL ms yn)) := by rw [Hid, unhide HTL]; exact perm_erase (unhide HPM) e1 (unhide HES)
            have HMS := hide hk'
            clear hnl e1 e2 hk' hkk' hl2 hlie
            go_wp2_with fail
            refine (unhide HLN').mono ?_
            rintro e wL ⟨rfl, hwL⟩
            obtain rfl := hwL.symm
            clear hwL
            go_wp2_with fail
            go_region_law (first | (refine step_new (wx := wr) (by rfl) (.tmp 80) (.tmp 83) 26 (by rfl) (below_drew wr) 33 i0 _ 9 104 Try.underlying26 hi0 hz0 hz1 hzb rfl (by omega) (.slice none 0 0) 0 [] (by simp [Act.eval, Act.put]) (World.ownsRow_nil _ _ _ _) (.slice (some ⟨gl, 0, none⟩) n lc) n (l1.flatMap pcells) (by simp [Act.eval, Act.put]) ((unhide HL1) _ (below_drew wr)) (unhide HE1) (unhide HE2) (by unfold maxLen; omega) (by omega) ?_; intro aA cA wA hownA bA hgrowA; rw [Nat.zero_add, List.nil_append] at hownA; rw [Nat.zero_add]; clear hgrowA) | (refine step_new (wx := wr) (by rfl) (.tmp 84) (.tmp 88) 26 (by rfl) bA 33 i0 _ 9 104 Try.underlying26 hi0 hz0 hz1 hzb rfl (by omega) (.slice aA n cA) n (l1.flatMap pcells) (by simp [Act.eval, Act.put]) hownA (.slice (some A) (kl - (n + 1)) (lc - (n + 1))) (kl - (n + 1)) (l2.flatMap pcells) (by simp [Act.eval, Act.put]) ((unhide HL2) _ bA) (unhide HE3) (unhide HE4) (by unfold maxLen; omega) (by omega) ?_; intro aB cB wB hownB bB hgrowB; clear hgrowB) | fail)
            rw [← List.flatMap_append] at hownB
            have HPz := hide ((unhide HPj).below bB)
            obtain ⟨klz, hklq⟩ : ∃ z, z = n + (kl - (n + 1)) := ⟨_, rfl⟩
            have hLz := LRow.fresh (la := none) (kl := 0) (lc := 0) (lf := []) (unhide HPj) bB hownB (unhide HLL)
            rw [← hklq] at hLz ⊢
            have HLz := hide hLz
            have HBz := hide ((unhide HBw2).trans (bB.mono (unhide HBw2).size))
            clear hownA hownB bA bB hLz hklq
            obtain ⟨kz, hkz⟩ : ∃ k, (aTakeL ms yn).length = k := ⟨_, rfl⟩
            have HKZ := hide hkz
            have hkz40 : kz ≤ 40 := by rw [← hkz]; exact (unhide HPz).few
            have hklz : klz = kz := by rw [← (unhide HLz).len, (unhide HPMz).length_eq, hkz]
            have hkk : ((kz : Int) != (klz : Int)) = false := by simp; omega
            have hkk2 : ((kz : Int) == (klz : Int)) = true := by simp; omega
            have hgt : ¬ ((40 : Int) < (kz : Int)) := by omega
            have HLNz := hide (Len_P (unhide HPz) hkz)
            clear hkz hklz
            go_wp2_with fail
            refine (unhide HLNz).mono ?_
            rintro e wL ⟨rfl, hwL⟩
            obtain rfl := hwL.symm
            clear hwL
            go_wp2_with fail
            refine (unhide HLNz).mono ?_
            rintro e wL ⟨rfl, hwL⟩
            obtain rfl := hwL.symm
            clear hwL
            go_wp2
            go_roundw
            case rel => exact ⟨q + 1, _, _, _, _, _, _, by omega, by go_num, rfl, unhide HPz, unhide HBz, unhide HLz, unhide HPMz⟩
            case measure => simp [intOf]; omega
      by_cases h2 : ya = 2
      · subst h2
        have hll := List_P (unhide HPV) (unhide HK)
        have HLL := hide hll
        clear hll
        go_wp2_with fail
        refine (unhide HLL).mono ?_
        rintro e w4 ⟨gw, cw, rfl, ow, b4⟩
        clear y0 y1 x0 x1 x2 x3 x4 x5 x6 x7 x8
        have HP4 := hide ((unhide HPV).below b4)
        have HL4 := hide ((unhide HLV).below b4)
        have HB4 := hide ((unhide HBV).trans (b4.mono (unhide HBV).size))
        have hx4 := (unhide HXV).same (b4.block _ hXV)
        have HX4 := hide hx4
        have hX4 : wr.heap.size < w4.heap.size := hx4.lt
        have HW4 := hide (pkts_row ow (unhide HK))
        have HWG : Hid (gw ∉ powns w2.heap.size v) := fun hm => by have h1 := ((unhide HPV).ge _ hm).2; have h2 := (ow.lt gw rfl).1; omega
        have hgw4 : gw < w4.heap.size := (ow.lt gw rfl).2
        obtain ⟨y0, y1, x0, x1, x2, x3, x4, x5, x6, x7, x8⟩ := hx4
        simp only [Nat.zero_add] at y0 y1 x0 x1 x2 x3 x4 x5 x6 x7 x8
        have hcs := PDbl_any (unhide HP4) yn
        clear ow b4
        by_cases hyes : 0 < k ∧ k < 40
        · obtain ⟨hkp, hk⟩ := hyes
          obtain ⟨tm, htm⟩ : ∃ t, aTakeM ms yn = t := ⟨_, rfl⟩
          have e1 : aDblB ms = true := by unfold aDblB; rw [unhide HK, decide_eq_true hkp, decide_eq_true hk]; rfl
          have e2 : aDblL ms yn = ms ++ [tm] := by unfold aDblL aSend; rw [unhide HK, if_pos hkp, if_pos hk, htm]
          rw [e1, e2] at hcs
          have HCS := hide hcs
          obtain ⟨r, hr⟩ : ∃ r, rnd yn k = r := ⟨_, rfl⟩
          have hv := rnd_val yn hkp hk40
          have hrk := rnd_lt yn hkp
          rw [hr] at hv hrk
          have hv2 : wrap64 (Int.tmod (IntKind.u64.wrap yn) (k : Int)) = (r : Int) := by
            have h1 : IntKind.u64.wrap (k : Int) = k := by rw [wrap_u]; omega
            rw [h1] at hv
            exact hv
          have hne : ¬ (IntKind.u64.wrap (k : Int) = 0) := by rw [wrap_u]; omega
          have htk := take_some (ms := ms) yn (by rw [unhide HK]; exact hkp)
          rw [unhide HK, hr, htm] at htk
          have hri : (r : Int) < (k : Int) := by omega
          have hr0 : (0 : Int) ≤ (r : Int) := by omega
          have h0i : ((k : Int) == 0) = false := by simp; omega
          have HTK := hide htk
          obtain ⟨t0, t1, t2, ⟨t3, t4, t5, t6⟩, t7, t8⟩ := tm
          clear hcs htm e1 e2 hr htk
          go_wp2_with fail
          refine (unhide HCS).mono ?_
          rintro e wd ⟨rfl, hT⟩
          clear y0 y1 x0 x1 x2 x3 x4 x5 x6 x7 x8
          have hbT := hT.below (unhide HP4)
          have hxd := (unhide HX4).same (hT.blk hX4 (unhide HXN))
          have hwd := hT.blk hgw4 (unhide HWG)
          obtain ⟨vd, hrd, hld⟩ := (unhide HL4).turn hT
          have HPd := hide hrd
          have HLd := hide hld
          have HBd := hide ((unhide HB4).trans hbT)
          obtain ⟨bw, hbw, hcw⟩ := (unhide HW4).2 hkp
          cases hbw
          obtain ⟨z0, z1, z2, z3, z4, z5, z6, z7, z8⟩ := (hcw r _ (unhide HTK)).same hwd
          obtain ⟨y0, y1, x0, x1, x2, x3, x4, x5, x6, x7, x8⟩ := hxd
          simp only [Nat.zero_add] at y0 y1 x0 x1 x2 x3 x4 x5 x6 x7 x8
          clear hbT hrd hld hT hwd hcw
          go_wp2_with (at_builtin; refine wpList_append_lies _ rfl _ _ 26 rfl w2.heap.size 33 i0 _ 9 104 Try.underlying26 hi0 hz0 hz1 hzb rfl (by omega) (.slice la kl lc) kl (lf.flatMap pcells) rfl ((unhide HLd).row.alloc _) ⟨wd.heap.size, 0, none⟩ 1 1 [.bool t0, .int .i64 t1, .int .i64 t2, .int .i64 t3, .string t4, .string t5, .string t6, .int .i64 t7, .string t8] rfl rfl (World.news_of_block (cs := #[.bool t0, .int .i64 t1, .int .i64 t2, .int .i64 t3, .string t4, .string t5, .string t6, .int .i64 t7, .string t8]) (t := 33) (fr := (0, 0)) (heap_alloc_new wd _)) (by simp [Value.oneCell']) (by omega) (by unfold maxLen; omega) (by omega) (by have := (unhide HBd).size; simp; omega) (wd.heap.size + 1) (by simp) ?_; intro gA cA wA hownA hgrowA hatA hltA)
          obtain ⟨hPA, hLA, hBA⟩ := LRow.push ((unhide HPd).below ((Below.refl _ _).alloc (Nat.le_refl _) (.cells #[.bool t0, .int .i64 t1, .int .i64 t2, .int .i64 t3, .string t4, .string t5, .string t6, .int .i64 t7, .string t8] 33))) ((unhide HLd).below ((Below.refl _ _).alloc (Nat.le_refl _) (.cells #[.bool t0, .int .i64 t1, .int .i64 t2, .int .i64 t3, .string t4, .string t5, .string t6, .int .i64 t7, .string t8] 33))) (m := ⟨t0, t1, t2, ⟨t3, t4, t5, t6⟩, t7, t8⟩) hgrowA rfl hownA (by simpa using hatA)
          have HPz := hide hPA
          have HLz := hide hLA
          have HBz := hide (((unhide HBd).alloc (unhide HBd).size (.cells #[.bool t0, .int .i64 t1, .int .i64 t2, .int .i64 t3, .string t4, .string t5, .string t6, .int .i64 t7, .string t8] 33)).trans hBA)
          have HPMz : Hid ((lf ++ [(⟨t0, t1, t2, ⟨t3, t4, t5, t6⟩, t7, t8⟩ : APkt)]).Perm (ms ++ [(⟨t0, t1, t2, ⟨t3, t4, t5, t6⟩, t7, t8⟩ : APkt)])) := (unhide HPM).append_right _
          obtain ⟨klz, hklq⟩ : ∃ n, n = kl + 1 := ⟨_, rfl⟩
          rw [← hklq] at HLz ⊢
          clear hownA hgrowA hatA hltA hPA hLA hBA hklq z0 z1 z2 z3 z4 z5 z6 z7 z8
          obtain ⟨kz, hkz⟩ : ∃ k, (ms ++ [(⟨t0, t1, t2, ⟨t3, t4, t5, t6⟩, t7, t8⟩ : APkt)]).length = k := ⟨_, rfl⟩
          have HKZ := hide hkz
          have hkz40 : kz ≤ 40 := by rw [← hkz]; exact (unhide HPz).few
          have hklz : klz = kz := by rw [← (unhide HLz).len, (unhide HPMz).length_eq, hkz]
          have hkk : ((kz : Int) != (klz : Int)) = false := by simp; omega
          have hkk2 : ((kz : Int) == (klz : Int)) = true := by simp; omega
          have hgt : ¬ ((40 : Int) < (kz : Int)) := by omega
          have HLNz := hide (Len_P (unhide HPz) hkz)
          clear hkz hklz
          clear y0 y1 x0 x1 x2 x3 x4 x5 x6 x7 x8
          go_wp2_with fail
          refine (unhide HLNz).mono ?_
          rintro e wL ⟨rfl, hwL⟩
          obtain rfl := hwL.symm
          clear hwL
          go_wp2_with fail
          refine (unhide HLNz).mono ?_
          rintro e wL ⟨rfl, hwL⟩
          obtain rfl := hwL.symm
          clear hwL
          go_wp2
          go_roundw
          case rel => exact ⟨q + 1, _, _, _, _, _, _, by omega, by go_num, rfl, unhide HPz, unhide HBz, unhide HLz, unhide HPMz⟩
          case measure => simp [intOf]; omega
        · have e1 : aDblB ms = false := by
            unfold aDblB; rw [unhide HK]
            by_cases h : 0 < k
            · rw [decide_eq_true h, decide_eq_false (fun h2 => hyes ⟨h, h2⟩)]; rfl
            · rw [decide_eq_false h]; rfl
          have e2 : aDblL ms yn = ms := by
            unfold aDblL aSend; rw [unhide HK]
            by_cases h : 0 < k
            · rw [if_pos h, if_neg (fun h2 => hyes ⟨h, h2⟩)]
            · rw [if_neg h]
          rw [e1, e2] at hcs
          have HCS := hide hcs
          clear hcs e1 e2 hyes
          go_wp2_with fail
          refine (unhide HCS).mono ?_
          rintro e wd ⟨rfl, hT⟩
          clear y0 y1 x0 x1 x2 x3 x4 x5 x6 x7 x8
          have hbT := hT.below (unhide HP4)
          obtain ⟨vd, hrd, hld⟩ := (unhide HL4).turn hT
          have HPz := hide hrd
          have HLz := hide hld
          have HBz := hide ((unhide HB4).trans hbT)
          have HPMz := HPM
          obtain ⟨klz, hklq⟩ : ∃ n, n = kl := ⟨_, rfl⟩
          rw [← hklq] at HLz ⊢
          clear hbT hrd hld hT hklq
          obtain ⟨kz, hkz⟩ : ∃ k, ms.length = k := ⟨_, rfl⟩
          have HKZ := hide hkz
          have hkz40 : kz ≤ 40 := by rw [← hkz]; exact (unhide HPz).few
          have hklz : klz = kz := by rw [← (unhide HLz).len, (unhide HPMz).length_eq, hkz]
          have hkk : ((kz : Int) != (klz : Int)) = false := by simp; omega
          have hkk2 : ((kz : Int) == (klz : Int)) = true := by simp; omega
          have hgt : ¬ ((40 : Int) < (kz : Int)) := by omega
          have HLNz := hide (Len_P (unhide HPz) hkz)
          clear hkz hklz
          go_wp2_with fail
          refine (unhide HLNz).mono ?_
          rintro e wL ⟨rfl, hwL⟩
          obtain rfl := hwL.symm
          clear hwL
          go_wp2_with fail
          refine (unhide HLNz).mono ?_
          rintro e wL ⟨rfl, hwL⟩
          obtain rfl := hwL.symm
          clear hwL
          go_wp2
          go_roundw
          case rel => exact ⟨q + 1, _, _, _, _, _, _, by omega, by go_num, rfl, unhide HPz, unhide HBz, unhide HLz, unhide HPMz⟩
          case measure => simp [intOf]; omega
      have k0 : (ya == 0) = false := by simpa using h0
      have k1 : (ya == 1) = false := by simpa using h1
      have k2' : (ya == 2) = false := by simpa using h2
      clear h0 h1 h2
      have HPz := HPV
      have HLz := HLV
      have HBz := HBV
      have HPMz := HPM
      obtain ⟨klz, hklq⟩ : ∃ n, n = kl := ⟨_, rfl⟩
      rw [← hklq] at HLz ⊢
      clear hklq
      obtain ⟨kz, hkz⟩ : ∃ k, ms.length = k := ⟨_, rfl⟩
      have HKZ := hide hkz
      have hkz40 : kz ≤ 40 := by rw [← hkz]; exact (unhide HPz).few
      have hklz : klz = kz := by rw [← (unhide HLz).len, (unhide HPMz).length_eq, hkz]
      have hkk : ((kz : Int) != (klz : Int)) = false := by simp; omega
      have hkk2 : ((kz : Int) == (klz : Int)) = true := by simp; omega
      have hgt : ¬ ((40 : Int) < (kz : Int)) := by omega
      have HLNz := hide (Len_P (unhide HPz) hkz)
      clear hkz hklz
      go_wp2_with fail
      clear y0 y1 x0 x1 x2 x3 x4 x5 x6 x7 x8
      refine (unhide HLNz).mono ?_
      rintro e wL ⟨rfl, hwL⟩
      obtain rfl := hwL.symm
      clear hwL
      go_wp2_with fail
      refine (unhide HLNz).mono ?_
      rintro e wL ⟨rfl, hwL⟩
      obtain rfl := hwL.symm
      clear hwL
      go_wp2
      go_roundw
      case rel => exact ⟨q + 1, _, _, _, _, _, _, by omega, by go_num, rfl, unhide HPz, unhide HBz, unhide HLz, unhide HPMz⟩
      case measure => simp [intOf]; omega
    · have HBF := HBw
      go_wp2
      go_ret
      exact ⟨rfl, unhide HBF⟩

end Go.Proofs.Ytlndphpidkacgab
