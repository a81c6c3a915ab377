/- CodecDoes: the walk. -/
import Derived.Test.YtemimppknlfghaaCt
import Derived.Test.YtemimppknlfghaaCp
import Derived.Lib.BufferRead
namespace Go.Proofs.Ytemimppknlfghaa
open Go.RowKit
set_option linter.unusedSimpArgs false
set_option linter.unusedVariables false

set_option maxRecDepth 100000 in
set_option maxHeartbeats 8000000 in
theorem cdoes_walk (r : ARec) (a0 : Option Addr) (L cap : Nat) (bs : List UInt8) (w : World) (r1 : r.call.name.size ≤ maxLen) (r2 : r.call.dst.size ≤ maxLen) (r3 : r.call.text.size ≤ maxLen) (r4 : r.ans.size ≤ maxLen) (hb : ByAt w a0 bs) (hL : bs.length = L) (hcap : L ≤ cap) (hm : L ≤ maxLen) (hnil : a0 = none → L = 0 ∧ cap = 0) :
    Calls Try.prog 7 #[r.val, .slice a0 L cap] w fun e w' => e = .returned (.bool true) ∧ Below w.heap.size w w' := by
  obtain ⟨dd, hdd⟩ : ∃ d, d = decR bs := ⟨_, rfl⟩
  obtain ⟨al, hal⟩ : ∃ d, d = allR bs := ⟨_, rfl⟩
  have HDB : Hid (∀ W, Below w.heap.size w W → Calls Try.prog 36 #[.slice a0 L cap] W (DecRes W dd)) := fun W h => by rw [hdd]; exact Decode_any a0 L cap bs W (hb.below h) hL hcap hm
  have HRB : Hid (∀ W, Below w.heap.size w W → L ≤ 1000000 → Calls Try.prog 37 #[.slice a0 L cap] W (DecRes W dd)) := fun W h h1 => by rw [hdd]; exact RecordOf_any a0 L cap bs W (hb.below h) hL hcap h1
  have HAB : Hid (∀ W, Below w.heap.size w W → L ≤ 1000000 → Calls Try.prog 38 #[.slice a0 L cap] W (AllRes W al)) := fun W h h1 => by rw [hal]; exact All_by a0 L cap bs W (hb.below h) hL hcap h1 hnil
  have HOB : Hid (∀ W, Below w.heap.size w W → L ≤ 1000000 → Calls Try.prog 39 #[.slice a0 L cap] W (AllRes W al)) := fun W h h1 => by rw [hal]; exact RecordsOf_by a0 L cap bs W (hb.below h) hL hcap h1 hnil
  have HAL : Hid (al.1.length ≤ L) := by
    have h1 := (AllAt.start bs)
    show al.1.length ≤ L
    rw [hal, ← hL]
    exact allR_few bs
  have HBG := hide codecBegun_any
  have HGR : Hid (∀ W, Calls Try.prog 32 #[r.val] W fun e w' => (∃ r, e = .returned (.bool r)) ∧ Below W.heap.size W w') := fun W => greatRecord_any r.client r.no r.call.kind r.call.name r.call.dst r.call.text r.code r.ans W r4
  have HEN : Hid (recI r ≠ 0 → ∀ W, Calls Try.prog 33 #[r.val] W fun e w' => e = .returned (.tuple #[.slice none 0 0, .int .i64 (recI r)]) ∧ Below W.heap.size W w') := fun h W => Encode_no r.client r.no r.call.kind r.call.name r.call.dst r.call.text r.code r.ans W r1 r2 r3 h
  have HEY := hide (fun (h : recI r = 0) W n E hE hn => Encode_brow r W n E hE hn h)
  have HBY := hide (fun (h : recI r = 0) W n E hE hn => BytesOf_any r W n E hE hn h)
  have HRF : Hid (∀ W, Calls Try.prog 34 #[r.val] W fun e w' => e = .returned (.int .i64 (recI r)) ∧ Below W.heap.size W w') := fun W => RecordFault_any r.client r.no r.call.kind r.call.name r.call.dst r.call.text r.code r.ans W r1 r2 r3
  have HCK : Hid (∀ W, Calls Try.prog 40 #[r.val] W fun e w' => e = .returned (.int .i64 (recI r)) ∧ Below W.heap.size W w') := fun W => cCheck_any r.client r.no r.call.kind r.call.name r.call.dst r.call.text r.code r.ans W r1 r2 r3
  have HQ := hide (fun W => eql47 dd.rcd dd.rcd W)
  rw [recB_self] at HQ
  have HR0 : Hid ((w.alloc (.cells (recCells r) 47)).heap[w.heap.size]? = some (.cells (recCells r) 47 (0, 0))) := heap_alloc_new w _
  have HB0 := hide ((Below.refl w.heap.size w).alloc (Nat.le_refl _) (.cells (recCells r) 47))
  have hz0 : w.heap.size < (w.alloc (.cells (recCells r) 47)).heap.size := by simp
  unfold maxLen at hm
  clear hb hL hnil hdd hal r1 r2 r3 r4
  obtain ⟨E, hE⟩ : ∃ E, encL r = E := ⟨_, rfl⟩
  rw [hE] at HEY HBY
  clear hE
  generalize recI r = cr at HEN HEY HBY HRF HCK
  obtain ⟨rc, rn, ⟨rk, ra, rb, rt⟩, rd, ru⟩ := r
  obtain ⟨⟨dc, dn, ⟨dk, da, db, dt⟩, dq, du⟩, dnn, dcode⟩ := dd
  obtain ⟨ls, lk⟩ := al
  dsimp only [ARec.val, recCells] at *
  go_enter Try.func7, Try.ntmps7
  go_wp2_with fail
  refine ((unhide HBG) _).mono ?_
  rintro e w1 ⟨rfl, b1⟩
  have HR1 := hide ((b1.block w.heap.size hz0).trans (unhide HR0))
  have HB1 := hide ((unhide HB0).trans (b1.mono (unhide HB0).size))
  have hz1 : w.heap.size < w1.heap.size := Nat.lt_of_lt_of_le hz0 b1.size
  clear b1
  obtain ⟨⟨z0, z1, z2, z3⟩, ⟨z4, z5, z6, z7⟩, _⟩ := eight (unhide HR1)

  go_wp2_with fail
  refine ((unhide HGR) _).mono ?_
  rintro e w2 ⟨⟨g1, rfl⟩, b2⟩
  clear z0 z1 z2 z3 z4 z5 z6 z7

  have HR2 := hide ((b2.block w.heap.size hz1).trans (unhide HR1))
  have HB2 := hide ((unhide HB1).trans (b2.mono (unhide HB1).size))
  have hz2 : w.heap.size < w2.heap.size := Nat.lt_of_lt_of_le hz1 b2.size
  clear b2
  obtain ⟨⟨z0, z1, z2, z3⟩, ⟨z4, z5, z6, z7⟩, _⟩ := eight (unhide HR2)

  cases g1
  case true =>
    go_wp2
    go_ret
    exact ⟨rfl, unhide HB2⟩
  by_cases hbig : (4000 : Int) < (L : Int)
  · go_wp2
    go_ret
    exact ⟨rfl, unhide HB2⟩
  have hL4 : L ≤ 4000 := by omega
  go_wp2_with fail
  by_cases hcr : cr = 0
  · subst hcr
    obtain ⟨n, hEn⟩ : ∃ n, E.length = n := ⟨_, rfl⟩
    have HEn := hide hEn
    have HEY2 := hide (fun W => (unhide HEY) rfl W n E rfl hEn)
    have HBY2 := hide (fun W => (unhide HBY) rfl W n E rfl hEn)
    clear hEn HEY HBY HEN
    refine ((unhide HEY2) _).mono ?_
    rintro e w3 ⟨gx, cx, rfl, ox, b3⟩
    have HX3 : Hid (BRow w3 0 (.slice (some ⟨gx, 0, none⟩) n cx) E) := ownsRow_base ox (Nat.zero_le _)
    clear ox
    clear z0 z1 z2 z3 z4 z5 z6 z7

    have HR3 := hide ((b3.block w.heap.size hz2).trans (unhide HR2))
    have HB3 := hide ((unhide HB2).trans (b3.mono (unhide HB2).size))
    have hz3 : w.heap.size < w3.heap.size := Nat.lt_of_lt_of_le hz2 b3.size
    clear b3
    obtain ⟨⟨z0, z1, z2, z3⟩, ⟨z4, z5, z6, z7⟩, _⟩ := eight (unhide HR3)

    go_wp2_with fail
    refine ((unhide HRF) _).mono ?_
    rintro e w4 ⟨rfl, b4⟩
    clear z0 z1 z2 z3 z4 z5 z6 z7

    have HR4 := hide ((b4.block w.heap.size hz3).trans (unhide HR3))
    have HB4 := hide ((unhide HB3).trans (b4.mono (unhide HB3).size))
    have hz4 : w.heap.size < w4.heap.size := Nat.lt_of_lt_of_le hz3 b4.size
    have HX4 := hide ((unhide HX3).below b4)
    clear b4
    obtain ⟨⟨z0, z1, z2, z3⟩, ⟨z4, z5, z6, z7⟩, _⟩ := eight (unhide HR4)

    go_wp2_with fail
    refine ((unhide HBY2) _).mono ?_
    rintro e w5 ⟨gy, cy, rfl, oy, b5⟩
    obtain ⟨sE, hsE⟩ : ∃ s : ByteArray, s = ⟨E.toArray⟩ := ⟨_, rfl⟩
    have hcvy : (convert 48 9 (.slice (some ⟨gy, 0, none⟩) n cy)).run Try.prog w5 = .ok (.string sE) w5 := hsE ▸ conv_at _ ⟨gy, 0, none⟩ E cy n (unhide HEn).symm (fun j x hx => by rw [addr_add]; exact oy.cells j x hx)
    clear z0 z1 z2 z3 z4 z5 z6 z7

    have HR5 := hide ((b5.block w.heap.size hz4).trans (unhide HR4))
    have HB5 := hide ((unhide HB4).trans (b5.mono (unhide HB4).size))
    have hz5 : w.heap.size < w5.heap.size := Nat.lt_of_lt_of_le hz4 b5.size
    have HX5 := hide ((unhide HX4).below b5)
    clear b5 oy
    go_wp2_with fail

    refine ((unhide HDB) _ (unhide HB5)).mono ?_
    rintro e w6 ⟨b6, rfl⟩

    have HR6 := hide ((b6.block w.heap.size hz5).trans (unhide HR5))
    have HB6 := hide ((unhide HB5).trans (b6.mono (unhide HB5).size))
    have hz6 : w.heap.size < w6.heap.size := Nat.lt_of_lt_of_le hz5 b6.size
    have HX6 := hide ((unhide HX5).below b6)
    clear b6
    dsimp only [ARec.val]

    obtain ⟨V, hV⟩ : ∃ V, V = w6.alloc (.cells #[.int .i64 dc, .int .i64 dn, .int .i64 dk, .string da, .string db, .string dt, .int .i64 dq, .string du] 47) := ⟨_, rfl⟩
    have HBV : Hid (Below w.heap.size w V) := by rw [hV]; exact (unhide HB6).alloc (unhide HB6).size _
    have HYV : Hid (V.heap[w6.heap.size]? = some (.cells #[.int .i64 dc, .int .i64 dn, .int .i64 dk, .string da, .string db, .string dt, .int .i64 dq, .string du] 47 (0, 0))) := by rw [hV]; exact heap_alloc_new _ _
    have HRV : Hid (V.heap[w.heap.size]? = some (.cells #[.int .i64 rc, .int .i64 rn, .int .i64 rk, .string ra, .string rb, .string rt, .int .i64 rd, .string ru] 47 (0, 0))) := by rw [hV]; exact (Below.heap_alloc _ _ _ hz6).trans (unhide HR6)
    have hzV : w6.heap.size < V.heap.size := by rw [hV]; simp
    have HXV : Hid (BRow V 0 (.slice (some ⟨gx, 0, none⟩) n cx) E) := by rw [hV]; exact (unhide HX6).alloc _

    go_wp2_with fail
    rw [← hV]
    clear hV
    refine ((unhide HRB) _ (unhide HBV) (by omega)).mono ?_
    rintro e u1 ⟨c1, rfl⟩
    have HBU1 := hide ((unhide HBV).trans (c1.mono (unhide HBV).size))
    have HYU1 := hide ((c1.block w6.heap.size hzV).trans (unhide HYV))
    have HRU1 := hide ((c1.block w.heap.size (by omega)).trans (unhide HRV))
    have hzU1 : w6.heap.size < u1.heap.size := Nat.lt_of_lt_of_le hzV c1.size
    have HXU1 := hide ((unhide HXV).below c1)

    clear c1
    dsimp only [ARec.val]
    obtain ⟨V2, hV2⟩ : ∃ V, V = u1.alloc (.cells #[.int .i64 dc, .int .i64 dn, .int .i64 dk, .string da, .string db, .string dt, .int .i64 dq, .string du] 47) := ⟨_, rfl⟩
    have HBV2 : Hid (Below w.heap.size w V2) := by rw [hV2]; exact (unhide HBU1).alloc (unhide HBU1).size _
    have HUV2 : Hid (V2.heap[u1.heap.size]? = some (.cells #[.int .i64 dc, .int .i64 dn, .int .i64 dk, .string da, .string db, .string dt, .int .i64 dq, .string du] 47 (0, 0))) := by rw [hV2]; exact heap_alloc_new _ _
    have HYV2 : Hid (V2.heap[w6.heap.size]? = some (.cells #[.int .i64 dc, .int .i64 dn, .int .i64 dk, .string da, .string db, .string dt, .int .i64 dq, .string du] 47 (0, 0))) := by rw [hV2]; exact (Below.heap_alloc _ _ _ hzU1).trans (unhide HYU1)
    have HRV2 : Hid (V2.heap[w.heap.size]? = some (.cells #[.int .i64 rc, .int .i64 rn, .int .i64 rk, .string ra, .string rb, .string rt, .int .i64 rd, .string ru] 47 (0, 0))) := by rw [hV2]; exact (Below.heap_alloc _ _ _ (by omega)).trans (unhide HRU1)
    have hzV2 : u1.heap.size < V2.heap.size := by rw [hV2]; simp
    have HXV2 : Hid (BRow V2 0 (.slice (some ⟨gx, 0, none⟩) n cx) E) := by rw [hV2]; exact (unhide HXU1).alloc _

    go_wp2_with fail
    rw [← hV2]
    clear hV2
    refine ((unhide HAB) _ (unhide HBV2) (by omega)).mono ?_
    rintro e u2 ⟨ga, ca, rfl, oa, c2⟩
    have HOA := hide (recs_row oa rfl)
    go_wp2_with fail
    have HBU2 := hide ((unhide HBV2).trans (c2.mono (unhide HBV2).size))
    have HW2 := hide c2
    refine ((unhide HOB) _ (unhide HBU2) (by omega)).mono ?_
    rintro e u3 ⟨gb, cb, rfl, ob, c3⟩
    have HOB3 := hide (recs_row ob rfl)
    have HOA3 := hide ((unhide HOA).below c3)
    have HW3 := hide ((unhide HW2).trans (c3.mono (unhide HW2).size))
    have HBU3 := hide ((unhide HBU2).trans (c3.mono (unhide HBU2).size))
    have HR3' := hide (((unhide HW3).block w.heap.size (by omega)).trans (unhide HRV2))
    obtain ⟨⟨z0, z1, z2, z3⟩, ⟨z4, z5, z6, z7⟩, _⟩ := eight (unhide HR3')
    clear oa ob c2 c3
    go_wp2_with fail
    refine ((unhide HCK) _).mono ?_
    rintro e u4 ⟨rfl, c4⟩
    clear z0 z1 z2 z3 z4 z5 z6 z7
    have HW4 := hide ((unhide HW3).trans (c4.mono (unhide HW3).size))
    have HBU4 := hide ((unhide HBU3).trans (c4.mono (unhide HBU3).size))
    have HOA4 := hide ((unhide HOA3).below c4)
    have HOB4 := hide ((unhide HOB3).below c4)
    have HY4 := hide (((unhide HW4).block w6.heap.size (by omega)).trans (unhide HYV2))
    have HU4 := hide (((unhide HW4).block u1.heap.size hzV2).trans (unhide HUV2))
    obtain ⟨⟨y0, y1, y2, y3⟩, ⟨y4, y5, y6, y7⟩, _⟩ := eight (unhide HY4)
    obtain ⟨⟨x0, x1, x2, x3⟩, ⟨x4, x5, x6, x7⟩, _⟩ := eight (unhide HU4)
    have e47 := unhide HQ
    have hcvx : (convert 48 9 (.slice (some ⟨gx, 0, none⟩) n cx)).run Try.prog u4 = .ok (.string sE) u4 := hsE ▸ conv_at _ ⟨gx, 0, none⟩ E cx n (unhide HEn).symm (fun j x hx => by rw [addr_add]; exact ((unhide HXV2).below (unhide HW4)).cells j x hx)

    have HSR := hide (SameRecords_eq ga gb ls.length ca cb ls u4 (unhide HOA4) (unhide HOB4) (by have := unhide HAL; omega))
    clear c4
    go_wp2_with fail
    refine (unhide HSR).mono ?_
    rintro e u5 ⟨rfl, c5⟩
    have HBU5 := hide ((unhide HBU4).trans (c5.mono (unhide HBU4).size))
    clear c5 x0 x1 x2 x3 x4 x5 x6 x7 y0 y1 y2 y3 y4 y5 y6 y7
    go_wp2
    go_ret
    exact ⟨rfl, unhide HBU5⟩

  · have HEN2 := hide ((unhide HEN) hcr)
    clear HEY HBY HEN
    refine ((unhide HEN2) _).mono ?_
    rintro e w3 ⟨rfl, b3⟩
    clear z0 z1 z2 z3 z4 z5 z6 z7

    have HR3 := hide ((b3.block w.heap.size hz2).trans (unhide HR2))
    have HB3 := hide ((unhide HB2).trans (b3.mono (unhide HB2).size))
    have hz3 : w.heap.size < w3.heap.size := Nat.lt_of_lt_of_le hz2 b3.size
    clear b3
    obtain ⟨⟨z0, z1, z2, z3⟩, ⟨z4, z5, z6, z7⟩, _⟩ := eight (unhide HR3)

    go_wp2_with fail
    refine ((unhide HRF) _).mono ?_
    rintro e w4 ⟨rfl, b4⟩
    clear z0 z1 z2 z3 z4 z5 z6 z7

    have HR4 := hide ((b4.block w.heap.size hz3).trans (unhide HR3))
    have HB4 := hide ((unhide HB3).trans (b4.mono (unhide HB3).size))
    have hz4 : w.heap.size < w4.heap.size := Nat.lt_of_lt_of_le hz3 b4.size
    clear b4
    go_wp2_with fail

    refine ((unhide HDB) _ (unhide HB4)).mono ?_
    rintro e w5 ⟨b5, rfl⟩

    have HR5 := hide ((b5.block w.heap.size hz4).trans (unhide HR4))
    have HB5 := hide ((unhide HB4).trans (b5.mono (unhide HB4).size))
    have hz5 : w.heap.size < w5.heap.size := Nat.lt_of_lt_of_le hz4 b5.size
    clear b5
    dsimp only [ARec.val]

    obtain ⟨V, hV⟩ : ∃ V, V = w5.alloc (.cells #[.int .i64 dc, .int .i64 dn, .int .i64 dk, .string da, .string db, .string dt, .int .i64 dq, .string du] 47) := ⟨_, rfl⟩
    have HBV : Hid (Below w.heap.size w V) := by rw [hV]; exact (unhide HB5).alloc (unhide HB5).size _
    have HYV : Hid (V.heap[w5.heap.size]? = some (.cells #[.int .i64 dc, .int .i64 dn, .int .i64 dk, .string da, .string db, .string dt, .int .i64 dq, .string du] 47 (0, 0))) := by rw [hV]; exact heap_alloc_new _ _
    have HRV : Hid (V.heap[w.heap.size]? = some (.cells #[.int .i64 rc, .int .i64 rn, .int .i64 rk, .string ra, .string rb, .string rt, .int .i64 rd, .string ru] 47 (0, 0))) := by rw [hV]; exact (Below.heap_alloc _ _ _ hz5).trans (unhide HR5)
    have hzV : w5.heap.size < V.heap.size := by rw [hV]; simp

    go_wp2_with fail
    rw [← hV]
    clear hV
    refine ((unhide HRB) _ (unhide HBV) (by omega)).mono ?_
    rintro e u1 ⟨c1, rfl⟩
    have HBU1 := hide ((unhide HBV).trans (c1.mono (unhide HBV).size))
    have HYU1 := hide ((c1.block w5.heap.size hzV).trans (unhide HYV))
    have HRU1 := hide ((c1.block w.heap.size (by omega)).trans (unhide HRV))
    have hzU1 : w5.heap.size < u1.heap.size := Nat.lt_of_lt_of_le hzV c1.size

    clear c1
    dsimp only [ARec.val]
    obtain ⟨V2, hV2⟩ : ∃ V, V = u1.alloc (.cells #[.int .i64 dc, .int .i64 dn, .int .i64 dk, .string da, .string db, .string dt, .int .i64 dq, .string du] 47) := ⟨_, rfl⟩
    have HBV2 : Hid (Below w.heap.size w V2) := by rw [hV2]; exact (unhide HBU1).alloc (unhide HBU1).size _
    have HUV2 : Hid (V2.heap[u1.heap.size]? = some (.cells #[.int .i64 dc, .int .i64 dn, .int .i64 dk, .string da, .string db, .string dt, .int .i64 dq, .string du] 47 (0, 0))) := by rw [hV2]; exact heap_alloc_new _ _
    have HYV2 : Hid (V2.heap[w5.heap.size]? = some (.cells #[.int .i64 dc, .int .i64 dn, .int .i64 dk, .string da, .string db, .string dt, .int .i64 dq, .string du] 47 (0, 0))) := by rw [hV2]; exact (Below.heap_alloc _ _ _ hzU1).trans (unhide HYU1)
    have HRV2 : Hid (V2.heap[w.heap.size]? = some (.cells #[.int .i64 rc, .int .i64 rn, .int .i64 rk, .string ra, .string rb, .string rt, .int .i64 rd, .string ru] 47 (0, 0))) := by rw [hV2]; exact (Below.heap_alloc _ _ _ (by omega)).trans (unhide HRU1)
    have hzV2 : u1.heap.size < V2.heap.size := by rw [hV2]; simp

    go_wp2_with fail
    rw [← hV2]
    clear hV2
    refine ((unhide HAB) _ (unhide HBV2) (by omega)).mono ?_
    rintro e u2 ⟨ga, ca, rfl, oa, c2⟩
    have HOA := hide (recs_row oa rfl)
    go_wp2_with fail
    have HBU2 := hide ((unhide HBV2).trans (c2.mono (unhide HBV2).size))
    have HW2 := hide c2
    refine ((unhide HOB) _ (unhide HBU2) (by omega)).mono ?_
    rintro e u3 ⟨gb, cb, rfl, ob, c3⟩
    have HOB3 := hide (recs_row ob rfl)
    have HOA3 := hide ((unhide HOA).below c3)
    have HW3 := hide ((unhide HW2).trans (c3.mono (unhide HW2).size))
    have HBU3 := hide ((unhide HBU2).trans (c3.mono (unhide HBU2).size))
    have HR3' := hide (((unhide HW3).block w.heap.size (by omega)).trans (unhide HRV2))
    obtain ⟨⟨z0, z1, z2, z3⟩, ⟨z4, z5, z6, z7⟩, _⟩ := eight (unhide HR3')
    clear oa ob c2 c3
    go_wp2_with fail
    refine ((unhide HCK) _).mono ?_
    rintro e u4 ⟨rfl, c4⟩
    clear z0 z1 z2 z3 z4 z5 z6 z7
    have HW4 := hide ((unhide HW3).trans (c4.mono (unhide HW3).size))
    have HBU4 := hide ((unhide HBU3).trans (c4.mono (unhide HBU3).size))
    have HOA4 := hide ((unhide HOA3).below c4)
    have HOB4 := hide ((unhide HOB3).below c4)
    have HY4 := hide (((unhide HW4).block w5.heap.size (by omega)).trans (unhide HYV2))
    have HU4 := hide (((unhide HW4).block u1.heap.size hzV2).trans (unhide HUV2))
    obtain ⟨⟨y0, y1, y2, y3⟩, ⟨y4, y5, y6, y7⟩, _⟩ := eight (unhide HY4)
    obtain ⟨⟨x0, x1, x2, x3⟩, ⟨x4, x5, x6, x7⟩, _⟩ := eight (unhide HU4)
    have e47 := unhide HQ
    have hcvx : (convert 48 9 (.slice none 0 0)).run Try.prog u4 = .ok (.string ⟨#[]⟩) u4 := Lib.run_convert_nil_bytes u4 48 9 5 0 Try.underlying48 Try.underlying5 Try.underlying9

    have HSR := hide (SameRecords_eq ga gb ls.length ca cb ls u4 (unhide HOA4) (unhide HOB4) (by have := unhide HAL; omega))
    clear c4
    go_wp2_with fail
    refine (unhide HSR).mono ?_
    rintro e u5 ⟨rfl, c5⟩
    have HBU5 := hide ((unhide HBU4).trans (c5.mono (unhide HBU4).size))
    clear c5 x0 x1 x2 x3 x4 x5 x6 x7 y0 y1 y2 y3 y4 y5 y6 y7
    go_wp2
    go_ret
    exact ⟨rfl, unhide HBU5⟩

end Go.Proofs.Ytemimppknlfghaa
