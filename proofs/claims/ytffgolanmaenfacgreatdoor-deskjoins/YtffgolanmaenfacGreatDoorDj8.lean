/- Texts joined, what is needed of them: En Ep Eq Er Es Eo Et Eu Ev Ew Ex Ey Eya Eyb Eyc Vs0 Yh. -/
import Derived.Test.YtffgolanmaenfacGreatDoorDj7
namespace Go.Proofs.YtffgolanmaenfacGreatDoor
open Go.RowKit
set_option linter.unusedSimpArgs false
set_option linter.unusedVariables false

theorem DInv.rint_done {A : AW} (h : DInv A) {n : Nat} (hn : n < 3) {r : ARec} (hr : r ∈ (A.cl n).done) : RInt r := by
  obtain ⟨k, hk⟩ := List.mem_iff_getElem?.1 hr
  have hk2 := (List.getElem?_eq_some_iff.1 hk).1
  obtain ⟨e1, e2⟩ := (h.wi.cok n hn).num k r hk
  have e3 := h.wi.me n hn
  have e4 := (h.wi.cok n hn).few
  exact ⟨by omega, by omega, by omega, by omega, ((h.wi.cok n hn).small r hr).1, h.ti.dn n hn r hr⟩
theorem DInv.rint_log {A : AW} (h : DInv A) {r : ARec} (hr : r ∈ A.log) : RInt r := by
  have hl := h.wi.lg r hr
  have h1 := hl.lo
  have h2 := hl.hi
  have h3 := hl.no
  have hk := calls_few h.wi (by omega) hl.is
  exact ⟨by omega, by omega, by omega, by omega, check_SmallC (h.wi.chk _ (by omega) _ (List.mem_of_getElem? hl.is)), h.wi.logA hr⟩
theorem DInv.rint_pkt {A : AW} (h : DInv A) {q : APkt} (hq : q ∈ A.ms) : RInt ⟨q.client, q.no, q.call, q.code, q.ans⟩ := by
  have hl := h.wi.pk q hq
  have h1 := hl.lo
  have h2 := hl.hi
  have h3 := hl.no
  have hk := calls_few h.wi (by omega) hl.is
  exact ⟨by show _ ≤ q.client; omega, by show q.client ≤ _; omega, by show _ ≤ q.no; omega, by show q.no ≤ _; omega, check_SmallC (h.wi.chk _ (by omega) _ (List.mem_of_getElem? hl.is)), h.ti.ms q hq⟩
theorem tflat_take {α : Type} (f : α → List UInt8) (l : List α) (q : Nat) : ((l.take q).flatMap f).length ≤ (l.flatMap f).length := by
  have h : l.flatMap f = (l.take q).flatMap f ++ (l.drop q).flatMap f := by rw [← List.flatMap_append, List.take_append_drop]
  rw [h, List.length_append]
  omega
theorem tflat_snoc {α : Type} (f : α → List UInt8) (l : List α) (q : Nat) (x : α) (h : l[q]? = some x) : (l.take (q + 1)).flatMap f = (l.take q).flatMap f ++ f x := by
  rw [List.take_add_one, h]
  simp
theorem rec_size (l : List UInt8) : (B l).size = l.length := by rw [← bsize, B_data]

set_option maxRecDepth 100000 in
set_option maxHeartbeats 8000000 in
theorem ddone_out {N : Nat} {w u : World} {D W : Nat} {own : List Nat} {bs : List UInt8} {A : AW} (h : DN N w own D W bs A u) (n : Int) (hn : n < 0 ∨ 2 < n) (hl : bs.length ≤ 900000000) :
    Calls Tryz.prog 96 #[.pointer (some ⟨D, 0, none⟩), .int .i64 n] u fun e w' => e = .returned (.tuple #[]) ∧ DN N w own D W (bs ++ tNo 9) A w' := by
  have hc := h.cell
  have HC := hide (Client_none W u n hn)
  have HR := hide (h.refuse 9 (by decide) (by decide) hl)
  clear h hn hl
  go_enter Tryz.func96, Tryz.ntmps96
  go_wp2_with fail
  refine (unhide HC).mono ?_
  rintro e w1 ⟨rfl, rfl⟩
  go_wp2_with fail
  refine (unhide HR).mono ?_
  rintro e w2 ⟨rfl, hd2⟩
  have HD2 := hide hd2
  clear hd2
  go_wp2
  ((try simp only [Exit.inBlock, Exit.then]); refine bodyPost_ret (results_none rfl _ _ _) rfl ?_)
  exact ⟨rfl, unhide HD2⟩

set_option maxRecDepth 100000 in
set_option maxHeartbeats 16000000 in
theorem ddone_in {N : Nat} {w u : World} {D W : Nat} {own : List Nat} {bs : List UInt8} {A : AW} (h : DN N w own D W bs A u) (n : Nat) (hn : n < 3) (hl : bs.length ≤ 800000000) :
    Calls Tryz.prog 96 #[.pointer (some ⟨D, 0, none⟩), .int .i64 (n : Int)] u fun e w' => e = .returned (.tuple #[]) ∧ DN N w own D W (bs ++ ((A.cl n).done.flatMap tRec ++ tEnd)) A w' := by
  have hc := h.cell
  have HI := hide h.inv
  have hfl : ((A.cl n).done.flatMap tRec).length ≤ 90000 := by
    have h1 := flat_few tRec 220 (A.cl n).done (fun p hp => h.inv.done_rec hn hp)
    have h2 := (h.inv.wi.cok n hn).few
    omega
  have HRI : Hid (∀ r, r ∈ (A.cl n).done → RInt r) := hide fun r hr => h.inv.rint_done hn hr
  obtain ⟨own1, hown, hre⟩ := h.rebase
  have HRE := hide hre
  have HOWN := hide hown
  obtain ⟨p, v, o, hd, hnx⟩ := h.d
  have HC := hide (Client_some hd.w n hn)
  obtain ⟨m, hm⟩ : ∃ m, (A.cl n).done.length = m := ⟨_, rfl⟩
  have HDO := hide (Done_any (hd.w.c n hn) hm)
  have hm2 : m ≤ 200 := by rw [← hm]; exact (h.inv.wi.cok n hn).few
  generalize o.X n = X at HC HDO
  generalize (A.cl n).done = rs at *
  have HM := hide hm
  have HFL := hide hfl
  have HBL := hide hl
  have HN3 := hide hn
  clear h hn hl hfl hm hre hown hd hnx
  go_enter Tryz.func96, Tryz.ntmps96
  go_wp2_with fail
  --@A1@
  refine (unhide HC).mono ?_
  rintro e w1 ⟨rfl, rfl⟩
  go_wp2_with fail
  --@A2@
  refine (unhide HDO).mono ?_
  rintro e w2 ⟨g, cap, rfl, hrow, b2⟩
  obtain ⟨hd2, hback⟩ := (unhide HRE) w2 b2
  have HROW := hide (recs_row hrow (unhide HM))
  have hgl := hrow.lt g rfl
  have HGN : Hid (g ∉ own1) := hide fun hm => by have := (unhide HOWN) g hm; omega
  have HGL := hide hgl.2
  have HD2 := hide hd2
  have HBACK := hide hback
  clear hrow b2 hd2 hback hgl HRE HC HDO hc
  go_wp2
  --@A3@
  go_loopw [6, 20] (fun _ i wr => ∃ q : Nat, q ≤ m ∧ i = .int .i64 (q : Int) ∧ Hid (DN N w2 own1 D W (bs ++ (rs.take q).flatMap tRec) A wr)) (fun _ i _ => m - (intOf i).toNat)
  case atStart => exact ⟨0, Nat.zero_le _, rfl, by show DN _ _ _ _ _ _ _ _; simpa using unhide HD2⟩
  case round =>
    obtain ⟨q, hq, rfl, HDQ⟩ := hrel
    by_cases hlt : (q : Int) < (m : Int)
    · obtain ⟨x, hx⟩ : ∃ x, rs[q]? = some x := ⟨_, List.getElem?_eq_getElem (by rw [unhide HM]; omega)⟩
      have hblk := (unhide HDQ).blk (unhide HGL) (unhide HGN)
      obtain ⟨g0, off0, e0, hcx⟩ := ((unhide HROW).same (fun A' e => by injection e with e; subst e; exact hblk)).2 (by omega)
      injection e0 with e0
      injection e0 with e0 e1 _
      subst e0 e1
      obtain ⟨x0, x1, x2, x3, x4, x5, x6, x7⟩ := hcx q x hx
      simp only [Nat.zero_add] at x0 x1 x2 x3 x4 x5 x6 x7
      have hri := (unhide HRI) x (List.mem_of_getElem? hx)
      have hlq := tflat_take tRec rs q
      have hsn := tflat_snoc tRec rs q x hx
      have hsz : (tRec x).length = (recT x.client x.no x.call x.code x.ans).length + 1 := by unfold tRec; rw [List.length_append]; rfl
      have hlq1 := tflat_take tRec rs (q + 1)
      rw [hsn, List.length_append, hsz] at hlq1
      have HREC : Hid (∀ W', Below wr.heap.size wr W' → Calls Tryz.prog 137 #[x.val] W' fun e w' => e = .returned (.string (B (recT x.client x.no x.call x.code x.ans))) ∧ Below W'.heap.size W' w') := hide fun W' hb => record_any x W' ((unhide HDQ).gw.below hb).lw hri
      have HSAY : Hid (∀ W', Below wr.heap.size wr W' → Calls Tryz.prog 48 #[.pointer (some ⟨D, 0, none⟩), .slice (some ⟨W'.heap.size, 0, none⟩) 1 1] (W'.alloc (.cells #[.string (B (recT x.client x.no x.call x.code x.ans))] 9)) fun e w' => e = .returned (.tuple #[]) ∧ DN N w2 own1 D W (bs ++ (rs.take (q + 1)).flatMap tRec) A w') := hide fun W' hb => by
        have := (unhide HDQ).say1 (B (recT x.client x.no x.call x.code x.ans)) hb (by rw [List.length_append, rec_size]; have := unhide HFL; have := unhide HBL; omega)
        rw [B_data, List.append_assoc] at this
        rw [hsn]
        exact this
      generalize B (recT x.client x.no x.call x.code x.ans) = RX at HREC HSAY
      have hgz : g < wr.heap.size := (hcx q x hx).lt
      obtain ⟨xc, xn, ⟨ck, ca, cb, ct⟩, d, ua⟩ := x
      dsimp only [ARec.val] at *
      obtain ⟨V, hV⟩ : ∃ V, V = wr.alloc (.cells #[.int .i64 xc, .int .i64 xn, .int .i64 ck, .string ca, .string cb, .string ct, .int .i64 d, .string ua] 111) := ⟨_, rfl⟩
      have hBV : Below wr.heap.size wr V := by rw [hV]; exact (Below.refl _ _).alloc (Nat.le_refl _) _
      have HBV := hide hBV
      have HV := hide hV
      clear hx hcx hri hlq hsn hsz hlq1 hblk hBV hV
      go_wp2_with fail
      --@A4@
      rw [← unhide HV]
      refine ((unhide HREC) V (unhide HBV)).mono ?_
      rintro e w3 ⟨rfl, b3⟩
      have HB3 := hide ((unhide HBV).trans (b3.mono (unhide HBV).size))
      clear b3 x0 x1 x2 x3 x4 x5 x6 x7
      go_wp2_with fail
      --@A5@
      refine ((unhide HSAY) w3 (unhide HB3)).mono ?_
      rintro e w4 ⟨rfl, hd4⟩
      have HD4 := hide hd4
      clear hd4
      go_wp2
      go_roundw
      case rel => exact ⟨q + 1, by omega, by go_num, unhide HD4⟩
      case measure => simp [intOf]; omega
    · obtain rfl : q = m := by omega
      have hd := unhide HDQ
      rw [List.take_of_length_le (by rw [unhide HM]; omega)] at hd
      have HEND := hide (hd.end (w1 := wr) (Below.refl _ _) (by rw [List.length_append]; have := unhide HFL; have := unhide HBL; omega))
      clear hd
      go_wp2_with fail
      refine (unhide HEND).mono ?_
      rintro e w4 ⟨rfl, hd4⟩
      rw [List.append_assoc] at hd4
      have HD4 := hide ((unhide HBACK) _ _ _ hd4)
      clear hd4
      go_wp2
      go_end0
      exact ⟨rfl, unhide HD4⟩
end Go.Proofs.YtffgolanmaenfacGreatDoor

namespace Go.Proofs.YtffgolanmaenfacGreatDoor
open Go.RowKit
set_option linter.unusedSimpArgs false
set_option linter.unusedVariables false

set_option maxRecDepth 100000 in
set_option maxHeartbeats 4000000 in
/-- Of, and where its records lie: in new memory. -/
theorem Of_z {w : World} {N T c : Nat} {a : Option Addr} {L : List ARec} (h : BRow w N (.slice a T c) (logB L)) (hT : (logB L).length = T) (hm : T ≤ 1000000) (hg : Good L) :
    Calls Tryz.prog 141 #[.slice a T c] w fun e w' => ∃ S a m c, e = .returned (.pointer (some ⟨S, 0, none⟩)) ∧ YRep w' S a m c L ∧ w.heap.size ≤ S ∧ (∀ A', a = some A' → w.heap.size ≤ A'.block ∧ A'.block < w'.heap.size) ∧ Below w.heap.size w w' := by
  obtain ⟨h1, h2, h3⟩ := h.by hT
  have hfew := allR_few (logB L)
  have HAL := hide (All_by a T c (logB L) w h1 hT h3 hm h2)
  rw [allR_log hg] at HAL hfew
  generalize logB L = bs at *
  obtain ⟨m, hmm⟩ : ∃ m, L.length = m := ⟨_, rfl⟩
  have hm5 : m ≤ 1000000 := by dsimp only at hfew; omega
  have HG := hide hg
  clear h h1 h2 h3 hT hfew hg
  go_enter Tryz.func141, Tryz.ntmps141
  go_wp2_with fail
  refine (unhide HAL).mono ?_
  rintro e w1 ⟨ga, ca, rfl, oa, b1⟩
  dsimp only at oa ⊢
  rw [hmm] at oa ⊢
  have HRS := hide (recs_row oa hmm)
  have HCP := hide (row_cap oa)
  have HGE : Hid (∀ A', ga = some A' → w.heap.size ≤ A'.block ∧ A'.block < w1.heap.size) := hide fun A' e => oa.lt A'.block (by rw [e]; rfl)
  have HB1 := hide b1
  clear oa b1
  go_wp2
  go_ret
  exact ⟨_, _, _, _, rfl, ⟨heap_alloc_new _ _, (unhide HRS).below ((Below.refl _ _).alloc (Nat.le_refl _) _), unhide HCP, unhide HG, hm5⟩, (unhide HB1).size, fun A' e => ⟨((unhide HGE) A' e).1, by have := ((unhide HGE) A' e).2; simp; omega⟩, (unhide HB1).alloc (unhide HB1).size _⟩
theorem YRep.same {w w' : World} {S : Nat} {a : Option Addr} {n c : Nat} {L : List ARec} (h : YRep w S a n c L) (hs : w'.heap[S]? = w.heap[S]?) (ha : ∀ A', a = some A' → w'.heap[A'.block]? = w.heap[A'.block]?) : YRep w' S a n c L := ⟨hs.trans h.blk, h.recs.same ha, h.cap, h.good, h.few⟩

set_option maxRecDepth 100000 in
set_option maxHeartbeats 16000000 in
theorem dlog_any {N : Nat} {w u : World} {D W : Nat} {own : List Nat} {bs : List UInt8} {A : AW} (h : DN N w own D W bs A u) (hl : bs.length ≤ 800000000) :
    Calls Tryz.prog 98 #[.pointer (some ⟨D, 0, none⟩)] u fun e w' => e = .returned (.tuple #[]) ∧ DN N w own D W (bs ++ (A.log.flatMap tRec ++ tEnd)) A w' := by
  have hc := h.cell
  have hfl : (A.log.flatMap tRec).length ≤ 90000 := by
    have h1 := flat_few tRec 220 A.log (fun p hp => h.inv.log_rec hp)
    have h2 := h.inv.log_few
    omega
  have HRI : Hid (∀ r, r ∈ A.log → RInt r) := hide fun r hr => h.inv.rint_log hr
  have HGOOD := hide h.inv.wi.good
  have hss := h.inv.wi.ss
  obtain ⟨own1, hown, hre⟩ := h.rebase
  have HRE := hide hre
  have HOWN := hide hown
  obtain ⟨m, hm⟩ : ∃ m, A.log.length = m := ⟨_, rfl⟩
  have hm2 : m ≤ 400 := by rw [← hm]; exact h.inv.log_few
  obtain ⟨p, v, o, hd, hnx⟩ := h.d
  have hcs := hd.w.cells.1.1
  have HLG := hide (Log_any hd.w.s (by omega))
  generalize o.S = SS at HLG hcs
  generalize A.log = rs at *
  have HM := hide hm
  have HFL := hide hfl
  have HBL := hide hl
  have HSS := hide hss
  clear h hl hfl hm hre hown hd hnx hss
  go_enter Tryz.func98, Tryz.ntmps98
  go_wp2_with fail
  --@A1@
  refine (unhide HLG).mono ?_
  rintro e w1 ⟨a1, c1, rfl, hrow, b1⟩
  have HOF := hide (Of_z hrow rfl (by have := unhide HSS; omega) (unhide HGOOD))
  have HB1 := hide b1
  clear hrow b1 hc hcs
  go_wp2_with fail
  --@A2@
  refine (unhide HOF).mono ?_
  rintro e w2 ⟨S, ya, yn, yc, rfl, hy, hS, hya, b2⟩
  obtain rfl : yn = m := by rw [← unhide HM, hy.len]
  have hB2 := (unhide HB1).trans (b2.mono (unhide HB1).size)
  obtain ⟨hd2, hback⟩ := (unhide HRE) w2 hB2
  have HLY : Hid (∀ wr bs', DN N w2 own1 D W bs' A wr → YRep wr S ya yn yc rs) := hide fun wr bs' hdr => by
    have hz := (unhide HB1).size
    refine hy.same (hdr.blk hy.lt (fun hm => by have := (unhide HOWN) S hm; omega)) (fun A' e => hdr.blk (hya A' e).2 (fun hm => by have := (unhide HOWN) _ hm; have := (hya A' e).1; omega))
  have HLEN := hide (Len_y hy)
  have HD2 := hide hd2
  have HBACK := hide hback
  clear b2 hd2 hback HRE HLG HOF hB2 hy hS hya
  go_wp2_with fail
  --@A3@
  refine (unhide HLEN).mono ?_
  rintro e w3 ⟨rfl, rfl⟩
  go_wp2
  --@A4@
  go_loopw [3, 4, 5, 17] (fun _ _ _ i wr => ∃ q : Nat, q ≤ yn ∧ i = .int .i64 (q : Int) ∧ Hid (DN N w3 own1 D W (bs ++ (rs.take q).flatMap tRec) A wr)) (fun _ _ _ i _ => yn - (intOf i).toNat)
  case atStart => exact ⟨0, Nat.zero_le _, rfl, by show DN _ _ _ _ _ _ _ _; simpa using unhide HD2⟩
  case round =>
    obtain ⟨q, hq, rfl, HDQ⟩ := hrel
    by_cases hlt : (q : Int) < (yn : Int)
    · obtain ⟨x, hx⟩ : ∃ x, rs[q]? = some x := ⟨_, List.getElem?_eq_getElem (by rw [unhide HM]; omega)⟩
      have HRI2 := hide (Record_in ((unhide HLY) wr _ (unhide HDQ)) q x hx)
      have hri := (unhide HRI) x (List.mem_of_getElem? hx)
      have hlq := tflat_take tRec rs q
      have hsn := tflat_snoc tRec rs q x hx
      have hsz : (tRec x).length = (recT x.client x.no x.call x.code x.ans).length + 1 := by unfold tRec; rw [List.length_append]; rfl
      have hlq1 := tflat_take tRec rs (q + 1)
      rw [hsn, List.length_append, hsz] at hlq1
      have HREC : Hid (∀ W', Below wr.heap.size wr W' → Calls Tryz.prog 137 #[x.val] W' fun e w' => e = .returned (.string (B (recT x.client x.no x.call x.code x.ans))) ∧ Below W'.heap.size W' w') := hide fun W' hb => record_any x W' ((unhide HDQ).gw.below hb).lw hri
      have HSAY : Hid (∀ W', Below wr.heap.size wr W' → Calls Tryz.prog 48 #[.pointer (some ⟨D, 0, none⟩), .slice (some ⟨W'.heap.size, 0, none⟩) 1 1] (W'.alloc (.cells #[.string (B (recT x.client x.no x.call x.code x.ans))] 9)) fun e w' => e = .returned (.tuple #[]) ∧ DN N w3 own1 D W (bs ++ (rs.take (q + 1)).flatMap tRec) A w') := hide fun W' hb => by
        have := (unhide HDQ).say1 (B (recT x.client x.no x.call x.code x.ans)) hb (by rw [List.length_append, rec_size]; have := unhide HFL; have := unhide HBL; omega)
        rw [B_data, List.append_assoc] at this
        rw [hsn]
        exact this
      generalize B (recT x.client x.no x.call x.code x.ans) = RX at HREC HSAY
      obtain ⟨xc, xn, ⟨ck, ca, cb, ct⟩, d, ua⟩ := x
      dsimp only [ARec.val] at *
      clear hx hri hlq hsn hsz hlq1
      go_wp2_with fail
      --@A5@
      refine (unhide HRI2).mono ?_
      rintro e w4 ⟨rfl, b4⟩
      obtain ⟨V, hV⟩ : ∃ V, V = w4.alloc (.cells #[.int .i64 xc, .int .i64 xn, .int .i64 ck, .string ca, .string cb, .string ct, .int .i64 d, .string ua] 111) := ⟨_, rfl⟩
      have hBV : Below wr.heap.size wr V := by rw [hV]; exact b4.trans (((Below.refl _ _).alloc (Nat.le_refl _) _).mono b4.size)
      have HBV := hide hBV
      have HV := hide hV
      clear hBV hV b4
      go_wp2_with fail
      --@A6@
      rw [← unhide HV]
      refine ((unhide HREC) V (unhide HBV)).mono ?_
      rintro e w5 ⟨rfl, b5⟩
      have HB5 := hide ((unhide HBV).trans (b5.mono (unhide HBV).size))
      clear b5
      go_wp2_with fail
      --@A7@
      refine ((unhide HSAY) w5 (unhide HB5)).mono ?_
      rintro e w6 ⟨rfl, hd6⟩
      have HD6 := hide hd6
      clear hd6
      go_wp2
      go_roundw
      case rel => exact ⟨q + 1, by omega, by go_num, unhide HD6⟩
      case measure => simp [intOf]; omega
    · obtain rfl : q = yn := by omega
      have hd := unhide HDQ
      rw [List.take_of_length_le (by rw [unhide HM]; omega)] at hd
      have HEND := hide (hd.end (w1 := wr) (Below.refl _ _) (by rw [List.length_append]; have := unhide HFL; have := unhide HBL; omega))
      clear hd
      go_wp2_with fail
      refine (unhide HEND).mono ?_
      rintro e w4 ⟨rfl, hd4⟩
      rw [List.append_assoc] at hd4
      have HD4 := hide ((unhide HBACK) _ _ _ hd4)
      clear hd4
      go_wp2
      go_end0
      exact ⟨rfl, unhide HD4⟩
end Go.Proofs.YtffgolanmaenfacGreatDoor

namespace Go.Proofs.YtffgolanmaenfacGreatDoor
open Go.RowKit
set_option linter.unusedSimpArgs false
set_option linter.unusedVariables false

theorem DN.write {N : Nat} {w wr : World} {D W : Nat} {own : List Nat} {bs : List UInt8} {A : AW} (h : DN N w own D W bs A wr) (s : ByteArray) (hl : bs.length + s.size ≤ 1000000000) :
    Calls Tryz.prog 76 #[.pointer (some ⟨D, 0, none⟩), .string s] wr fun e w' => (∃ n, e = .returned (.tuple #[.int .i64 n, .nilIface])) ∧ DN N w own D W (bs ++ s.data.toList) A w' := by
  obtain ⟨p, v, o, hd, hn⟩ := h.d
  refine (EWriteString (dok W) s hd.e (by omega)).mono ?_
  rintro e w' ⟨rfl, hT⟩
  obtain ⟨p3, v3, o3, hd3, hn3⟩ := hd.wrote hT
  exact ⟨⟨_, rfl⟩, h.g, h.n, p3, v3, o3, hd3, hn.trans hn3⟩

set_option maxRecDepth 100000 in
set_option maxHeartbeats 8000000 in
theorem dthen_out {N : Nat} {w u : World} {D W : Nat} {own : List Nat} {bs : List UInt8} {A : AW} (h : DN N w own D W bs A u) (n : Int) (hn : n < 0 ∨ (A.log.length : Int) < n) (hl : bs.length ≤ 800000000) :
    Calls Tryz.prog 100 #[.pointer (some ⟨D, 0, none⟩), .int .i64 n] u fun e w' => e = .returned (.tuple #[]) ∧ DN N w own D W (bs ++ tNo 9) A w' := by
  have hc := h.cell
  have hss := h.inv.wi.ss
  have HGOOD := hide h.inv.wi.good
  have HH := hide h
  obtain ⟨p, v, o, hd, hnx⟩ := h.d
  have hcs := hd.w.cells.1.1
  have HLG := hide (Log_any hd.w.s (by omega))
  generalize o.S = SS at HLG hcs
  have HSS := hide hss
  have HN := hide hn
  have HBL := hide hl
  clear h hl hd hnx hss hn
  go_enter Tryz.func100, Tryz.ntmps100
  go_wp2_with fail
  refine (unhide HLG).mono ?_
  rintro e w1 ⟨a1, c1, rfl, hrow, b1⟩
  have HOF := hide (Of_z hrow rfl (by have := unhide HSS; omega) (unhide HGOOD))
  have HB1 := hide b1
  clear hrow b1 hc hcs
  go_wp2_with fail
  refine (unhide HOF).mono ?_
  rintro e w2 ⟨S, ya, yn, yc, rfl, hy, hS, hya, b2⟩
  have HTX := hide (Text_out hy n (by have := unhide HN; rw [← hy.len]; exact this))
  have HB2 := hide ((unhide HB1).trans (b2.mono (unhide HB1).size))
  clear b2 HLG HOF hy hS hya
  go_wp2_with fail
  refine (unhide HTX).mono ?_
  rintro e w3 ⟨rfl, b3⟩
  have HB3 := hide ((unhide HB2).trans (b3.mono (unhide HB2).size))
  clear b3
  have HR := hide (((unhide HH).after (unhide HB3)).refuse 9 (by decide) (by decide) (by have := unhide HBL; omega))
  go_wp2_with fail
  refine (unhide HR).mono ?_
  rintro e w4 ⟨rfl, hd4⟩
  have HD4 := hide hd4
  clear hd4
  go_wp2
  ((try simp only [Exit.inBlock, Exit.then]); refine bodyPost_ret (results_none rfl _ _ _) rfl ?_)
  exact ⟨rfl, unhide HD4⟩

set_option maxRecDepth 100000 in
set_option maxHeartbeats 8000000 in
theorem dthen_in {N : Nat} {w u : World} {D W : Nat} {own : List Nat} {bs : List UInt8} {A : AW} (h : DN N w own D W bs A u) (k : Nat) (hk : k ≤ A.log.length) (hl : bs.length ≤ 800000000) :
    Calls Tryz.prog 100 #[.pointer (some ⟨D, 0, none⟩), .int .i64 (k : Int)] u fun e w' => e = .returned (.tuple #[]) ∧ DN N w own D W (bs ++ (textL (behind (A.log.take k)) ++ tEnd)) A w' := by
  have hc := h.cell
  have hss := h.inv.wi.ss
  have htl := textL_len (behind_inv (A.log.take k))
  have HGOOD := hide h.inv.wi.good
  have HH := hide h
  obtain ⟨p, v, o, hd, hnx⟩ := h.d
  have hcs := hd.w.cells.1.1
  have HLG := hide (Log_any hd.w.s (by omega))
  generalize o.S = SS at HLG hcs
  have HSS := hide hss
  have HK := hide hk
  have HBL := hide hl
  obtain ⟨T, HT⟩ : ∃ T, Hid (textL (behind (A.log.take k)) = T) := ⟨_, rfl⟩
  have HTL : Hid (T.length ≤ 90000) := hide (by rw [← unhide HT]; omega)
  rw [unhide HT]
  clear h hl hd hnx hss hk htl
  go_enter Tryz.func100, Tryz.ntmps100
  go_wp2_with fail
  refine (unhide HLG).mono ?_
  rintro e w1 ⟨a1, c1, rfl, hrow, b1⟩
  have HOF := hide (Of_z hrow rfl (by have := unhide HSS; omega) (unhide HGOOD))
  have HB1 := hide b1
  clear hrow b1 hc hcs
  go_wp2_with fail
  refine (unhide HOF).mono ?_
  rintro e w2 ⟨S, ya, yn, yc, rfl, hy, hS, hya, b2⟩
  have HTX := hide (Text_in hy k (by have := unhide HK; rw [← hy.len]; exact this))
  rw [unhide HT] at HTX
  have HB2 := hide ((unhide HB1).trans (b2.mono (unhide HB1).size))
  clear b2 HLG HOF hy hS hya
  go_wp2_with fail
  refine (unhide HTX).mono ?_
  rintro e w3 ⟨rfl, b3⟩
  have HB3 := hide ((unhide HB2).trans (b3.mono (unhide HB2).size))
  clear b3 HTX
  have HZ : Hid ((B T).size = T.length) := hide (by rw [← bsize, B_data])
  have HW := hide (((unhide HH).after (unhide HB3)).write (B T) (by have := unhide HBL; have := unhide HTL; have := unhide HZ; omega))
  rw [B_data] at HW
  go_wp2_with fail
  refine (unhide HW).mono ?_
  rintro e w4 ⟨⟨n4, rfl⟩, hd4⟩
  have HE := hide (hd4.end (w1 := w4) (Below.refl _ _) (by rw [List.length_append]; have := unhide HBL; have := unhide HTL; omega))
  clear hd4
  go_wp2_with fail
  refine (unhide HE).mono ?_
  rintro e w5 ⟨rfl, hd5⟩
  rw [List.append_assoc] at hd5
  have HD5 := hide hd5
  clear hd5
  go_wp2
  go_end0
  exact ⟨rfl, unhide HD5⟩

/-- A word as a number: 0, false where it is none. -/
def numZ (l : List UInt8) : Int := if numB l = true then numI l else 0
set_option maxRecDepth 100000 in
set_option maxHeartbeats 4000000 in
theorem dnumber_any (s : ByteArray) (w : World) (hw : GW w) (hs : s.size ≤ 1000000) :
    Calls Tryz.prog 47 #[.string s] w fun e w' => e = .returned (.tuple #[.int .i64 (numZ s.data.toList), .bool (numB s.data.toList)]) ∧ Below w.heap.size w w' := by
  have hA := Atoi_any s w hw.nw (by omega)
  have hr := numI_range s.data.toList
  have HL := hide hw
  have hv : numZ s.data.toList = if numB s.data.toList = true then numI s.data.toList else 0 := rfl
  unfold AtoiErr at hA
  generalize numZ s.data.toList = v at hv ⊢
  generalize numI s.data.toList = n at hA hr hv ⊢
  generalize numB s.data.toList = b at hA hv ⊢
  have HR := hide hr
  have HVV := hide hv
  clear hw hs hr hv
  go_enter Tryz.func47, Tryz.ntmps47
  go_wp2_with fail
  refine hA.mono ?_
  rintro e w1 ⟨ev, rfl, he, b1⟩
  rcases he with ⟨rfl, hb⟩ | ⟨⟨t, N, rfl⟩, rfl⟩
  · have hIT := itoa_any n (unhide HR).1 (unhide HR).2 w1 ((unhide HL).below b1).lw.pw
    have HB1 := hide b1
    have HQ : Hid (((B (Lib.itoa n)).toList == s.toList) = b) := hide ((num_eq (Lib.itoa n) s).trans hb.symm)
    clear b1 hA hb
    cases b with
    | true =>
      obtain rfl : v = n := by have := unhide HVV; simpa using this
      go_wp2_with fail
      refine hIT.mono ?_
      rintro e w2 ⟨rfl, b2⟩
      have HB2 := hide ((unhide HB1).trans (b2.mono (unhide HB1).size))
      have hq := unhide HQ
      clear b2 hIT HVV
      go_wp2
      go_ret2
      exact ⟨rfl, unhide HB2⟩
    | false =>
      obtain rfl : v = 0 := by have := unhide HVV; simpa using this
      go_wp2_with fail
      refine hIT.mono ?_
      rintro e w2 ⟨rfl, b2⟩
      have HB2 := hide ((unhide HB1).trans (b2.mono (unhide HB1).size))
      have hq := unhide HQ
      clear b2 hIT HVV
      go_wp2
      go_ret2
      exact ⟨rfl, unhide HB2⟩
  · obtain rfl : v = 0 := by have := unhide HVV; simpa using this
    have HB1 := hide b1
    clear b1 hA HVV
    go_wp2
    go_ret2
    exact ⟨rfl, unhide HB1⟩
end Go.Proofs.YtffgolanmaenfacGreatDoor

namespace Go.Proofs.YtffgolanmaenfacGreatDoor
open Go.RowKit
set_option linter.unusedSimpArgs false
set_option linter.unusedVariables false

theorem drewN_below (w : World) (n : Nat) : Below w.heap.size w (w.drewN n) := ⟨rfl, rfl, rfl, Nat.le_refl _, fun _ _ => rfl⟩
theorem cut_any (s : ByteArray) (w : World) (hw : GW w) (hs : s.size ≤ 1000000) :
    Calls Tryz.prog 46 #[.string s, .string ⟨#[32]⟩] w fun e w' => e = .returned (.tuple #[.string (B (Lib.cut s.data.toList [32]).1), .string (B (Lib.cut s.data.toList [32]).2.1), .bool (Lib.cut s.data.toList [32]).2.2]) ∧ Below w.heap.size w w' := by
  obtain ⟨m, hm⟩ := hw.lw.ml
  refine (Tryz.strings_Cut s ⟨#[32]⟩ m w (by omega) hm).mono ?_
  rintro e w' ⟨rfl, n, rfl⟩
  exact ⟨rfl, drewN_below _ _⟩
theorem words_step (l : List UInt8) (k : Nat) (hk : k ≤ 3) (h : Lib.trimLeftB l 32 ≠ []) : wordsN (4 - k) l = (Lib.cut (Lib.trimLeftB l 32) [32]).1 :: wordsN (4 - (k + 1)) (Lib.cut (Lib.trimLeftB l 32) [32]).2.1 := by
  have e : 4 - k = (4 - (k + 1)) + 1 := by omega
  rw [e]
  show (if _ then _ else _) = _
  rw [if_neg h]
theorem words_none (l : List UInt8) (k : Nat) (h : Lib.trimLeftB l 32 = []) : wordsN k l = [] := by
  cases k with
  | zero => rfl
  | succ k => show (if _ then _ else _) = _; rw [if_pos h]
def strV (l : List (List UInt8)) : List Value := l.map (fun y => .string (B y))
theorem strV_snoc (l : List (List UInt8)) (x : List UInt8) : strV (l ++ [x]) = strV l ++ [.string (B x)] := by unfold strV; simp
/-- The words so far, and the rest. -/
structure Wso (l0 : List UInt8) (k : Nat) (x : ByteArray) (ds : List (List UInt8)) : Prop where
  eq : wordsN 4 l0 = ds ++ wordsN (4 - k) x.data.toList
  len : ds.length = k
  sz : x.size ≤ 1000000
set_option maxRecDepth 100000 in
set_option maxHeartbeats 8000000 in
theorem words_any (s : ByteArray) (w : World) (hw : GW w) (hs : s.size ≤ 1000000) :
    Calls Tryz.prog 28 #[.string s] w fun e w' => ∃ a n c, e = .returned (.slice a n c) ∧ (wordsN 4 s.data.toList).length = n ∧ w'.ownsRow w.heap.size 9 1 (.slice a n c) n (strV (wordsN 4 s.data.toList)) ∧ Below w.heap.size w w' := by
  obtain ⟨i0, hi0, hz0, hz1, hz2⟩ := info_parts info9
  have HW := hide hw
  have HWS : Hid (Wso s.data.toList 0 s []) := hide ⟨rfl, rfl, hs⟩
  generalize s.data.toList = l0 at HWS ⊢
  clear hw hs
  go_enter Tryz.func28, Tryz.ntmps28
  go_wp2_with fail
  --@A0@
  go_loopg [0, 3, 4, 5, 6] 4 (fun gg sv lv _ _ _ wr => ∃ (k : Nat) (x : ByteArray) (va : Option Addr) (vc : Nat) (ds : List (List UInt8)), k ≤ 4 ∧ 4 - k ≤ gg ∧ sv = .string x ∧ lv = .slice va k vc ∧ Hid (Wso l0 k x ds) ∧ Hid (Below w.heap.size w wr) ∧ Hid (wr.ownsRow w.heap.size 9 1 (.slice va k vc) k (strV ds)))
  case atStart => exact ⟨0, s, none, 0, [], by omega, by omega, rfl, rfl, HWS, Below.refl _ _, World.ownsRow_nil _ _ _ _⟩
  case round =>
    obtain ⟨k, x, va, vc, ds, hk, hg, rfl, rfl, HSO, HB, HO⟩ := hrel
    by_cases h3 : (k : Int) ≤ 3
    · have HT := hide (Tryz.strings_TrimLeft_one x 32 (by decide) wr)
      obtain ⟨t, ht⟩ : ∃ t, Lib.trimLeftB x.data.toList 32 = t := ⟨_, rfl⟩
      rw [ht] at HT
      have htl : t.length ≤ x.size := by rw [← ht, ← bsize]; exact trim_len _ _
      have HTE := hide ht
      clear ht
      by_cases h0 : t = []
      · subst h0
        have HFIN : Hid (wordsN 4 l0 = ds) := hide (by rw [(unhide HSO).eq, words_none _ _ (unhide HTE), List.append_nil])
        clear htl
        go_wp2_with fail
        --@A1@
        refine (unhide HT).mono ?_
        rintro e w1 ⟨rfl, rfl⟩
        go_wp2
        go_ret
        rw [unhide HFIN]
        exact ⟨va, k, vc, rfl, (unhide HSO).len, unhide HO, unhide HB⟩
      · obtain ⟨T, hT⟩ : ∃ T : ByteArray, T = B t := ⟨_, rfl⟩
        have hTd : T.data.toList = t := by rw [hT, B_data]
        have hTs : T.size ≤ 1000000 := by rw [← bsize, hTd]; have := (unhide HSO).sz; omega
        have hne : T.toList.isEmpty = false := by rw [Lib.toList_data, hTd]; simpa using h0
        have HC := hide (cut_any T wr ((unhide HW).below (unhide HB)) hTs)
        rw [hTd] at HC
        have HT2 : Hid ((⟨t.toArray⟩ : ByteArray) = T) := hide hT.symm
        have hcl := cut_len t [32]
        have hst := words_step x.data.toList k (by omega) (by rw [unhide HTE]; exact h0)
        rw [unhide HTE] at hst
        have hrz : (B (Lib.cut t [32]).2.1).size ≤ 1000000 := by rw [rec_size]; have := (unhide HSO).sz; omega
        have HSO2 : Hid (Wso l0 (k + 1) (B (Lib.cut t [32]).2.1) (ds ++ [(Lib.cut t [32]).1])) := hide ⟨by rw [(unhide HSO).eq, hst, B_data, List.append_assoc]; rfl, by rw [List.length_append, (unhide HSO).len]; rfl, hrz⟩
        have HSN := hide (strV_snoc ds (Lib.cut t [32]).1)
        generalize Lib.cut t [32] = C at *
        obtain ⟨c1, c2, c3⟩ := C
        dsimp only at *
        rw [unhide HT2] at HT
        have hwz := (unhide HB).size
        clear hst hcl hrz hT hTd hTs h0 htl
        go_wp2_with fail
        --@A2@
        refine (unhide HT).mono ?_
        rintro e w1 ⟨rfl, rfl⟩
        go_wp2_with fail
        --@A3@
        refine (unhide HC).mono ?_
        rintro e w2 ⟨rfl, b2⟩
        have HB2 := hide ((unhide HB).trans (b2.mono (unhide HB).size))
        have HO2 := hide (ownsRow_same (unhide HO) (fun j hj => b2.block j ((unhide HO).lt j hj).2))
        have hz2' : w.heap.size ≤ w2.heap.size := (unhide HB2).size
        clear b2 HC HT
        go_wp2_with (at_builtin; refine wpList_append_lies _ rfl _ _ 22 rfl w.heap.size 9 i0 _ 1 16 Tryz.underlying22 hi0 hz0 hz1 hz2 rfl (by omega) (.slice va k vc) k (strV ds) rfl ((unhide HO2).alloc _) ⟨w2.heap.size, 0, none⟩ 1 1 [.string (B c1)] rfl rfl (World.news_of_block (cs := #[.string (B c1)]) (t := 9) (fr := (0, 0)) (heap_alloc_new w2 _)) (by simp [Value.oneCell']) (by omega) (by unfold maxLen; omega) (by omega) (by simp; omega) (w2.heap.size + 1) (by simp) ?_; intro g2 cc2 w3 hown3 hgrow hat hlt3)
        --@A4@
        have HB3 := hide (((unhide HB2).alloc hz2' (.cells #[.string (B c1)] 9)).grown hgrow (by simp; omega) (fun j hj => ((unhide HO2).lt j hj).1))
        have HO3 := hide hown3
        clear hown3 hgrow hat hlt3
        go_roundg (4 - (k + 1))
        case measure => omega
        case rel => exact ⟨k + 1, _, _, _, ds ++ [c1], by omega, by omega, rfl, rfl, unhide HSO2, unhide HB3, by show World.ownsRow _ _ _ _ _ _ _; rw [unhide HSN]; exact unhide HO3⟩
    · obtain rfl : k = 4 := by omega
      have HFIN : Hid (wordsN 4 l0 = ds) := hide (by rw [(unhide HSO).eq]; exact List.append_nil _)
      go_wp2
      go_ret
      rw [unhide HFIN]
      exact ⟨va, 4, vc, rfl, (unhide HSO).len, unhide HO, unhide HB⟩
end Go.Proofs.YtffgolanmaenfacGreatDoor

namespace Go.Proofs.YtffgolanmaenfacGreatDoor
open Go.RowKit
set_option linter.unusedSimpArgs false
set_option linter.unusedVariables false

/-- A row of words. -/
def SRow (w : World) (a : Option Addr) (n : Nat) (ls : List (List UInt8)) : Prop := ls.length = n ∧ (0 < n → ∃ b off, a = some ⟨b, off, none⟩ ∧ ∀ (j : Nat) (x : List UInt8), ls[j]? = some x → w.cell? ⟨b, off + j, none⟩ = some (.string (B x)))
theorem SRow.below {w w' : World} {a : Option Addr} {n : Nat} {ls : List (List UInt8)} (h : SRow w a n ls) (hb : Below w.heap.size w w') : SRow w' a n ls := by
  refine ⟨h.1, fun h0 => ?_⟩
  obtain ⟨b, off, rfl, hc⟩ := h.2 h0
  exact ⟨b, off, rfl, fun j x hx => (hb.cell (ln_lt (hc j x hx))).trans (hc j x hx)⟩
def allN (ls : List (List UInt8)) : Bool := ls.all numB
def numA (ls : List (List UInt8)) (i : Nat) : Int := if allN ls = true then nth ls i else 0
theorem numZ_true {l : List UInt8} (h : numB l = true) : numZ l = numI l := by unfold numZ; rw [if_pos h]
theorem allN_false {ls : List (List UInt8)} {q : Nat} {x : List UInt8} (h : ls[q]? = some x) (hb : numB x = false) : allN ls = false := by
  unfold allN
  rw [← Bool.not_eq_true, List.all_eq_true]
  intro ha
  rw [ha x (List.mem_of_getElem? h)] at hb
  cases hb
theorem allN_true {ls : List (List UInt8)} {n : Nat} (hn : ls.length = n) (h : ∀ (j : Nat) (x : List UInt8), j < n → ls[j]? = some x → numB x = true) : allN ls = true := by
  unfold allN
  rw [List.all_eq_true]
  intro x hx
  obtain ⟨j, hj⟩ := List.mem_iff_getElem?.1 hx
  exact h j x (by have := (List.getElem?_eq_some_iff.1 hj).1; omega) hj
/-- So far: the first q numbers. -/
def upto (ls : List (List UInt8)) (q i : Nat) : Int := if i < q then nth ls i else 0
theorem upto_all {ls : List (List UInt8)} {n : Nat} (hn : ls.length = n) (h : allN ls = true) (i : Nat) : upto ls n i = numA ls i := by
  unfold upto numA
  rw [if_pos h]
  split
  · rfl
  · unfold nth
    rw [List.getElem?_eq_none (by omega)]
theorem twoC {w : World} {b : Nat} {x0 x1 : Value} {e : TypeId} (h : w.heap[b]? = some (.cells #[x0, x1] e (0, 0))) : (w.cell? ⟨b, 0, none⟩ = some x0 ∧ w.cell? ⟨b, 1, none⟩ = some x1) ∧ ∀ j, w.frozen? ⟨b, j, none⟩ = false := by
  refine ⟨⟨?_, ?_⟩, fun j => frozen_of_row w b j _ _ h⟩ <;> rw [cell_of_row w b _ _ _ _ h] <;> rfl
theorem set2_row {w : World} {b : Nat} {y0 y1 x0 x1 : Value} {e : TypeId} (h : w.heap[b]? = some (.cells #[y0, y1] e (0, 0))) : ((w.setCell ⟨b, 0, none⟩ x0).setCell ⟨b, 1, none⟩ x1).heap[b]? = some (.cells #[x0, x1] e (0, 0)) := by
  rw [eheap_same (eheap_same h)]
  rfl
/-- Two blocks of numbers. -/
def NBox (w : World) (R : Nat) (a b c d : Int) : Prop := w.heap[R]? = some (.cells #[.int .i64 a, .int .i64 b] 133 (0, 0)) ∧ w.heap[R + 1]? = some (.cells #[.int .i64 c, .int .i64 d] 133 (0, 0))
theorem NBox.below {w w' : World} {R : Nat} {a b c d : Int} (h : NBox w R a b c d) (hb : Below w.heap.size w w') : NBox w' R a b c d := ⟨(hb.block R (elt h.1)).trans h.1, (hb.block (R + 1) (elt h.2)).trans h.2⟩
set_option maxRecDepth 100000 in
set_option maxHeartbeats 8000000 in
theorem numbers_any (a : Option Addr) (n c : Nat) (ls : List (List UInt8)) (w : World) (hw : GW w) (hl : SRow w a n ls) (hn : n ≤ 2) (hsz : ∀ x, x ∈ ls → x.length ≤ 1000000) :
    Calls Tryz.prog 56 #[.slice a n c] w fun e w' => e = .returned (.tuple #[.agg #[.int .i64 (numA ls 0), .int .i64 (numA ls 1)], .bool (allN ls)]) ∧ Below w.heap.size w w' := by
  have HW := hide hw
  have HL := hide hl
  have HSZ := hide hsz
  obtain ⟨V, hV⟩ : ∃ V, V = (w.alloc (.cells #[.int .i64 0, .int .i64 0] 133)).alloc (.cells #[.int .i64 0, .int .i64 0] 133) := ⟨_, rfl⟩
  have hB0 : Below w.heap.size w V := by rw [hV]; exact ((Below.refl _ _).alloc (Nat.le_refl _) _).alloc (by simp) _
  have hN0 : NBox V w.heap.size 0 0 0 0 := by
    rw [hV]
    refine ⟨?_, ?_⟩
    · rw [Below.heap_alloc _ _ _ (by simp)]; exact heap_alloc_new _ _
    · rw [show w.heap.size + 1 = (w.alloc (.cells #[.int .i64 0, .int .i64 0] 133)).heap.size by simp]; exact heap_alloc_new _ _
  have HB0 := hide hB0
  have HN0 := hide hN0
  have HV := hide hV
  clear hw hl hsz hB0 hN0 hV
  go_enter Tryz.func56, Tryz.ntmps56
  go_wp2
  --@A0@
  rw [← unhide HV]
  go_loopw [5, 6, 7, 8, 11] (fun _ _ _ _ i wr => ∃ q : Nat, q ≤ n ∧ i = .int .i64 (q : Int) ∧ Hid (Below w.heap.size w wr) ∧ Hid (NBox wr w.heap.size 0 0 (upto ls q 0) (upto ls q 1)) ∧ Hid (∀ (j : Nat) (x : List UInt8), j < q → ls[j]? = some x → numB x = true)) (fun _ _ _ _ i _ => n - (intOf i).toNat)
  case atStart => exact ⟨0, Nat.zero_le _, rfl, unhide HB0, unhide HN0, fun j x hj => absurd hj (Nat.not_lt_zero _)⟩
  case round =>
    obtain ⟨q, hq, rfl, HB, HNB, HOK⟩ := hrel
    by_cases hlt : (q : Int) < (n : Int)
    · obtain ⟨x, hx⟩ : ∃ x, ls[q]? = some x := ⟨_, List.getElem?_eq_getElem (by rw [(unhide HL).1]; omega)⟩
      obtain ⟨b, off, rfl, hcl⟩ := ((unhide HL).below (unhide HB)).2 (by omega)
      have hcx := hcl q x hx
      have hbl : b < wr.heap.size := ln_lt hcx
      have HNU := hide (dnumber_any (B x) wr ((unhide HW).below (unhide HB)) (by rw [rec_size]; exact (unhide HSZ) x (List.mem_of_getElem? hx)))
      rw [B_data] at HNU
      have HX := hide hx
      clear hcl hx
      cases hb : numB x with
      | true =>
        rw [hb, numZ_true hb] at HNU
        have HXB := hide hb
        clear hb
        rcases (show q = 0 ∨ q = 1 by omega) with rfl | rfl
        · rw [Nat.add_zero] at hcx
          go_wp2_with fail
          --@A1@
          refine (unhide HNU).mono ?_
          rintro e w1 ⟨rfl, b1⟩
          have HB1 := hide ((unhide HB).trans (b1.mono (unhide HB).size))
          have hN1 := (unhide HNB).below b1
          obtain ⟨⟨y0, y1⟩, yf⟩ := twoC hN1.2
          have yf0 := yf 0
          have hN2 : NBox (w1.setCell ⟨w.heap.size + 1, 0, none⟩ (.int .i64 (numI x))) w.heap.size 0 0 (upto ls 1 0) (upto ls 1 1) := by
            have e0 : upto ls 1 0 = numI x := by show nth ls 0 = _; unfold nth; rw [unhide HX]
            have e1 : upto ls 1 1 = upto ls 0 1 := rfl
            rw [e0, e1]
            refine ⟨(Below.heap_setCell _ _ _ _ (by simp)).trans hN1.1, ?_⟩
            rw [eheap_same hN1.2]
            rfl
          have HN2 := hide hN2
          have hzz := (unhide HB1).size
          have HOK2 : Hid (∀ (j : Nat) (y : List UInt8), j < 1 → ls[j]? = some y → numB y = true) := hide fun j y hj hy => by
            obtain rfl : j = 0 := by omega
            rw [unhide HX] at hy
            injection hy with hy
            rw [← hy]
            exact unhide HXB
          clear b1 hN1 hN2 HNU hcx
          go_wp2
          --@A2@
          go_roundw
          case rel => exact ⟨1, by omega, by go_num, below_set (unhide HB1) (by omega), unhide HN2, unhide HOK2⟩
          case measure => simp [intOf]; omega
        · go_wp2_with fail
          refine (unhide HNU).mono ?_
          rintro e w1 ⟨rfl, b1⟩
          have HB1 := hide ((unhide HB).trans (b1.mono (unhide HB).size))
          have hN1 := (unhide HNB).below b1
          obtain ⟨⟨y0, y1⟩, yf⟩ := twoC hN1.2
          have yf0 := yf 1
          have hN2 : NBox (w1.setCell ⟨w.heap.size + 1, 1, none⟩ (.int .i64 (numI x))) w.heap.size 0 0 (upto ls 2 0) (upto ls 2 1) := by
            have e0 : upto ls 2 0 = upto ls 1 0 := rfl
            have e1 : upto ls 2 1 = numI x := by show nth ls 1 = _; unfold nth; rw [unhide HX]
            rw [e0, e1]
            refine ⟨(Below.heap_setCell _ _ _ _ (by simp)).trans hN1.1, ?_⟩
            rw [eheap_same hN1.2]
            rfl
          have HN2 := hide hN2
          have hzz := (unhide HB1).size
          have HOK2 : Hid (∀ (j : Nat) (y : List UInt8), j < 2 → ls[j]? = some y → numB y = true) := hide fun j y hj hy => by
            rcases (show j = 0 ∨ j = 1 by omega) with rfl | rfl
            · exact (unhide HOK) 0 y (by omega) hy
            · rw [unhide HX] at hy; injection hy with hy; rw [← hy]; exact unhide HXB
          clear b1 hN1 hN2 HNU hcx
          go_wp2
          go_roundw
          case rel => exact ⟨2, by omega, by go_num, below_set (unhide HB1) (by omega), unhide HN2, unhide HOK2⟩
          case measure => simp [intOf]; omega
      | false =>
        rw [hb] at HNU
        have HAF : Hid (allN ls = false) := hide (allN_false (unhide HX) hb)
        have HNA : Hid (∀ i, numA ls i = 0) := hide fun i => by unfold numA; rw [unhide HAF]; rfl
        clear hb
        go_wp2_with fail
        --@B1@
        refine (unhide HNU).mono ?_
        rintro e w1 ⟨rfl, b1⟩
        have HB1 := hide ((unhide HB).trans (b1.mono (unhide HB).size))
        have hN1 := (unhide HNB).below b1
        obtain ⟨⟨y0, y1⟩, yf⟩ := twoC hN1.1
        have yf0 := yf 0
        have yf1 := yf 1
        have hzz := (unhide HB1).size
        have HN1 := hide hN1.1
        clear b1 hN1 HNU hcx
        go_wp2
        --@B2@
        obtain ⟨⟨z0, z1⟩, _⟩ := twoC (set_same (j := 1) (x := .int .i64 0) (set_same (j := 0) (x := .int .i64 0) (unhide HN1) rfl) rfl)
        refine bodyPost_ret (v := .tuple #[.agg #[.int .i64 0, .int .i64 0], .bool false]) (by simp [results, Tryz.results56, go_sem, z0, z1]) rfl ?_
        rw [(unhide HNA) 0, (unhide HNA) 1, unhide HAF]
        exact ⟨rfl, below_set (below_set (unhide HB1) (by omega)) (by omega)⟩
    · obtain rfl : q = n := by omega
      have HAT := hide (allN_true (unhide HL).1 (unhide HOK))
      have hN1 := unhide HNB
      rw [upto_all (unhide HL).1 (unhide HAT), upto_all (unhide HL).1 (unhide HAT)] at hN1
      obtain ⟨⟨y0, y1⟩, yf⟩ := twoC hN1.1
      obtain ⟨⟨u0, u1⟩, _⟩ := twoC hN1.2
      have yf0 := yf 0
      have yf1 := yf 1
      have hzz := (unhide HB).size
      have HN1 := hide hN1.1
      obtain ⟨n0, hn0⟩ : ∃ n0, numA ls 0 = n0 := ⟨_, rfl⟩
      obtain ⟨n1, hn1⟩ : ∃ n1, numA ls 1 = n1 := ⟨_, rfl⟩
      rw [hn0] at u0
      rw [hn1] at u1
      have HE0 := hide hn0
      have HE1 := hide hn1
      clear hn0 hn1
      clear hN1
      go_wp2
      --@C1@
      have hh := set2_row (x0 := .int .i64 n0) (x1 := .int .i64 n1) (unhide HN1)
      obtain ⟨⟨z0, z1⟩, _⟩ := twoC hh
      refine bodyPost_ret (v := .tuple #[.agg #[.int .i64 n0, .int .i64 n1], .bool true]) (by simp [results, Tryz.results56, go_sem, z0, z1]) rfl ?_
      rw [unhide HAT, unhide HE0, unhide HE1]
      exact ⟨rfl, below_set (below_set (unhide HB) (by omega)) (by omega)⟩
end Go.Proofs.YtffgolanmaenfacGreatDoor

namespace Go.Proofs.YtffgolanmaenfacGreatDoor
open Go.RowKit
set_option linter.unusedSimpArgs false
set_option linter.unusedVariables false

theorem PktsAt.same {w W : World} {g n : Nat} {rs : List APkt} (h : PktsAt w (some ⟨g, 0, none⟩) n rs) (hs : W.heap[g]? = w.heap[g]?) : ∀ (j : Nat) (r : APkt), rs[j]? = some r → PktAt W g (j * 9) r := fun j r hr => by
  have hj := (List.getElem?_eq_some_iff.1 hr).1
  obtain ⟨b, e, hc⟩ := h.2 (by rw [← h.1]; omega)
  injection e with e
  injection e with e _ _
  subst e
  exact (hc j r hr).same hs
theorem tPkt_reply {q : APkt} (h : q.reply = true) : tPkt q = (⟨#[114, 101, 112, 108, 121]⟩ : ByteArray).data.toList ++ 32 :: recT q.client q.no q.call q.code q.ans ++ [10] := by
  unfold tPkt
  rw [if_pos h]
  rfl
theorem tPkt_call {q : APkt} (h : q.reply = false) : tPkt q = (⟨#[99, 97, 108, 108]⟩ : ByteArray).data.toList ++ 32 :: calledL q.client q.no q.call ++ [10] := by
  unfold tPkt
  rw [if_neg (by rw [h]; decide)]
  rfl

set_option maxRecDepth 100000 in
set_option maxHeartbeats 16000000 in
theorem dpackets_any {N : Nat} {w u : World} {D W : Nat} {own : List Nat} {bs : List UInt8} {A : AW} (h : DN N w own D W bs A u) (hl : bs.length ≤ 800000000) :
    Calls Tryz.prog 94 #[.pointer (some ⟨D, 0, none⟩)] u fun e w' => e = .returned (.tuple #[]) ∧ DN N w own D W (bs ++ (A.ms.flatMap tPkt ++ tEnd)) A w' := by
  have hc := h.cell
  have hfl : (A.ms.flatMap tPkt).length ≤ 90000 := by
    have h1 := flat_few tPkt 220 A.ms (fun p hp => h.inv.pkt hp)
    have h2 := h.inv.wi.few
    omega
  have HRI : Hid (∀ r, r ∈ A.ms → RInt ⟨r.client, r.no, r.call, r.code, r.ans⟩) := hide fun r hr => h.inv.rint_pkt hr
  obtain ⟨own1, hown, hre⟩ := h.rebase
  have HRE := hide hre
  have HOWN := hide hown
  obtain ⟨m, hm⟩ : ∃ m, A.ms.length = m := ⟨_, rfl⟩
  have hm2 : m ≤ 40 := by rw [← hm]; exact h.inv.wi.few
  obtain ⟨p, v, o, hd, hnx⟩ := h.d
  have HDO := hide (Packets_any hd.w hm)
  generalize A.ms = rs at *
  have HM := hide hm
  have HFL := hide hfl
  have HBL := hide hl
  clear h hl hfl hm hre hown hd hnx
  go_enter Tryz.func94, Tryz.ntmps94
  go_wp2_with fail
  --@A1@
  refine (unhide HDO).mono ?_
  rintro e w2 ⟨g, cap, rfl, hrow, b2⟩
  obtain ⟨hd2, hback⟩ := (unhide HRE) w2 b2
  have HROW := hide (pkts_row hrow (unhide HM))
  have hgl := hrow.lt g rfl
  have HGN : Hid (g ∉ own1) := hide fun hm => by have := (unhide HOWN) g hm; omega
  have HGL := hide hgl.2
  have HD2 := hide hd2
  have HBACK := hide hback
  clear hrow b2 hd2 hback hgl HRE HDO hc
  go_wp2
  --@A3@
  go_loopw [3, 4, 11] (fun _ _ i wr => ∃ q : Nat, q ≤ m ∧ i = .int .i64 (q : Int) ∧ Hid (DN N w2 own1 D W (bs ++ (rs.take q).flatMap tPkt) A wr)) (fun _ _ i _ => m - (intOf i).toNat)
  case atStart => exact ⟨0, Nat.zero_le _, rfl, by show DN _ _ _ _ _ _ _ _; simpa using unhide HD2⟩
  case round =>
    obtain ⟨q, hq, rfl, HDQ⟩ := hrel
    by_cases hlt : (q : Int) < (m : Int)
    · obtain ⟨x, hx⟩ : ∃ x, rs[q]? = some x := ⟨_, List.getElem?_eq_getElem (by rw [unhide HM]; omega)⟩
      have hblk := (unhide HDQ).blk (unhide HGL) (unhide HGN)
      have hcx := PktsAt.same (unhide HROW) hblk q x hx
      obtain ⟨x0, x1, x2, x3, x4, x5, x6, x7, x8⟩ := hcx
      have hri := (unhide HRI) x (List.mem_of_getElem? hx)
      have hlq := tflat_take tPkt rs q
      have hsn := tflat_snoc tPkt rs q x hx
      have hlq1 := tflat_take tPkt rs (q + 1)
      rw [hsn, List.length_append] at hlq1
      have HREC : Hid (∀ W', Below wr.heap.size wr W' → Calls Tryz.prog 137 #[(⟨x.client, x.no, x.call, x.code, x.ans⟩ : ARec).val] W' fun e w' => e = .returned (.string (B (recT x.client x.no x.call x.code x.ans))) ∧ Below W'.heap.size W' w') := hide fun W' hb => record_any _ W' ((unhide HDQ).gw.below hb).lw hri
      have HCAL : Hid (∀ W', Below wr.heap.size wr W' → Calls Tryz.prog 138 #[(⟨x.client, x.no, x.call, x.code, x.ans⟩ : ARec).val] W' fun e w' => e = .returned (.string (B (calledL x.client x.no x.call))) ∧ Below W'.heap.size W' w') := hide fun W' hb => called_any _ W' ((unhide HDQ).gw.below hb).lw hri
      have HS1 : Hid (x.reply = true → ∀ W', Below wr.heap.size wr W' → Calls Tryz.prog 48 #[.pointer (some ⟨D, 0, none⟩), .slice (some ⟨W'.heap.size, 0, none⟩) 2 2] (W'.alloc (.cells #[.string ⟨#[114, 101, 112, 108, 121]⟩, .string (B (recT x.client x.no x.call x.code x.ans))] 9)) fun e w' => e = .returned (.tuple #[]) ∧ DN N w2 own1 D W (bs ++ (rs.take (q + 1)).flatMap tPkt) A w') := hide fun hrp W' hb => by
        rw [tPkt_reply hrp] at hlq1 hsn
        simp only [List.length_append, List.length_cons] at hlq1
        have := (unhide HDQ).say2 ⟨#[114, 101, 112, 108, 121]⟩ (B (recT x.client x.no x.call x.code x.ans)) hb (by rw [List.length_append, rec_size]; have := unhide HFL; have := unhide HBL; show _ + 5 + _ + 2 ≤ _; omega)
        rw [B_data, List.append_assoc] at this
        rw [hsn]
        exact this
      have HS2 : Hid (x.reply = false → ∀ W', Below wr.heap.size wr W' → Calls Tryz.prog 48 #[.pointer (some ⟨D, 0, none⟩), .slice (some ⟨W'.heap.size, 0, none⟩) 2 2] (W'.alloc (.cells #[.string ⟨#[99, 97, 108, 108]⟩, .string (B (calledL x.client x.no x.call))] 9)) fun e w' => e = .returned (.tuple #[]) ∧ DN N w2 own1 D W (bs ++ (rs.take (q + 1)).flatMap tPkt) A w') := hide fun hrp W' hb => by
        rw [tPkt_call hrp] at hlq1 hsn
        simp only [List.length_append, List.length_cons] at hlq1
        have := (unhide HDQ).say2 ⟨#[99, 97, 108, 108]⟩ (B (calledL x.client x.no x.call)) hb (by rw [List.length_append, rec_size]; have := unhide HFL; have := unhide HBL; show _ + 4 + _ + 2 ≤ _; omega)
        rw [B_data, List.append_assoc] at this
        rw [hsn]
        exact this
      generalize B (recT x.client x.no x.call x.code x.ans) = RX at HREC HS1
      generalize B (calledL x.client x.no x.call) = CX at HCAL HS2
      have hgz : g < wr.heap.size := ln_lt x0
      obtain ⟨rp, xc, xn, ⟨ck, ca, cb, ct⟩, d, ua⟩ := x
      dsimp only [ARec.val] at *
      obtain ⟨V1, hV1⟩ : ∃ V, V = wr.alloc (.cells #[.bool rp, .int .i64 xc, .int .i64 xn, .int .i64 ck, .string ca, .string cb, .string ct, .int .i64 d, .string ua] 102) := ⟨_, rfl⟩
      have hB1 : Below wr.heap.size wr V1 := by rw [hV1]; exact (Below.refl _ _).alloc (Nat.le_refl _) _
      obtain ⟨V, hV⟩ : ∃ V, V = V1.alloc (.cells #[.int .i64 xc, .int .i64 xn, .int .i64 ck, .string ca, .string cb, .string ct, .int .i64 d, .string ua] 111) := ⟨_, rfl⟩
      have hBV : Below wr.heap.size wr V := by rw [hV]; exact hB1.trans (((Below.refl _ _).alloc (Nat.le_refl _) _).mono hB1.size)
      have HBV := hide hBV
      have HV := hide hV
      have HV1 := hide hV1
      clear hx hri hlq hsn hlq1 hblk hBV hV hV1 hB1
      cases rp with
      | true =>
        go_wp2_with fail
        --@A4@
        rw [← unhide HV1, ← unhide HV]
        refine ((unhide HREC) V (unhide HBV)).mono ?_
        rintro e w3 ⟨rfl, b3⟩
        have HB3 := hide ((unhide HBV).trans (b3.mono (unhide HBV).size))
        clear b3 x0 x1 x2 x3 x4 x5 x6 x7 x8
        go_wp2_with fail
        --@A5@
        refine ((unhide HS1) (by first | rfl | trivial) w3 (unhide HB3)).mono ?_
        rintro e w4 ⟨rfl, hd4⟩
        have HD4 := hide hd4
        clear hd4
        go_wp2
        go_roundw
        case rel => exact ⟨q + 1, by omega, by go_num, unhide HD4⟩
        case measure => simp [intOf]; omega
      | false =>
        go_wp2_with fail
        --@B4@
        rw [← unhide HV1, ← unhide HV]
        refine ((unhide HCAL) V (unhide HBV)).mono ?_
        rintro e w3 ⟨rfl, b3⟩
        have HB3 := hide ((unhide HBV).trans (b3.mono (unhide HBV).size))
        clear b3 x0 x1 x2 x3 x4 x5 x6 x7 x8
        go_wp2_with fail
        --@B5@
        refine ((unhide HS2) (by first | rfl | trivial) w3 (unhide HB3)).mono ?_
        rintro e w4 ⟨rfl, hd4⟩
        have HD4 := hide hd4
        clear hd4
        go_wp2
        go_roundw
        case rel => exact ⟨q + 1, by omega, by go_num, unhide HD4⟩
        case measure => simp [intOf]; omega
    · obtain rfl : q = m := by omega
      have hd := unhide HDQ
      rw [List.take_of_length_le (by rw [unhide HM]; omega)] at hd
      have HEND := hide (hd.end (w1 := wr) (Below.refl _ _) (by rw [List.length_append]; have := unhide HFL; have := unhide HBL; omega))
      clear hd
      go_wp2_with fail
      refine (unhide HEND).mono ?_
      rintro e w4 ⟨rfl, hd4⟩
      rw [List.append_assoc] at hd4
      have HD4 := hide ((unhide HBACK) _ _ _ hd4)
      clear hd4
      go_wp2
      go_end0
      exact ⟨rfl, unhide HD4⟩
end Go.Proofs.YtffgolanmaenfacGreatDoor

namespace Go.Proofs.YtffgolanmaenfacGreatDoor
open Go.RowKit
set_option linter.unusedSimpArgs false
set_option linter.unusedVariables false

section
variable {N : Nat} {u : World} {own : List Nat} {D W : Nat} {bs : List UInt8} {A : AW}
set_option maxRecDepth 100000 in
set_option maxHeartbeats 4000000 in
theorem clo_step (h : DN N u own D W bs A u) (b k : Nat) (kind : Int) (cb : u.cell? ⟨b, 0, none⟩ = some (.pointer (some ⟨D, 0, none⟩))) (ck : u.cell? ⟨k, 0, none⟩ = some (.int .i64 kind)) (x y : Int) (hl : bs.length ≤ 800000000) :
    Calls Tryz.prog 90 #[.agg #[.int .i64 x, .int .i64 y], .pointer (some ⟨b, 0, none⟩), .pointer (some ⟨k, 0, none⟩)] u fun e w' => e = .returned (.tuple #[]) ∧ DN N u own D W (bs ++ told A (cStep kind x y)) (went A (cStep kind x y)) w' := by
  obtain ⟨V, hV⟩ : ∃ V, V = u.alloc (.cells #[.int .i64 x, .int .i64 y] 133) := ⟨_, rfl⟩
  have hB0 : Below u.heap.size u V := by rw [hV]; exact (Below.refl _ _).alloc (Nat.le_refl _) _
  have HS := hide (dstep_any (h.after hB0) ⟨kind, x, y, ⟨0, ⟨#[]⟩, ⟨#[]⟩, ⟨#[]⟩⟩⟩ small0 (by omega))
  have hbl : b < u.heap.size := ln_lt cb
  have hkl : k < u.heap.size := ln_lt ck
  have hn1 : ¬ u.heap.size = b := by omega
  have hn2 : ¬ u.heap.size = k := by omega
  have hn3 : ¬ b = u.heap.size := fun e => hn1 e.symm
  have hn4 : ¬ k = u.heap.size := fun e => hn2 e.symm
  dsimp only [AX.val] at HS
  have e1 : tStep (A.step ⟨kind, x, y, ⟨0, ⟨#[]⟩, ⟨#[]⟩, ⟨#[]⟩⟩⟩).1 = told A (cStep kind x y) := rfl
  have e2 : (A.step ⟨kind, x, y, ⟨0, ⟨#[]⟩, ⟨#[]⟩, ⟨#[]⟩⟩⟩).2 = went A (cStep kind x y) := rfl
  rw [e1, e2] at HS
  generalize told A (cStep kind x y) = T1 at *
  generalize went A (cStep kind x y) = T2 at *
  have HV := hide hV
  clear e1 e2 h hl hB0 hV
  go_enter Tryz.func90, Tryz.ntmps90
  go_wp2_with fail
  rw [← unhide HV]
  refine (unhide HS).mono ?_
  rintro e w1 ⟨rfl, hd1⟩
  have HD1 := hide hd1
  clear hd1 HS
  go_wp2
  go_end0
  exact ⟨rfl, unhide HD1⟩

set_option maxRecDepth 100000 in
set_option maxHeartbeats 4000000 in
theorem clo_calm (h : DN N u own D W bs A u) (b : Nat) (cb : u.cell? ⟨b, 0, none⟩ = some (.pointer (some ⟨D, 0, none⟩))) (hbn : b ∉ own) (x y : Int) (hl : bs.length ≤ 800000000) :
    Calls Tryz.prog 91 #[.agg #[.int .i64 x, .int .i64 y], .pointer (some ⟨b, 0, none⟩)] u fun e w' => e = .returned (.tuple #[]) ∧ DN N u own D W (bs ++ told A (cTag 4 0)) (went A (cTag 4 0)) w' := by
  obtain ⟨V, hV⟩ : ∃ V, V = u.alloc (.cells #[.int .i64 x, .int .i64 y] 133) := ⟨_, rfl⟩
  have hB0 : Below u.heap.size u V := by rw [hV]; exact (Below.refl _ _).alloc (Nat.le_refl _) _
  have hbl : b < u.heap.size := ln_lt cb
  have HCD : Hid (∀ bs' A' W', DN N u own D W bs' A' W' → W'.cell? ⟨b, 0, none⟩ = some (.pointer (some ⟨D, 0, none⟩)) ∧ W'.cell? ⟨D, 2, none⟩ = some (.pointer (some ⟨W, 0, none⟩))) := hide fun bs' A' W' hd => ⟨by rw [World.cell?_of_block (w := u) (a := ⟨b, 0, none⟩) (hd.blk hbl hbn)]; exact cb, hd.cell⟩
  have HVD := hide (h.after hB0)
  obtain ⟨cb2, cd2⟩ := (unhide HCD) _ _ _ (h.after hB0)
  have hcr := calm_code 3 A
  have HCM : Hid (Calls Tryz.prog 92 #[.pointer (some ⟨W, 0, none⟩)] V.drew fun e w' => e = .returned (.int .i64 (AW.calm 3 A).1) ∧ DN N u own D W bs (AW.calm 3 A).2 w') := hide (by
    have hi := h.inv
    obtain ⟨p, v, o, hd, hn⟩ := h.d
    have hd2 := hd.below hB0.drew
    refine (Calm_any hd2.w).mono ?_
    rintro e w' ⟨rfl, hT⟩
    obtain ⟨p3, v3, o3, hd3, hn3⟩ := hd2.stepped hT ⟨hi.wi.calm 3, hi.ti.calm hi.wi 3⟩
    exact ⟨rfl, h.g, h.n, p3, v3, o3, hd3, (hn.trans (Next.of_below _ hB0.drew hd.size)).trans hn3⟩)
  have hil := itoa_few (n := (AW.calm 3 A).1) (by omega) (by omega)
  have HIT : Hid (∀ W', DN N u own D W bs (AW.calm 3 A).2 W' → Calls Tryz.prog 59 #[.int .i64 (AW.calm 3 A).1] W' fun e w' => e = .returned (.string (B (Lib.itoa (AW.calm 3 A).1))) ∧ DN N u own D W bs (AW.calm 3 A).2 w') := hide fun W' hd => by
    refine (itoa_any (AW.calm 3 A).1 (by omega) (by omega) W' hd.gw.lw.pw).mono ?_
    rintro e w' ⟨rfl, b1⟩
    exact ⟨rfl, hd.after b1⟩
  have HSAY : Hid (∀ W', DN N u own D W bs (AW.calm 3 A).2 W' → Calls Tryz.prog 48 #[.pointer (some ⟨D, 0, none⟩), .slice (some ⟨W'.heap.size, 0, none⟩) 2 2] (W'.alloc (.cells #[.string ⟨#[99, 97, 108, 109]⟩, .string (B (Lib.itoa (AW.calm 3 A).1))] 9)) fun e w' => e = .returned (.tuple #[]) ∧ DN N u own D W (bs ++ told A (cTag 4 0)) (went A (cTag 4 0)) w') := hide fun W' hd => by
    have := hd.say2 (w1 := W') ⟨#[99, 97, 108, 109]⟩ (B (Lib.itoa (AW.calm 3 A).1)) (Below.refl _ _) (by rw [rec_size]; show _ + 4 + _ + 2 ≤ _; omega)
    rw [B_data] at this
    exact this
  generalize told A (cTag 4 0) = T1 at *
  generalize went A (cTag 4 0) = T2 at *
  generalize B (Lib.itoa (AW.calm 3 A).1) = S1 at *
  generalize AW.calm 3 A = R at *
  obtain ⟨r1, r2⟩ := R
  dsimp only at *
  have HV := hide hV
  have hn1 : ¬ u.heap.size = b := by omega
  have hn3 : ¬ b = u.heap.size := fun e => hn1 e.symm
  clear h hl hB0 hV hbl hcr hil
  go_enter Tryz.func91, Tryz.ntmps91
  go_wp2_with fail
  --@A1@
  rw [← unhide HV]
  go_region_held3 (fun W' => W'.cell? ⟨b, 0, none⟩ = some (.pointer (some ⟨D, 0, none⟩)) ∧ W'.cell? ⟨D, 2, none⟩ = some (.pointer (some ⟨W, 0, none⟩))) ((go_keep; done)) (first | (go_at_call 92; refine (unhide HCM).mono ?_; rintro e w1 ⟨rfl, hd1⟩; have HD1 := hide hd1; obtain ⟨y0, y1⟩ := (unhide HCD) _ _ _ hd1; clear hd1) | (go_at_call 59; refine ((unhide HIT) _ (unhide HD1)).mono ?_; rintro e w2 ⟨rfl, hd2⟩; have HD2 := hide hd2; obtain ⟨z0, z1⟩ := (unhide HCD) _ _ _ hd2; clear hd2) | (go_at_call 48; refine ((unhide HSAY) _ (unhide HD2)).mono ?_; rintro e w3 ⟨rfl, hd3⟩; have HD3 := hide hd3; obtain ⟨v0, v1⟩ := (unhide HCD) _ _ _ hd3; clear hd3))
  --@A2@
  all_goals
    go_wp2
    go_end0
    exact ⟨rfl, unhide HD3⟩

set_option maxRecDepth 100000 in
set_option maxHeartbeats 4000000 in
theorem clo_packets (h : DN N u own D W bs A u) (b : Nat) (cb : u.cell? ⟨b, 0, none⟩ = some (.pointer (some ⟨D, 0, none⟩))) (x y : Int) (hl : bs.length ≤ 800000000) :
    Calls Tryz.prog 93 #[.agg #[.int .i64 x, .int .i64 y], .pointer (some ⟨b, 0, none⟩)] u fun e w' => e = .returned (.tuple #[]) ∧ DN N u own D W (bs ++ told A (cTag 5 0)) (went A (cTag 5 0)) w' := by
  obtain ⟨V, hV⟩ : ∃ V, V = u.alloc (.cells #[.int .i64 x, .int .i64 y] 133) := ⟨_, rfl⟩
  have hB0 : Below u.heap.size u V := by rw [hV]; exact (Below.refl _ _).alloc (Nat.le_refl _) _
  have HS : Hid (Calls Tryz.prog 94 #[.pointer (some ⟨D, 0, none⟩)] V fun e w' => e = .returned (.tuple #[]) ∧ DN N u own D W (bs ++ told A (cTag 5 0)) (went A (cTag 5 0)) w') := hide (dpackets_any (h.after hB0) hl)
  generalize told A (cTag 5 0) = T1 at *
  generalize went A (cTag 5 0) = T2 at *
  have hbl : b < u.heap.size := ln_lt cb
  have hn1 : ¬ u.heap.size = b := by omega
  have hn3 : ¬ b = u.heap.size := fun e => hn1 e.symm
  have HV := hide hV
  clear h hl hB0 hV
  go_enter Tryz.func93, Tryz.ntmps93
  go_wp2_with fail
  rw [← unhide HV]
  refine (unhide HS).mono ?_
  rintro e w1 ⟨rfl, hd1⟩
  have HD1 := hide hd1
  clear hd1 HS
  go_wp2
  go_end0
  exact ⟨rfl, unhide HD1⟩

set_option maxRecDepth 100000 in
set_option maxHeartbeats 4000000 in
theorem clo_log (h : DN N u own D W bs A u) (b : Nat) (cb : u.cell? ⟨b, 0, none⟩ = some (.pointer (some ⟨D, 0, none⟩))) (x y : Int) (hl : bs.length ≤ 800000000) :
    Calls Tryz.prog 97 #[.agg #[.int .i64 x, .int .i64 y], .pointer (some ⟨b, 0, none⟩)] u fun e w' => e = .returned (.tuple #[]) ∧ DN N u own D W (bs ++ told A (cTag 6 0)) (went A (cTag 6 0)) w' := by
  obtain ⟨V, hV⟩ : ∃ V, V = u.alloc (.cells #[.int .i64 x, .int .i64 y] 133) := ⟨_, rfl⟩
  have hB0 : Below u.heap.size u V := by rw [hV]; exact (Below.refl _ _).alloc (Nat.le_refl _) _
  have HS : Hid (Calls Tryz.prog 98 #[.pointer (some ⟨D, 0, none⟩)] V fun e w' => e = .returned (.tuple #[]) ∧ DN N u own D W (bs ++ told A (cTag 6 0)) (went A (cTag 6 0)) w') := hide (dlog_any (h.after hB0) hl)
  generalize told A (cTag 6 0) = T1 at *
  generalize went A (cTag 6 0) = T2 at *
  have hbl : b < u.heap.size := ln_lt cb
  have hn1 : ¬ u.heap.size = b := by omega
  have hn3 : ¬ b = u.heap.size := fun e => hn1 e.symm
  have HV := hide hV
  clear h hl hB0 hV
  go_enter Tryz.func97, Tryz.ntmps97
  go_wp2_with fail
  rw [← unhide HV]
  refine (unhide HS).mono ?_
  rintro e w1 ⟨rfl, hd1⟩
  have HD1 := hide hd1
  clear hd1 HS
  go_wp2
  go_end0
  exact ⟨rfl, unhide HD1⟩

/-- done and then, whatever their number. -/
theorem ddone_any {w : World} (h : DN N w own D W bs A u) (n : Int) (hl : bs.length ≤ 800000000) :
    Calls Tryz.prog 96 #[.pointer (some ⟨D, 0, none⟩), .int .i64 n] u fun e w' => e = .returned (.tuple #[]) ∧ DN N w own D W (bs ++ told A (cTag 7 n)) (went A (cTag 7 n)) w' := by
  by_cases hn : n < 0 ∨ 2 < n
  · have e1 : told A (cTag 7 n) = tNo 9 := by show (if _ then _ else _) = _; exact if_pos hn
    rw [e1]
    exact ddone_out h n hn (by omega)
  · have e1 : told A (cTag 7 n) = (A.cl n.toNat).done.flatMap tRec ++ tEnd := by show (if _ then _ else _) = _; exact if_neg hn
    rw [e1]
    have := ddone_in h n.toNat (by omega) hl
    rwa [show ((n.toNat : Nat) : Int) = n by omega] at this
theorem dthen_any {w : World} (h : DN N w own D W bs A u) (n : Int) (hl : bs.length ≤ 800000000) :
    Calls Tryz.prog 100 #[.pointer (some ⟨D, 0, none⟩), .int .i64 n] u fun e w' => e = .returned (.tuple #[]) ∧ DN N w own D W (bs ++ told A (cTag 8 n)) (went A (cTag 8 n)) w' := by
  by_cases hn : n < 0 ∨ (A.log.length : Int) < n
  · have e1 : told A (cTag 8 n) = tNo 9 := by show (if _ then _ else _) = _; exact if_pos hn
    rw [e1]
    exact dthen_out h n hn hl
  · have e1 : told A (cTag 8 n) = textL (behind (A.log.take n.toNat)) ++ tEnd := by show (if _ then _ else _) = _; exact if_neg hn
    rw [e1]
    have := dthen_in h n.toNat (by omega) hl
    rwa [show ((n.toNat : Nat) : Int) = n by omega] at this

set_option maxRecDepth 100000 in
set_option maxHeartbeats 4000000 in
theorem clo_done (h : DN N u own D W bs A u) (b : Nat) (cb : u.cell? ⟨b, 0, none⟩ = some (.pointer (some ⟨D, 0, none⟩))) (x y : Int) (hl : bs.length ≤ 800000000) :
    Calls Tryz.prog 95 #[.agg #[.int .i64 x, .int .i64 y], .pointer (some ⟨b, 0, none⟩)] u fun e w' => e = .returned (.tuple #[]) ∧ DN N u own D W (bs ++ told A (cTag 7 x)) (went A (cTag 7 x)) w' := by
  obtain ⟨V, hV⟩ : ∃ V, V = u.alloc (.cells #[.int .i64 x, .int .i64 y] 133) := ⟨_, rfl⟩
  have hB0 : Below u.heap.size u V := by rw [hV]; exact (Below.refl _ _).alloc (Nat.le_refl _) _
  have HS := hide (ddone_any (h.after hB0) x hl)
  generalize told A (cTag 7 x) = T1 at *
  generalize went A (cTag 7 x) = T2 at *
  have hbl : b < u.heap.size := ln_lt cb
  have hn1 : ¬ u.heap.size = b := by omega
  have hn3 : ¬ b = u.heap.size := fun e => hn1 e.symm
  have HV := hide hV
  clear h hl hB0 hV
  go_enter Tryz.func95, Tryz.ntmps95
  go_wp2_with fail
  rw [← unhide HV]
  refine (unhide HS).mono ?_
  rintro e w1 ⟨rfl, hd1⟩
  have HD1 := hide hd1
  clear hd1 HS
  go_wp2
  go_end0
  exact ⟨rfl, unhide HD1⟩

set_option maxRecDepth 100000 in
set_option maxHeartbeats 4000000 in
theorem clo_then (h : DN N u own D W bs A u) (b : Nat) (cb : u.cell? ⟨b, 0, none⟩ = some (.pointer (some ⟨D, 0, none⟩))) (x y : Int) (hl : bs.length ≤ 800000000) :
    Calls Tryz.prog 99 #[.agg #[.int .i64 x, .int .i64 y], .pointer (some ⟨b, 0, none⟩)] u fun e w' => e = .returned (.tuple #[]) ∧ DN N u own D W (bs ++ told A (cTag 8 x)) (went A (cTag 8 x)) w' := by
  obtain ⟨V, hV⟩ : ∃ V, V = u.alloc (.cells #[.int .i64 x, .int .i64 y] 133) := ⟨_, rfl⟩
  have hB0 : Below u.heap.size u V := by rw [hV]; exact (Below.refl _ _).alloc (Nat.le_refl _) _
  have HS := hide (dthen_any (h.after hB0) x hl)
  generalize told A (cTag 8 x) = T1 at *
  generalize went A (cTag 8 x) = T2 at *
  have hbl : b < u.heap.size := ln_lt cb
  have hn1 : ¬ u.heap.size = b := by omega
  have hn3 : ¬ b = u.heap.size := fun e => hn1 e.symm
  have HV := hide hV
  clear h hl hB0 hV
  go_enter Tryz.func99, Tryz.ntmps99
  go_wp2_with fail
  rw [← unhide HV]
  refine (unhide HS).mono ?_
  rintro e w1 ⟨rfl, hd1⟩
  have HD1 := hide hd1
  clear hd1 HS
  go_wp2
  go_end0
  exact ⟨rfl, unhide HD1⟩
end
end Go.Proofs.YtffgolanmaenfacGreatDoor

namespace Go.Proofs.YtffgolanmaenfacGreatDoor
open Go.RowKit
set_option linter.unusedSimpArgs false
set_option linter.unusedVariables false

set_option maxRecDepth 100000 in
set_option maxHeartbeats 4000000 in
theorem mkstep_any (k : Int) (b : Nat) (w : World) :
    Calls Tryz.prog 89 #[.int .i64 k, .pointer (some ⟨b, 0, none⟩)] w fun e w' => e = .returned (.func (.func 90) #[] #[.pointer (some ⟨b, 0, none⟩), .pointer (some ⟨w.heap.size, 0, none⟩)]) ∧ w' = w.alloc (.cells #[.int .i64 k] 3) := by
  go_enter Tryz.func89, Tryz.ntmps89
  go_wp2
  go_ret
  exact ⟨rfl, rfl⟩

/-- What an order does, once it has its numbers. -/
def OFn (N D W B0 : Nat) (w : World) (j : Nat) (v : Value) : Prop := ∃ fn lb, v = .func (.func fn) #[] lb ∧ (∀ args w, (callFunc fn args).run Tryz.prog w = .ok (.enter fn args) w) ∧
  ∀ (u : World) (own : List Nat) (bs : List UInt8) (A : AW) (x y : Int), Below w.heap.size w u → (∀ k, k ∈ own → k < B0) → DN N u own D W bs A u → bs.length ≤ 800000000 →
    Calls Tryz.prog fn (#[.agg #[.int .i64 x, .int .i64 y]] ++ lb) u fun e w' => e = .returned (.tuple #[]) ∧ DN N u own D W (bs ++ told A (ocmd j x y)) (went A (ocmd j x y)) w'
/-- The orders lie at block g. -/
structure ORow (N D W B0 : Nat) (w : World) (g : Nat) : Prop where
  lt : g < w.heap.size
  row : ∀ (j : Nat) (p : List UInt8 × Nat), otab[j]? = some p → w.cell? ⟨g, j * 3, none⟩ = some (.string (B p.1)) ∧ w.cell? ⟨g, j * 3 + 1, none⟩ = some (.int .i64 (p.2 : Int)) ∧ ∃ v, w.cell? ⟨g, j * 3 + 2, none⟩ = some v ∧ OFn N D W B0 w j v
theorem OFn.below {N D W B0 : Nat} {w w' : World} {j : Nat} {v : Value} (h : OFn N D W B0 w j v) (hb : Below w.heap.size w w') : OFn N D W B0 w' j v := by
  obtain ⟨fn, lb, h1, h2, h3⟩ := h
  exact ⟨fn, lb, h1, h2, fun u own bs A x y hu => h3 u own bs A x y (hb.trans (hu.mono hb.size))⟩
theorem ORow.below {N D W B0 : Nat} {w w' : World} {g : Nat} (h : ORow N D W B0 w g) (hb : Below w.heap.size w w') : ORow N D W B0 w' g := by
  refine ⟨Nat.lt_of_lt_of_le h.lt hb.size, fun j p hp => ?_⟩
  obtain ⟨h1, h2, v, h3, h4⟩ := h.row j p hp
  exact ⟨(hb.cell h.lt).trans h1, (hb.cell h.lt).trans h2, v, (hb.cell h.lt).trans h3, h4.below hb⟩
section
variable {N D W B0 : Nat} {w : World} {b k : Nat}
theorem ofn_step (kind : Int) (j : Nat) (cb : w.cell? ⟨b, 0, none⟩ = some (.pointer (some ⟨D, 0, none⟩))) (ck : w.cell? ⟨k, 0, none⟩ = some (.int .i64 kind)) (ho : ∀ x y, ocmd j x y = cStep kind x y) : OFn N D W B0 w j (.func (.func 90) #[] #[.pointer (some ⟨b, 0, none⟩), .pointer (some ⟨k, 0, none⟩)]) :=
  ⟨_, _, rfl, enters_of Tryz.func90 (by kernel_rfl) rfl, fun u own bs A x y hu _ hd hl => by
    rw [ho]
    exact clo_step hd b k kind ((hu.cell (ln_lt cb)).trans cb) ((hu.cell (ln_lt ck)).trans ck) x y hl⟩
theorem ofn_calm (cb : w.cell? ⟨b, 0, none⟩ = some (.pointer (some ⟨D, 0, none⟩))) (hb : B0 ≤ b) : OFn N D W B0 w 6 (.func (.func 91) #[] #[.pointer (some ⟨b, 0, none⟩)]) :=
  ⟨_, _, rfl, enters_of Tryz.func91 (by kernel_rfl) rfl, fun u own bs A x y hu ho hd hl => clo_calm hd b ((hu.cell (ln_lt cb)).trans cb) (fun hm => by have := ho b hm; omega) x y hl⟩
theorem ofn_packets (cb : w.cell? ⟨b, 0, none⟩ = some (.pointer (some ⟨D, 0, none⟩))) : OFn N D W B0 w 7 (.func (.func 93) #[] #[.pointer (some ⟨b, 0, none⟩)]) :=
  ⟨_, _, rfl, enters_of Tryz.func93 (by kernel_rfl) rfl, fun u own bs A x y hu _ hd hl => clo_packets hd b ((hu.cell (ln_lt cb)).trans cb) x y hl⟩
theorem ofn_done (cb : w.cell? ⟨b, 0, none⟩ = some (.pointer (some ⟨D, 0, none⟩))) : OFn N D W B0 w 8 (.func (.func 95) #[] #[.pointer (some ⟨b, 0, none⟩)]) :=
  ⟨_, _, rfl, enters_of Tryz.func95 (by kernel_rfl) rfl, fun u own bs A x y hu _ hd hl => clo_done hd b ((hu.cell (ln_lt cb)).trans cb) x y hl⟩
theorem ofn_log (cb : w.cell? ⟨b, 0, none⟩ = some (.pointer (some ⟨D, 0, none⟩))) : OFn N D W B0 w 9 (.func (.func 97) #[] #[.pointer (some ⟨b, 0, none⟩)]) :=
  ⟨_, _, rfl, enters_of Tryz.func97 (by kernel_rfl) rfl, fun u own bs A x y hu _ hd hl => clo_log hd b ((hu.cell (ln_lt cb)).trans cb) x y hl⟩
theorem ofn_then (cb : w.cell? ⟨b, 0, none⟩ = some (.pointer (some ⟨D, 0, none⟩))) : OFn N D W B0 w 10 (.func (.func 99) #[] #[.pointer (some ⟨b, 0, none⟩)]) :=
  ⟨_, _, rfl, enters_of Tryz.func99 (by kernel_rfl) rfl, fun u own bs A x y hu _ hd hl => clo_then hd b ((hu.cell (ln_lt cb)).trans cb) x y hl⟩
end
/-- A step's closure, by its kind's block. -/
def fStep (b k : Nat) : Value := .func (.func 90) #[] #[.pointer (some ⟨b, 0, none⟩), .pointer (some ⟨k, 0, none⟩)]
def fOne (f b : Nat) : Value := .func (.func f) #[] #[.pointer (some ⟨b, 0, none⟩)]
def ocells (s : Nat) : Array Value := #[.string ⟨#[115, 101, 110, 100]⟩, .int .i64 1, fStep s (s + 1), .string ⟨#[100, 101, 108, 105, 118, 101, 114]⟩, .int .i64 1, fStep s (s + 2), .string ⟨#[108, 111, 115, 101]⟩, .int .i64 1, fStep s (s + 3), .string ⟨#[100, 111, 117, 98, 108, 101]⟩, .int .i64 1, fStep s (s + 4), .string ⟨#[99, 114, 97, 115, 104]⟩, .int .i64 0, fStep s (s + 5), .string ⟨#[116, 101, 97, 114]⟩, .int .i64 2, fStep s (s + 6), .string ⟨#[99, 97, 108, 109]⟩, .int .i64 0, fOne 91 s, .string ⟨#[112, 97, 99, 107, 101, 116, 115]⟩, .int .i64 0, fOne 93 s, .string ⟨#[100, 111, 110, 101]⟩, .int .i64 1, fOne 95 s, .string ⟨#[108, 111, 103]⟩, .int .i64 0, fOne 97 s, .string ⟨#[116, 104, 101, 110]⟩, .int .i64 1, fOne 99 s]
/-- The world behind orders. -/
def oworld (D : Nat) (w : World) : World := (((((((w.alloc (.cells #[.pointer (some ⟨D, 0, none⟩)] 25)).alloc (.cells #[.int .i64 2] 3)).alloc (.cells #[.int .i64 3] 3)).alloc (.cells #[.int .i64 4] 3)).alloc (.cells #[.int .i64 5] 3)).alloc (.cells #[.int .i64 6] 3)).alloc (.cells #[.int .i64 7] 3)).alloc (.cells (ocells w.heap.size) 130)
set_option maxRecDepth 100000 in
set_option maxHeartbeats 4000000 in
theorem orders_walk (D : Nat) (w : World) :
    Calls Tryz.prog 53 #[.pointer (some ⟨D, 0, none⟩)] w fun e w' => e = .returned (.slice (some ⟨w.heap.size + 7, 0, none⟩) 11 11) ∧ w' = oworld D w := by
  go_enter Tryz.func53, Tryz.ntmps53
  go_wp2_with (go_at_call 89; refine (mkstep_any _ _ _).mono ?_; rintro e w' ⟨rfl, rfl⟩)
  --@A1@
  go_ret
  --@A2@
  exact ⟨rfl, rfl⟩
end Go.Proofs.YtffgolanmaenfacGreatDoor

namespace Go.Proofs.YtffgolanmaenfacGreatDoor
open Go.RowKit
set_option linter.unusedSimpArgs false
set_option linter.unusedVariables false

theorem oworld_below (D : Nat) (w : World) : Below w.heap.size w (oworld D w) := by
  unfold oworld
  exact (((((((((Below.refl _ _).alloc (Nat.le_refl _) _).alloc (by simp) _).alloc (by simp; omega) _).alloc (by simp; omega) _).alloc (by simp; omega) _).alloc (by simp; omega) _).alloc (by simp; omega) _).alloc (by simp; omega) _)
theorem oworld_heap (D : Nat) (w : World) : (oworld D w).heap = w.heap ++ #[.cells #[.pointer (some ⟨D, 0, none⟩)] 25 (0, 0), .cells #[.int .i64 2] 3 (0, 0), .cells #[.int .i64 3] 3 (0, 0), .cells #[.int .i64 4] 3 (0, 0), .cells #[.int .i64 5] 3 (0, 0), .cells #[.int .i64 6] 3 (0, 0), .cells #[.int .i64 7] 3 (0, 0), .cells (ocells w.heap.size) 130 (0, 0)] := by
  unfold oworld World.alloc
  apply Array.ext'
  simp
theorem oworld_at (D : Nat) (w : World) (i : Nat) : (oworld D w).heap[w.heap.size + i]? = (#[.cells #[.pointer (some ⟨D, 0, none⟩)] 25 (0, 0), .cells #[.int .i64 2] 3 (0, 0), .cells #[.int .i64 3] 3 (0, 0), .cells #[.int .i64 4] 3 (0, 0), .cells #[.int .i64 5] 3 (0, 0), .cells #[.int .i64 6] 3 (0, 0), .cells #[.int .i64 7] 3 (0, 0), .cells (ocells w.heap.size) 130 (0, 0)] : Array Obj)[i]? := by
  rw [oworld_heap, Array.getElem?_append_right (by omega)]
  congr 1
  omega
set_option maxRecDepth 100000 in
theorem orders_any (N D W : Nat) (w : World) :
    Calls Tryz.prog 53 #[.pointer (some ⟨D, 0, none⟩)] w fun e w' => ∃ g, e = .returned (.slice (some ⟨g, 0, none⟩) 11 11) ∧ ORow N D W w.heap.size w' g ∧ w.heap.size ≤ g ∧ Below w.heap.size w w' := by
  refine (orders_walk D w).mono ?_
  rintro e w' ⟨rfl, rfl⟩
  have hg : (oworld D w).heap[w.heap.size + 7]? = some (.cells (ocells w.heap.size) 130 (0, 0)) := oworld_at D w 7
  have h0 := oworld_at D w 0
  rw [Nat.add_zero] at h0
  have cb : (oworld D w).cell? ⟨w.heap.size, 0, none⟩ = some (.pointer (some ⟨D, 0, none⟩)) := by rw [Lib.cell_of_heap h0]; rfl
  have c1 : (oworld D w).cell? ⟨w.heap.size + 1, 0, none⟩ = some (.int .i64 2) := by rw [Lib.cell_of_heap (oworld_at D w 1)]; rfl
  have c2 : (oworld D w).cell? ⟨w.heap.size + 2, 0, none⟩ = some (.int .i64 3) := by rw [Lib.cell_of_heap (oworld_at D w 2)]; rfl
  have c3 : (oworld D w).cell? ⟨w.heap.size + 3, 0, none⟩ = some (.int .i64 4) := by rw [Lib.cell_of_heap (oworld_at D w 3)]; rfl
  have c4 : (oworld D w).cell? ⟨w.heap.size + 4, 0, none⟩ = some (.int .i64 5) := by rw [Lib.cell_of_heap (oworld_at D w 4)]; rfl
  have c5 : (oworld D w).cell? ⟨w.heap.size + 5, 0, none⟩ = some (.int .i64 6) := by rw [Lib.cell_of_heap (oworld_at D w 5)]; rfl
  have c6 : (oworld D w).cell? ⟨w.heap.size + 6, 0, none⟩ = some (.int .i64 7) := by rw [Lib.cell_of_heap (oworld_at D w 6)]; rfl
  have hcl : ∀ i, (oworld D w).cell? ⟨w.heap.size + 7, i, none⟩ = (ocells w.heap.size)[i]? := fun i => Lib.cell_of_heap hg i
  refine ⟨_, rfl, ⟨elt hg, fun j p hp => ?_⟩, by omega, oworld_below D w⟩
  rw [hcl, hcl, hcl]
  match j, hp with
  | 0, hp => simp [otab] at hp; subst hp; exact ⟨rfl, rfl, _, rfl, ofn_step 2 0 cb c1 (fun _ _ => rfl)⟩
  | 1, hp => simp [otab] at hp; subst hp; exact ⟨rfl, rfl, _, rfl, ofn_step 3 1 cb c2 (fun _ _ => rfl)⟩
  | 2, hp => simp [otab] at hp; subst hp; exact ⟨rfl, rfl, _, rfl, ofn_step 4 2 cb c3 (fun _ _ => rfl)⟩
  | 3, hp => simp [otab] at hp; subst hp; exact ⟨rfl, rfl, _, rfl, ofn_step 5 3 cb c4 (fun _ _ => rfl)⟩
  | 4, hp => simp [otab] at hp; subst hp; exact ⟨rfl, rfl, _, rfl, ofn_step 6 4 cb c5 (fun _ _ => rfl)⟩
  | 5, hp => simp [otab] at hp; subst hp; exact ⟨rfl, rfl, _, rfl, ofn_step 7 5 cb c6 (fun _ _ => rfl)⟩
  | 6, hp => simp [otab] at hp; subst hp; exact ⟨rfl, rfl, _, rfl, ofn_calm cb (Nat.le_refl _)⟩
  | 7, hp => simp [otab] at hp; subst hp; exact ⟨rfl, rfl, _, rfl, ofn_packets cb⟩
  | 8, hp => simp [otab] at hp; subst hp; exact ⟨rfl, rfl, _, rfl, ofn_done cb⟩
  | 9, hp => simp [otab] at hp; subst hp; exact ⟨rfl, rfl, _, rfl, ofn_log cb⟩
  | 10, hp => simp [otab] at hp; subst hp; exact ⟨rfl, rfl, _, rfl, ofn_then cb⟩
  | j + 11, hp => simp [otab] at hp

/-- Is this the order? -/
def isO (wd : List UInt8) (n : Nat) (p : List UInt8 × Nat) : Bool := p.1 == wd && p.2 == n
theorem Bstr_eq (a b : List UInt8) : ((B a).toList == (B b).toList) = (a == b) := by
  rw [num_eq, B_data]
  by_cases h : a = b
  · subst h; simp
  · simp [h]
set_option maxRecDepth 100000 in
set_option maxHeartbeats 4000000 in
theorem isO_any (p : List UInt8 × Nat) (v : Value) (wd : List UInt8) (bw bb n c : Nat) (a : Option Addr) (w : World) (hw : w.cell? ⟨bw, 0, none⟩ = some (.string (B wd))) (hb : w.cell? ⟨bb, 0, none⟩ = some (.slice a n c)) :
    Calls Tryz.prog 55 #[.agg #[.string (B p.1), .int .i64 (p.2 : Int), v], .pointer (some ⟨bw, 0, none⟩), .pointer (some ⟨bb, 0, none⟩)] w fun e w' => e = .returned (.bool (isO wd n p)) ∧ Below w.heap.size w w' := by
  have hB1 : bw < w.heap.size := ln_lt hw
  have hB2 : bb < w.heap.size := ln_lt hb
  have hn1 : ¬ w.heap.size = bw := by omega
  have hn2 : ¬ bw = w.heap.size := by omega
  have hn3 : ¬ w.heap.size = bb := by omega
  have hn4 : ¬ bb = w.heap.size := by omega
  obtain ⟨pw, pn⟩ := p
  have hbs := Bstr_eq pw wd
  obtain ⟨R, HR⟩ : ∃ R, Hid (isO wd n (pw, pn) = R) := ⟨_, rfl⟩
  rw [unhide HR]
  have HQ : Hid (((pw == wd) && (pn == n)) = R) := HR
  dsimp only
  cases h1 : (pw == wd) with
  | false =>
    rw [h1] at hbs HQ
    obtain rfl : false = R := unhide HQ
    clear h1 HR HQ
    go_enter Tryz.func55, Tryz.ntmps55
    go_wp2
    go_ret
    exact ⟨rfl, (Below.refl _ _).alloc (Nat.le_refl _) _⟩
  | true =>
    rw [h1] at hbs HQ
    by_cases h2 : pn = n
    · subst h2
      obtain rfl : true = R := by have := unhide HQ; simpa using this
      clear h1 HR HQ
      go_enter Tryz.func55, Tryz.ntmps55
      go_wp2
      go_ret
      exact ⟨by simp, (Below.refl _ _).alloc (Nat.le_refl _) _⟩
    · obtain rfl : false = R := by rw [← unhide HQ]; simp [h2]
      have h3 : ¬ (pn : Int) = (n : Int) := by omega
      clear h1 HR HQ h2
      go_enter Tryz.func55, Tryz.ntmps55
      go_wp2
      go_ret
      exact ⟨by simp [h3], (Below.refl _ _).alloc (Nat.le_refl _) _⟩

def oint (wd : List UInt8) (n : Nat) : Int := if oidx wd n < 11 then (oidx wd n : Int) else -1
theorem oint_hit {wd : List UInt8} {n k : Nat} {p : List UInt8 × Nat} (hp : otab[k]? = some p) (h : isO wd n p = true) (hl : ∀ (j : Nat) (q : List UInt8 × Nat), j < k → otab[j]? = some q → isO wd n q = false) : oint wd n = (k : Int) := by
  have hk := (List.getElem?_eq_some_iff.1 hp).1
  have hk2 : k < 11 := hk
  have e : oidx wd n = k := by
    unfold oidx
    rw [List.findIdx_eq hk]
    have hp2 := (List.getElem?_eq_some_iff.1 hp).2
    refine ⟨by rw [hp2]; exact h, fun j hj => ?_⟩
    exact hl j _ hj (List.getElem?_eq_getElem (by omega))
  unfold oint
  rw [e, if_pos hk2]
theorem oint_miss {wd : List UInt8} {n : Nat} (hl : ∀ (j : Nat) (q : List UInt8 × Nat), j < 11 → otab[j]? = some q → isO wd n q = false) : oint wd n = -1 := by
  unfold oint
  rw [if_neg]
  intro h
  have h1 : otab.findIdx (fun p => p.1 == wd && p.2 == n) < otab.length := h
  have h2 := List.findIdx_getElem (w := h1)
  have h3 := hl _ _ h (List.getElem?_eq_getElem h1)
  unfold isO at h3
  rw [h3] at h2
  cases h2
set_option maxRecDepth 100000 in
set_option maxHeartbeats 4000000 in
theorem oidx_any {N D W B0 : Nat} {w : World} {g : Nat} (hr : ORow N D W B0 w g) (wd : List UInt8) (bw bb n c : Nat) (a : Option Addr) (hw : w.cell? ⟨bw, 0, none⟩ = some (.string (B wd))) (hb : w.cell? ⟨bb, 0, none⟩ = some (.slice a n c)) :
    Calls Tryz.prog 54 #[.slice (some ⟨g, 0, none⟩) 11 11, .func (.func 55) #[] #[.pointer (some ⟨bw, 0, none⟩), .pointer (some ⟨bb, 0, none⟩)]] w fun e w' => e = .returned (.int .i64 (oint wd n)) ∧ Below w.heap.size w w' := by
  obtain ⟨R, HR⟩ : ∃ R, Hid (oint wd n = R) := ⟨_, rfl⟩
  rw [unhide HR]
  have HROW := hide hr
  have HP : Hid (∀ (p : List UInt8 × Nat) (v : Value) (W' : World), Below w.heap.size w W' → Calls Tryz.prog 55 #[.agg #[.string (B p.1), .int .i64 (p.2 : Int), v], .pointer (some ⟨bw, 0, none⟩), .pointer (some ⟨bb, 0, none⟩)] W' fun e w' => e = .returned (.bool (isO wd n p)) ∧ Below W'.heap.size W' w') := hide fun p v W' hb' => isO_any p v wd bw bb n c a W' ((hb'.cell (ln_lt hw)).trans hw) ((hb'.cell (ln_lt hb)).trans hb)
  clear hr hw hb
  go_enter Tryz.func54, Tryz.ntmps54
  go_wp2
  go_loopw [5, 8] (fun _ i wr => ∃ k : Nat, k ≤ 11 ∧ i = .int .i64 (k : Int) ∧ Hid (Below w.heap.size w wr) ∧ Hid (∀ (j : Nat) (q : List UInt8 × Nat), j < k → otab[j]? = some q → isO wd n q = false)) (fun _ i _ => 11 - (intOf i).toNat)
  case atStart => exact ⟨0, Nat.zero_le _, rfl, Below.refl _ _, fun j f hj => absurd hj (Nat.not_lt_zero _)⟩
  case round =>
    obtain ⟨k, hk, rfl, HB, HA⟩ := hrel
    by_cases hlt : (k : Int) < 11
    · obtain ⟨p, hp⟩ : ∃ p, otab[k]? = some p := ⟨_, List.getElem?_eq_getElem (by show k < 11; omega)⟩
      obtain ⟨c0, c1, v, c2, _⟩ := ((unhide HROW).below (unhide HB)).row k p hp
      have hgl := ((unhide HROW).below (unhide HB)).lt
      have hcall := (unhide HP) p v wr (unhide HB)
      have HX := hide hp
      clear hp
      cases hq : isO wd n p with
      | false =>
        rw [hq] at hcall
        have HQ := hide hq
        clear hq
        go_wp2_with (go_at_call 55; refine hcall.mono ?_; rintro e w' ⟨rfl, hb'⟩)
        go_roundw
        case rel =>
          refine ⟨k + 1, by omega, by go_num, (unhide HB).trans (hb'.mono (unhide HB).size), ?_⟩
          intro j f hj hf
          by_cases e : j = k
          · subst e
            rw [unhide HX] at hf
            injection hf with hf
            rw [← hf]
            exact unhide HQ
          · exact unhide HA j f (by omega) hf
        case measure => simp [intOf]; omega
      | true =>
        rw [hq] at hcall
        have HQ := hide hq
        clear hq
        go_wp2_with (go_at_call 55; refine hcall.mono ?_; rintro e w' ⟨rfl, hb'⟩)
        go_ret
        refine ⟨?_, (unhide HB).trans (hb'.mono (unhide HB).size)⟩
        rw [← unhide HR, oint_hit (unhide HX) (unhide HQ) (unhide HA)]
        rfl
    · obtain rfl : k = 11 := by omega
      go_wp2
      go_ret
      refine ⟨?_, unhide HB⟩
      rw [← unhide HR, oint_miss (unhide HA)]
      rfl
end Go.Proofs.YtffgolanmaenfacGreatDoor

namespace Go.Proofs.YtffgolanmaenfacGreatDoor
open Go.RowKit
set_option linter.unusedSimpArgs false
set_option linter.unusedVariables false

theorem cmdW_none {wd : List UInt8} {ls : List (List UInt8)} (h : oint wd ls.length = -1) : cmdW (wd :: ls) = cWhat := by
  unfold oint at h
  show (if _ then _ else _) = _
  rw [if_neg]
  intro h1
  rw [if_pos h1] at h
  omega
theorem cmdW_some {wd : List UInt8} {ls : List (List UInt8)} {i : Nat} (h : oint wd ls.length = (i : Int)) : i < 11 ∧ oidx wd ls.length = i ∧ ls.length ≤ 2 := by
  unfold oint at h
  split at h
  · rename_i h1
    exact ⟨by omega, by omega, oidx_count h1⟩
  · omega
theorem oint_cases (wd : List UInt8) (n : Nat) : oint wd n = -1 ∨ ∃ i : Nat, oint wd n = (i : Int) := by
  unfold oint
  split
  · exact Or.inr ⟨_, rfl⟩
  · exact Or.inl rfl
set_option maxRecDepth 100000 in
set_option maxHeartbeats 16000000 in
theorem follow_any {N : Nat} {w u : World} {D W : Nat} {own : List Nat} {bs : List UInt8} {A : AW} (h : DN N w own D W bs A u) (wd : List UInt8) (a : Option Addr) (n c : Nat) (ls : List (List UInt8)) (hs : SRow u a n ls) (hsz : ∀ x, x ∈ ls → x.length ≤ 1000000) (hl : bs.length ≤ 800000000) :
    Calls Tryz.prog 29 #[.pointer (some ⟨D, 0, none⟩), .string (B wd), .slice a n c] u fun e w' => e = .returned (.tuple #[]) ∧ DN N w own D W (bs ++ told A (cmdW (wd :: ls))) (went A (cmdW (wd :: ls))) w' := by
  have hlen := hs.1
  obtain ⟨own1, hown, hre⟩ := h.rebase
  obtain ⟨V, hV⟩ : ∃ V, V = (u.alloc (.cells #[.string (B wd)] 9)).alloc (.cells #[.slice a n c] 22) := ⟨_, rfl⟩
  have hB0 : Below u.heap.size u V := by rw [hV]; exact ((Below.refl _ _).alloc (Nat.le_refl _) _).alloc (by simp) _
  have hzV : V.heap.size = u.heap.size + 2 := by rw [hV]; simp
  have hv1 : V.heap[u.heap.size]? = some (.cells #[.string (B wd)] 9 (0, 0)) := by rw [hV, Below.heap_alloc _ _ _ (by simp)]; exact heap_alloc_new _ _
  have hv2 : V.heap[u.heap.size + 1]? = some (.cells #[.slice a n c] 22 (0, 0)) := by
    rw [hV, show u.heap.size + 1 = (u.alloc (.cells #[.string (B wd)] 9)).heap.size by simp]; exact heap_alloc_new _ _
  have hc1 : V.cell? ⟨u.heap.size, 0, none⟩ = some (.string (B wd)) := by rw [Lib.cell_of_heap hv1]; rfl
  have hc2 : V.cell? ⟨u.heap.size + 1, 0, none⟩ = some (.slice a n c) := by rw [Lib.cell_of_heap hv2]; rfl
  have HOR := hide (orders_any N D W V)
  have HIX : Hid (∀ W' g, Below V.heap.size V W' → ORow N D W V.heap.size W' g → Calls Tryz.prog 54 #[.slice (some ⟨g, 0, none⟩) 11 11, .func (.func 55) #[] #[.pointer (some ⟨u.heap.size, 0, none⟩), .pointer (some ⟨u.heap.size + 1, 0, none⟩)]] W' fun e w' => e = .returned (.int .i64 (oint wd n)) ∧ Below W'.heap.size W' w') := hide fun W' g hb hr => oidx_any hr wd u.heap.size (u.heap.size + 1) n c a ((hb.cell (ln_lt hc1)).trans hc1) ((hb.cell (ln_lt hc2)).trans hc2)
  have HC2 : Hid (∀ W', Below V.heap.size V W' → W'.cell? ⟨u.heap.size + 1, 0, none⟩ = some (.slice a n c)) := hide fun W' hb => (hb.cell (ln_lt hc2)).trans hc2
  have HNUM : Hid (n ≤ 2 → ∀ W', Below V.heap.size V W' → Calls Tryz.prog 56 #[.slice a n c] W' fun e w' => e = .returned (.tuple #[.agg #[.int .i64 (numA ls 0), .int .i64 (numA ls 1)], .bool (allN ls)]) ∧ Below W'.heap.size W' w') := hide fun hn W' hb => numbers_any a n c ls W' ((h.gw.below hB0).below hb) ((hs.below hB0).below hb) hn hsz
  have HWH : Hid (∀ W', Below V.heap.size V W' → cmdW (wd :: ls) = cWhat → Calls Tryz.prog 48 #[.pointer (some ⟨D, 0, none⟩), .slice (some ⟨W'.heap.size, 0, none⟩) 1 1] (W'.alloc (.cells #[.string ⟨#[119, 104, 97, 116]⟩] 9)) fun e w' => e = .returned (.tuple #[]) ∧ DN N w own D W (bs ++ told A (cmdW (wd :: ls))) (went A (cmdW (wd :: ls))) w') := hide fun W' hb hc => by
    rw [hc]
    exact h.what (hB0.trans (hb.mono hB0.size)) (by omega)
  have HDO : Hid (∀ (i : Nat) (v : Value) (w1 W' : World), Below V.heap.size V w1 → Below w1.heap.size w1 W' → OFn N D W V.heap.size w1 i v → cmdW (wd :: ls) = ocmd i (nth ls 0) (nth ls 1) → ∃ fn lb, v = .func (.func fn) #[] lb ∧ (∀ args w, (callFunc fn args).run Tryz.prog w = .ok (.enter fn args) w) ∧ Calls Tryz.prog fn (#[.agg #[.int .i64 (nth ls 0), .int .i64 (nth ls 1)]] ++ lb) W' fun e w' => e = .returned (.tuple #[]) ∧ DN N w own D W (bs ++ told A (cmdW (wd :: ls))) (went A (cmdW (wd :: ls))) w' ∧ ∀ b, b < W'.heap.size → V.heap.size ≤ b → w'.heap[b]? = W'.heap[b]?) := hide fun i v w1 W' hb hb2 ho hc => by
    obtain ⟨fn, lb, e1, e2, hf⟩ := ho
    refine ⟨fn, lb, e1, e2, ?_⟩
    have hbu : Below u.heap.size u W' := (hB0.trans (hb.mono hB0.size)).trans (hb2.mono (Nat.le_trans hB0.size hb.size))
    obtain ⟨hd, hback⟩ := hre W' hbu
    refine (hf W' own1 bs A _ _ hb2 (fun k hk => by have := hown k hk; omega) hd hl).mono ?_
    rintro e w' ⟨rfl, hd2⟩
    rw [hc]
    exact ⟨rfl, hback _ _ _ hd2, fun b hb hb3 => hd2.blk hb (fun hm => by have := hown b hm; omega)⟩
  have HCW : Hid (∀ i : Nat, oint wd n = (i : Int) → i < 11 ∧ n ≤ 2 ∧ (allN ls = true → cmdW (wd :: ls) = ocmd i (nth ls 0) (nth ls 1)) ∧ (allN ls = false → cmdW (wd :: ls) = cWhat)) := hide fun i hi => by
    rw [← hlen] at hi ⊢
    obtain ⟨h1, h2, h3⟩ := cmdW_some hi
    refine ⟨h1, h3, fun ha => ?_, fun ha => ?_⟩
    · show (if _ then (if _ then _ else _) else _) = _
      rw [h2, if_pos h1]
      exact if_pos ha
    · show (if _ then (if _ then _ else _) else _) = _
      rw [h2, if_pos h1, if_neg (by intro h; rw [show ls.all numB = allN ls from rfl, ha] at h; cases h)]
  have HCN : Hid (oint wd n = -1 → cmdW (wd :: ls) = cWhat) := hide fun hi => by rw [← hlen] at hi; exact cmdW_none hi
  have hoc := oint_cases wd n
  have HV := hide hV
  have HZV := hide hzV
  have HEQ : Hid (allN ls = true → numA ls 0 = nth ls 0 ∧ numA ls 1 = nth ls 1) := hide fun ha => by unfold numA; rw [if_pos ha, if_pos ha]; exact ⟨rfl, rfl⟩
  generalize oint wd n = oi at *
  generalize allN ls = al at *
  generalize numA ls 0 = na0 at *
  generalize numA ls 1 = na1 at *
  generalize told A (cmdW (wd :: ls)) = T1 at *
  generalize went A (cmdW (wd :: ls)) = T2 at *
  clear h hs hsz hl hown hre hB0 hv1 hv2 hc1 hc2 hlen hV hzV
  go_enter Tryz.func29, Tryz.ntmps29
  go_wp2_with fail
  --@A1@
  rw [← unhide HV]
  refine (unhide HOR).mono ?_
  rintro e w1 ⟨g, rfl, hrow, hg, b1⟩
  have HROW := hide hrow
  have HB1 := hide b1
  have HG := hide hg
  clear hrow b1 hg HOR
  go_wp2_with fail
  --@A2@
  refine ((unhide HIX) w1 g (unhide HB1) (unhide HROW)).mono ?_
  rintro e w2 ⟨rfl, b2⟩
  have HB12 := hide b2
  have HB2 := hide ((unhide HB1).trans (b2.mono (unhide HB1).size))
  clear b2 HIX
  rcases hoc with rfl | ⟨i, rfl⟩
  · have HW2 := hide ((unhide HWH) w2 (unhide HB2) ((unhide HCN) rfl))
    go_wp2_with fail
    --@A3@
    refine (unhide HW2).mono ?_
    rintro e w3 ⟨rfl, hd3⟩
    have HD3 := hide hd3
    clear hd3
    go_wp2
    ((try simp only [Exit.inBlock, Exit.then]); refine bodyPost_ret (results_none rfl _ _ _) rfl ?_)
    exact ⟨rfl, unhide HD3⟩
  · obtain ⟨hi, hn2, hca, hcf⟩ := (unhide HCW) i rfl
    have HCA := hide hca
    have HCF := hide hcf
    have hc2 := (unhide HC2) w2 (unhide HB2)
    have HN2 := hide ((unhide HNUM) hn2 w2 (unhide HB2))
    obtain ⟨p, hp⟩ : ∃ p, otab[i]? = some p := ⟨_, List.getElem?_eq_getElem (by show i < 11; omega)⟩
    obtain ⟨_, _, v, hcv, hof⟩ := (unhide HROW).row i p hp
    have HOF := hide hof
    have HGL := hide (unhide HROW).lt
    have HCV := hide hcv
    have hi0 : ¬ (i : Int) < 0 := by omega
    have hi1 : (0 : Int) ≤ (i : Int) := by omega
    have hi2 : (i : Int) < 11 := by omega
    clear hca hcf hp hcv hof HNUM HCW HCN HC2
    go_wp2_with fail
    --@B1@
    refine (unhide HN2).mono ?_
    rintro e w3 ⟨rfl, b3⟩
    have HB23 := hide b3
    have HB13 := hide ((unhide HB12).trans (b3.mono (unhide HB12).size))
    have HB3 := hide ((unhide HB2).trans (b3.mono (unhide HB2).size))
    clear b3 hc2 HN2
    cases al with
    | false =>
      obtain ⟨V4, hV4⟩ : ∃ V4, V4 = w3.alloc (.cells #[.int .i64 na0, .int .i64 na1] 133) := ⟨_, rfl⟩
      have hB4 : Below V.heap.size V V4 := by rw [hV4]; exact (unhide HB3).alloc (unhide HB3).size _
      have HW4 := hide ((unhide HWH) V4 hB4 ((unhide HCF) (by first | rfl | trivial)))
      have hz4 : V4.heap.size = w3.heap.size + 1 := by rw [hV4]; simp
      rw [hz4, hV4] at HW4
      clear hB4 hV4 hz4
      go_wp2_with fail
      --@B2@
      refine (unhide HW4).mono ?_
      rintro e w5 ⟨rfl, hd5⟩
      have HD5 := hide hd5
      clear hd5
      go_wp2
      ((try simp only [Exit.inBlock, Exit.then]); refine bodyPost_ret (results_none rfl _ _ _) rfl ?_)
      exact ⟨rfl, unhide HD5⟩
    | true =>
      obtain ⟨rfl, rfl⟩ := (unhide HEQ) (by first | rfl | trivial)
      obtain ⟨V4, hV4⟩ : ∃ V4, V4 = w3.alloc (.cells #[.int .i64 (nth ls 0), .int .i64 (nth ls 1)] 133) := ⟨_, rfl⟩
      have hB34 : Below w3.heap.size w3 V4 := by rw [hV4]; exact (Below.refl _ _).alloc (Nat.le_refl _) _
      have hB14 : Below w1.heap.size w1 V4.drew := ((unhide HB13).trans (hB34.mono (unhide HB13).size)).drew
      have hx4 : V4.heap[w3.heap.size]? = some (.cells #[.int .i64 (nth ls 0), .int .i64 (nth ls 1)] 133 (0, 0)) := by rw [hV4]; exact heap_alloc_new _ _
      obtain ⟨fn, lb, hv, heg, hcall⟩ := (unhide HDO) i v w1 V4.drew (unhide HB1) hB14 (unhide HOF) ((unhide HCA) (by first | rfl | trivial))
      subst hv
      have hz3 := (unhide HB3).size
      have HS : Hid (∀ W' : World, (∀ b, b < V4.heap.size → V.heap.size ≤ b → W'.heap[b]? = V4.heap[b]?) → W'.cell? ⟨g, i * 3 + 2, none⟩ = some (.func (.func fn) #[] lb) ∧ W'.cell? ⟨w3.heap.size, 0, none⟩ = some (.int .i64 (nth ls 0)) ∧ W'.cell? ⟨w3.heap.size, 1, none⟩ = some (.int .i64 (nth ls 1))) := hide fun W' hW => by
        obtain ⟨⟨y0, y1⟩, _⟩ := twoC ((hW w3.heap.size (elt hx4) hz3).trans hx4)
        refine ⟨?_, y0, y1⟩
        have h1 := hB14.cell (p := ⟨g, i * 3 + 2, none⟩) (unhide HGL)
        rw [World.cell?_of_block (w := V4) (a := ⟨g, i * 3 + 2, none⟩) (hW g (Nat.lt_of_lt_of_le (unhide HGL) hB14.size) (unhide HG))]
        exact h1.trans (unhide HCV)
      obtain ⟨s0, s1, s2⟩ := (unhide HS) V4 (fun _ _ _ => rfl)
      have HCALL := hide hcall
      have HV4 := hide hV4
      clear hV4 hB34 hB14 hx4 hcall HDO HCV HOF HCA HCF HROW
      go_wp2_with fail
      --@C1@
      rw [← unhide HV4]
      go_region_held3 (fun W' => W'.cell? ⟨g, i * 3 + 2, none⟩ = some (.func (.func fn) #[] lb) ∧ W'.cell? ⟨w3.heap.size, 0, none⟩ = some (.int .i64 (nth ls 0)) ∧ W'.cell? ⟨w3.heap.size, 1, none⟩ = some (.int .i64 (nth ls 1))) ((go_keep; done)) (first | (go_at_fn fn; refine (unhide HCALL).mono ?_; rintro e w5 ⟨rfl, hd5, hk5⟩; have HD5 := hide hd5; obtain ⟨t0, t1, t2⟩ := (unhide HS) w5 hk5; clear hd5 hk5))
      --@C2@
      all_goals
        go_wp2
        go_end0
        exact ⟨rfl, unhide HD5⟩
end Go.Proofs.YtffgolanmaenfacGreatDoor

namespace Go.Proofs.YtffgolanmaenfacGreatDoor
open Go.RowKit
set_option linter.unusedSimpArgs false
set_option linter.unusedVariables false

theorem told_ask (A : AW) (n : Int) (s : List UInt8) : told A (cAsk n s) = if (aParse s).2 ≠ 0 then tNo (aParse s).2 else tStep (A.step ⟨1, n, 0, (aParse s).1⟩).1 := rfl
theorem went_ask (A : AW) (n : Int) (s : List UInt8) : went A (cAsk n s) = if (aParse s).2 ≠ 0 then A else (A.step ⟨1, n, 0, (aParse s).1⟩).2 := rfl
set_option maxRecDepth 100000 in
set_option maxHeartbeats 8000000 in
theorem dcall_any {N : Nat} {w u : World} {D W : Nat} {own : List Nat} {bs : List UInt8} {A : AW} (h : DN N w own D W bs A u) (s : ByteArray) (hs : s.size ≤ 1000000) (hl : bs.length ≤ 800000000) :
    Calls Tryz.prog 27 #[.pointer (some ⟨D, 0, none⟩), .string s] u fun e w' => e = .returned (.tuple #[]) ∧ DN N w own D W (bs ++ told A (cmdC s.data.toList)) (went A (cmdC s.data.toList)) w' := by
  have HC := hide (cut_any s u h.gw hs)
  have hcl := cut_len s.data.toList [32]
  rw [bsize] at hcl
  have hcd : cmdC s.data.toList = if ((Lib.cut s.data.toList [32]).2.2 && numB (Lib.cut s.data.toList [32]).1) = true then cAsk (numI (Lib.cut s.data.toList [32]).1) (Lib.cut s.data.toList [32]).2.1 else cWhat := rfl
  generalize cmdC s.data.toList = cm at hcd ⊢
  generalize Lib.cut s.data.toList [32] = C at *
  obtain ⟨c1, c2, c3⟩ := C
  dsimp only at *
  have HNU : Hid (∀ W', Below u.heap.size u W' → Calls Tryz.prog 47 #[.string (B c1)] W' fun e w' => e = .returned (.tuple #[.int .i64 (numZ c1), .bool (numB c1)]) ∧ Below W'.heap.size W' w') := hide fun W' hb => by
    have := dnumber_any (B c1) W' (h.gw.below hb) (by rw [rec_size]; omega)
    rwa [B_data] at this
  have HPA : Hid (∀ W', Below u.heap.size u W' → Calls Tryz.prog 49 #[.string (B c2)] W' fun e w' => e = .returned (.tuple #[.agg #[.int .i64 (aParse c2).1.kind, .string (aParse c2).1.name, .string (aParse c2).1.dst, .string (aParse c2).1.text], .int .i64 (aParse c2).2]) ∧ Below W'.heap.size W' w') := hide fun W' hb => by
    have := Parse_any (B c2) W' (h.gw.below hb).lw (by rw [rec_size]; omega)
    rwa [B_data] at this
  have HWH : Hid (∀ W', Below u.heap.size u W' → cm = cWhat → Calls Tryz.prog 48 #[.pointer (some ⟨D, 0, none⟩), .slice (some ⟨W'.heap.size, 0, none⟩) 1 1] (W'.alloc (.cells #[.string ⟨#[119, 104, 97, 116]⟩] 9)) fun e w' => e = .returned (.tuple #[]) ∧ DN N w own D W (bs ++ told A cm) (went A cm) w') := hide fun W' hb hc => by
    rw [hc]
    exact h.what hb (by omega)
  have hpc := parse_code c2
  have HRF : Hid (∀ W', Below u.heap.size u W' → cm = cAsk (numI c1) c2 → (aParse c2).2 ≠ 0 → Calls Tryz.prog 50 #[.pointer (some ⟨D, 0, none⟩), .int .i64 (aParse c2).2] W' fun e w' => e = .returned (.tuple #[]) ∧ DN N w own D W (bs ++ told A cm) (went A cm) w') := hide fun W' hb hc hne => by
    rw [hc, told_ask, went_ask, if_pos hne, if_pos hne]
    exact (h.after hb).refuse _ (by omega) (by omega) (by omega)
  have HST : Hid (∀ W', Below u.heap.size u W' → cm = cAsk (numI c1) c2 → (aParse c2).2 = 0 → Calls Tryz.prog 51 #[.pointer (some ⟨D, 0, none⟩), .agg #[.int .i64 1, .int .i64 (numI c1), .int .i64 0, .int .i64 (aParse c2).1.kind, .string (aParse c2).1.name, .string (aParse c2).1.dst, .string (aParse c2).1.text]] W' fun e w' => e = .returned (.tuple #[]) ∧ DN N w own D W (bs ++ told A cm) (went A cm) w') := hide fun W' hb hc h0 => by
    rw [hc, told_ask, went_ask, if_neg (by omega), if_neg (by omega)]
    exact dstep_any (h.after hb) ⟨1, numI c1, 0, (aParse c2).1⟩ (check_SmallC (parse_ok h0)) (by omega)
  have HCM := hide hcd
  have HNZ : Hid (numB c1 = true → numZ c1 = numI c1) := hide numZ_true
  generalize told A cm = T1 at *
  generalize went A cm = T2 at *
  generalize numB c1 = nb at *
  generalize numZ c1 = nz at *
  generalize aParse c2 = P at *
  obtain ⟨⟨pk, pa, pb, pt⟩, pcode⟩ := P
  dsimp only at *
  clear h hs hl hcl hcd hpc
  go_enter Tryz.func27, Tryz.ntmps27
  go_wp2_with fail
  --@A1@
  refine (unhide HC).mono ?_
  rintro e w1 ⟨rfl, b1⟩
  have HB1 := hide b1
  clear b1 HC
  go_wp2_with fail
  --@A2@
  refine ((unhide HNU) w1 (unhide HB1)).mono ?_
  rintro e w2 ⟨rfl, b2⟩
  have HB2 := hide ((unhide HB1).trans (b2.mono (unhide HB1).size))
  clear b2 HNU
  by_cases hok : (c3 && nb) = true
  · obtain ⟨rfl, rfl⟩ : c3 = true ∧ nb = true := by simpa using hok
    obtain rfl : nz = numI c1 := (unhide HNZ) rfl
    have HCA : Hid (cm = cAsk (numI c1) c2) := hide (by rw [unhide HCM]; rfl)
    clear hok HNZ HCM
    go_wp2_with fail
    --@B1@
    refine ((unhide HPA) w2 (unhide HB2)).mono ?_
    rintro e w3 ⟨rfl, b3⟩
    obtain ⟨V, hV⟩ : ∃ V, V = w3.alloc (.cells #[.int .i64 pk, .string pa, .string pb, .string pt] 70) := ⟨_, rfl⟩
    have hB3 := (unhide HB2).trans (b3.mono (unhide HB2).size)
    have hBV : Below u.heap.size u V := by rw [hV]; exact hB3.trans (((Below.refl _ _).alloc (Nat.le_refl _) _).mono hB3.size)
    have HBV := hide hBV
    have HV := hide hV
    clear hBV hB3 b3 hV
    by_cases hc : pcode = 0
    · have HST2 := hide ((unhide HST) V (unhide HBV) (unhide HCA) hc)
      subst hc
      go_wp2_with fail
      --@B2@
      rw [← unhide HV]
      refine (unhide HST2).mono ?_
      rintro e w4 ⟨rfl, hd4⟩
      have HD4 := hide hd4
      clear hd4
      go_wp2
      go_end0
      exact ⟨rfl, unhide HD4⟩
    · have HRF2 := hide ((unhide HRF) V (unhide HBV) (unhide HCA) hc)
      go_wp2_with fail
      --@B3@
      rw [← unhide HV]
      refine (unhide HRF2).mono ?_
      rintro e w4 ⟨rfl, hd4⟩
      have HD4 := hide hd4
      clear hd4
      go_wp2
      ((try simp only [Exit.inBlock, Exit.then]); refine bodyPost_ret (results_none rfl _ _ _) rfl ?_)
      exact ⟨rfl, unhide HD4⟩
  · have HCW : Hid (cm = cWhat) := hide (by rw [unhide HCM, if_neg hok])
    have HW2 := hide ((unhide HWH) w2 (unhide HB2) (unhide HCW))
    cases c3 with
    | false =>
      clear hok
      go_wp2_with fail
      --@C1@
      refine (unhide HW2).mono ?_
      rintro e w4 ⟨rfl, hd4⟩
      have HD4 := hide hd4
      clear hd4
      go_wp2
      ((try simp only [Exit.inBlock, Exit.then]); refine bodyPost_ret (results_none rfl _ _ _) rfl ?_)
      exact ⟨rfl, unhide HD4⟩
    | true =>
      obtain rfl : nb = false := by simpa using hok
      clear hok
      go_wp2_with fail
      --@C2@
      refine (unhide HW2).mono ?_
      rintro e w4 ⟨rfl, hd4⟩
      have HD4 := hide hd4
      clear hd4
      go_wp2
      ((try simp only [Exit.inBlock, Exit.then]); refine bodyPost_ret (results_none rfl _ _ _) rfl ?_)
      exact ⟨rfl, unhide HD4⟩
end Go.Proofs.YtffgolanmaenfacGreatDoor

namespace Go.Proofs.YtffgolanmaenfacGreatDoor
open Go.RowKit
set_option linter.unusedSimpArgs false
set_option linter.unusedVariables false

theorem prefix_len {l : List UInt8} (h : Lib.hasPrefix l [99, 97, 108, 108, 32] = true) : 5 ≤ l.length := by
  unfold Lib.hasPrefix at h
  have := (List.isPrefixOf_iff_prefix.1 h).length_le
  simpa using this
set_option maxRecDepth 100000 in
set_option maxHeartbeats 4000000 in
theorem CutPrefix_in (s : ByteArray) (w : World) (hs : s.size ≤ 1000000) (hp : Lib.hasPrefix s.data.toList [99, 97, 108, 108, 32] = true) :
    Calls Tryz.prog 26 #[.string s, .string ⟨#[99, 97, 108, 108, 32]⟩] w fun e w' => ∃ t : ByteArray, e = .returned (.tuple #[.string t, .bool true]) ∧ t.data.toList = s.data.toList.drop 5 ∧ w' = w := by
  have h5 := prefix_len hp
  rw [bsize] at h5
  have h51 : (5 : Int) ≤ (s.size : Int) := by omega
  have HH := hide (Tryz.stringslite_HasPrefix s ⟨#[99, 97, 108, 108, 32]⟩ w)
  rw [show Lib.hasPrefix s.data.toList (⟨#[99, 97, 108, 108, 32]⟩ : ByteArray).data.toList = true from hp] at HH
  have HC : Hid (Calls Tryz.prog 45 #[.string s, .string ⟨#[99, 97, 108, 108, 32]⟩] w fun e w' => ∃ t : ByteArray, e = .returned (.tuple #[.string t, .bool true]) ∧ t.data.toList = s.data.toList.drop 5 ∧ w' = w) := hide (by
    clear hp
    go_enter Tryz.func45, Tryz.ntmps45
    go_wp2_with fail
    refine (unhide HH).mono ?_
    rintro e w1 ⟨rfl, rfl⟩
    go_wp2
    --@A1@
    go_ret2
    refine ⟨_, rfl, ?_, rfl⟩
    simp
    rw [← bsize]
    exact List.take_of_length_le (by rw [List.length_drop]; omega))
  clear hp h5 h51 HH
  go_enter Tryz.func26, Tryz.ntmps26
  go_wp2_with fail
  refine (unhide HC).mono ?_
  rintro e w1 ⟨t, rfl, ht, rfl⟩
  have HT := hide ht
  clear ht HC
  go_wp2
  go_ret2
  exact ⟨t, rfl, unhide HT, rfl⟩
set_option maxRecDepth 100000 in
set_option maxHeartbeats 4000000 in
theorem CutPrefix_out (s : ByteArray) (w : World) (hs : s.size ≤ 1000000) (hp : Lib.hasPrefix s.data.toList [99, 97, 108, 108, 32] = false) :
    Calls Tryz.prog 26 #[.string s, .string ⟨#[99, 97, 108, 108, 32]⟩] w fun e w' => e = .returned (.tuple #[.string s, .bool false]) ∧ w' = w := by
  have HH := hide (Tryz.stringslite_HasPrefix s ⟨#[99, 97, 108, 108, 32]⟩ w)
  rw [show Lib.hasPrefix s.data.toList (⟨#[99, 97, 108, 108, 32]⟩ : ByteArray).data.toList = false from hp] at HH
  have HC : Hid (Calls Tryz.prog 45 #[.string s, .string ⟨#[99, 97, 108, 108, 32]⟩] w fun e w' => e = .returned (.tuple #[.string s, .bool false]) ∧ w' = w) := hide (by
    clear hp
    go_enter Tryz.func45, Tryz.ntmps45
    go_wp2_with fail
    refine (unhide HH).mono ?_
    rintro e w1 ⟨rfl, rfl⟩
    go_wp2
    go_ret2
    exact ⟨rfl, rfl⟩)
  clear hp HH
  go_enter Tryz.func26, Tryz.ntmps26
  go_wp2_with fail
  refine (unhide HC).mono ?_
  rintro e w1 ⟨rfl, rfl⟩
  clear HC
  go_wp2
  go_ret2
  exact ⟨rfl, rfl⟩

/-- Words one behind the other, in a row of their own. -/
theorem strV_get {l : List (List UInt8)} {j : Nat} {x : List UInt8} (h : l[j]? = some x) : (strV l)[j]? = some (.string (B x)) := by unfold strV; rw [List.getElem?_map, h]; rfl
theorem words_row {w : World} {N n c : Nat} {a : Option Addr} {l : List (List UInt8)} (h : w.ownsRow N 9 1 (.slice a n c) n (strV l)) (hn : 0 < n) : ∃ g, a = some ⟨g, 0, none⟩ ∧ g < w.heap.size ∧ N ≤ g ∧ n ≤ c ∧ ∀ (j : Nat) (x : List UInt8), l[j]? = some x → w.cell? ⟨g, j, none⟩ = some (.string (B x)) := by
  obtain ⟨g, cap, e, _⟩ := World.ownsRow.form h hn
  cases e
  have hl := h.lt g rfl
  refine ⟨g, rfl, hl.2, hl.1, row_cap h, fun j x hx => ?_⟩
  have := World.ownsRow.cells (v := .slice (some ⟨g, 0, none⟩) n c) h (g := g) rfl j _ (strV_get hx)
  rw [addr_add, Nat.zero_add] at this
  exact this
theorem cmdL_in {l : List UInt8} (h : Lib.hasPrefix l [99, 97, 108, 108, 32] = true) : cmdL l = cmdC (l.drop 5) := by unfold cmdL; rw [if_pos h]
theorem cmdL_out {l : List UInt8} (h : Lib.hasPrefix l [99, 97, 108, 108, 32] = false) : cmdL l = cmdW (wordsN 4 l) := by unfold cmdL; rw [if_neg (by rw [h]; decide)]

set_option maxRecDepth 100000 in
set_option maxHeartbeats 8000000 in
theorem obey_any {N : Nat} {w u : World} {D W : Nat} {own : List Nat} {bs : List UInt8} {A : AW} (h : DN N w own D W bs A u) (s : ByteArray) (hs : s.size ≤ 1000000) (hl : bs.length ≤ 800000000) :
    Calls Tryz.prog 17 #[.pointer (some ⟨D, 0, none⟩), .string s] u fun e w' => e = .returned (.tuple #[]) ∧ DN N w own D W (bs ++ told A (cmd s)) (went A (cmd s)) w' := by
  cases hp : Lib.hasPrefix s.data.toList [99, 97, 108, 108, 32] with
  | true =>
    have HC := hide (CutPrefix_in s u hs hp)
    have HD : Hid (∀ t : ByteArray, t.data.toList = s.data.toList.drop 5 → Calls Tryz.prog 27 #[.pointer (some ⟨D, 0, none⟩), .string t] u fun e w' => e = .returned (.tuple #[]) ∧ DN N w own D W (bs ++ told A (cmd s)) (went A (cmd s)) w') := hide fun t ht => by
      have := dcall_any h t (by rw [← bsize, ht, List.length_drop, bsize]; omega) hl
      rw [ht] at this
      rwa [show cmd s = cmdC (s.data.toList.drop 5) from cmdL_in hp]
    generalize told A (cmd s) = T1 at *
    generalize went A (cmd s) = T2 at *
    clear h hs hl hp
    go_enter Tryz.func17, Tryz.ntmps17
    go_wp2_with fail
    refine (unhide HC).mono ?_
    rintro e w1 ⟨t, rfl, ht, rfl⟩
    have HT := hide ht
    clear ht HC
    go_wp2_with fail
    refine ((unhide HD) t (unhide HT)).mono ?_
    rintro e w2 ⟨rfl, hd2⟩
    have HD2 := hide hd2
    clear hd2
    go_wp2
    ((try simp only [Exit.inBlock, Exit.then]); refine bodyPost_ret (results_none rfl _ _ _) rfl ?_)
    exact ⟨rfl, unhide HD2⟩
  | false =>
    have HC := hide (CutPrefix_out s u hs hp)
    have HWD := hide (words_any s u h.gw hs)
    have hce : cmd s = cmdW (wordsN 4 s.data.toList) := cmdL_out hp
    have hws : ∀ x, x ∈ wordsN 4 s.data.toList → x.length ≤ 1000000 := fun x hx => by
      have := wordsN_size 4 _ x hx
      rw [bsize] at this
      omega
    rw [hce]
    generalize wordsN 4 s.data.toList = ws at *
    have HH := hide h
    have HBL := hide hl
    have HWS := hide hws
    clear h hs hl hp hce hws
    go_enter Tryz.func17, Tryz.ntmps17
    go_wp2_with fail
    refine (unhide HC).mono ?_
    rintro e w1 ⟨rfl, rfl⟩
    clear HC
    go_wp2_with fail
    --@B1@
    refine (unhide HWD).mono ?_
    rintro e w2 ⟨a, n, c, rfl, hn, hrow, b2⟩
    have HB2 := hide b2
    have HROW := hide hrow
    clear b2 HWD hrow
    cases ws with
    | nil =>
      obtain rfl : n = 0 := by simpa using hn.symm
      have HD2 : Hid (DN N w own D W (bs ++ told A (cmdW [])) (went A (cmdW [])) w2) := hide (by
        have := (unhide HH).after (unhide HB2)
        show DN _ _ _ _ _ (bs ++ []) A _
        rw [List.append_nil]
        exact this)
      go_wp2
      --@B2@
      go_end0
      exact ⟨rfl, unhide HD2⟩
    | cons wd bh =>
      have hn1 : 0 < n := by rw [← hn]; simp
      have hnb : bh.length = n - 1 := by rw [← hn]; simp
      obtain ⟨g, rfl, hgl, hgN, hcap, hcl⟩ := words_row (unhide HROW) hn1
      have hc0 := hcl 0 wd rfl
      have HF : Hid (∀ (a' : Option Addr) (c' : Nat) (W' : World), (0 < n - 1 → a' = some ⟨g, 1, none⟩) → Below w2.heap.size w2 W' → Calls Tryz.prog 29 #[.pointer (some ⟨D, 0, none⟩), .string (B wd), .slice a' (n - 1) c'] W' fun e w' => e = .returned (.tuple #[]) ∧ DN N w own D W (bs ++ told A (cmdW (wd :: bh))) (went A (cmdW (wd :: bh))) w' ∧ True) := hide fun a' c' W' ha hb => by
        have hd := ((unhide HH).after (unhide HB2)).after hb
        refine (follow_any hd wd a' (n - 1) c' bh ⟨hnb, fun h0 => ⟨g, 1, ha h0, fun j x hx => ?_⟩⟩ (fun x hx => (unhide HWS) x (List.mem_cons_of_mem _ hx)) (unhide HBL)).mono ?_
        · have := hcl (j + 1) x (by simpa using hx)
          rw [Nat.add_comm 1 j]
          exact (hb.cell (ln_lt this)).trans this
        · rintro e w' ⟨rfl, hd2⟩
          exact ⟨rfl, hd2, trivial⟩
      clear hcl hn hnb
      have hc1 : (1 : Int) ≤ (c : Int) := by omega
      have hn1' : (0 : Int) < (n : Int) := by omega
      have hn2 : (1 : Int) ≤ (n : Int) := by omega
      by_cases hcc : c = 1
      · obtain rfl : n = 1 := by omega
        subst hcc
        go_wp2_with fail
        --@C1@
        go_region_law (first | (go_simp; go_at_call 29; refine ((unhide HF) _ _ _ (fun h => absurd h (by omega)) (Below.refl _ _).drew).mono ?_; rintro e w3 ⟨rfl, hd3, _⟩; have HD3 := hide hd3; clear hd3))
        --@C2@
        go_wp2
        go_end0
        exact ⟨rfl, unhide HD3⟩
      · have hcc2 : ¬ (c : Int) = 1 := by omega
        have hcc3 : (1 : Int) < (c : Int) := by omega
        go_wp2_with fail
        --@D1@
        go_region_law (first | (go_simp; go_at_call 29; refine ((unhide HF) _ _ _ (fun _ => rfl) (Below.refl _ _).drew).mono ?_; rintro e w3 ⟨rfl, hd3, _⟩; have HD3 := hide hd3; clear hd3))
        --@D2@
        go_wp2
        go_end0
        exact ⟨rfl, unhide HD3⟩
end Go.Proofs.YtffgolanmaenfacGreatDoor

namespace Go.Proofs.YtffgolanmaenfacGreatDoor
open Go.RowKit
set_option linter.unusedSimpArgs false
set_option linter.unusedVariables false

/-- A desk between two Do: nothing is told yet. -/
def DR (N : Nat) (w : World) (D : Nat) (own : List Nat) (A : AW) : Prop := ∃ W p v o, own = down D W v o ∧ DS N w D W p v o [] A
theorem DR.kept {N : Nat} {w w' : World} {D : Nat} {own ow : List Nat} {A : AW} (h : DR N w D own A) (hk : Kept ow w w') (hd : ∀ k, k ∈ own → k ∉ ow) : DR N w' D own A := by
  obtain ⟨W, p, v, o, rfl, hs⟩ := h
  exact ⟨W, p, v, o, rfl, hs.kept hk hd⟩
theorem DR.ge {N : Nat} {w : World} {D : Nat} {own : List Nat} {A : AW} (h : DR N w D own A) : ∀ k, k ∈ own → N ≤ k ∧ k < w.heap.size := by
  obtain ⟨W, p, v, o, rfl, hs⟩ := h
  exact hs.ge
set_option maxRecDepth 100000 in
set_option maxHeartbeats 4000000 in
theorem dNew_any (w : World) :
    Calls Tryz.prog 7 #[] w fun e w' => ∃ D own, e = .returned (.pointer (some ⟨D, 0, none⟩)) ∧ DR w.heap.size w' D own AW.start ∧ Below w.heap.size w w' := by
  have HN := hide (WNew_any w)
  go_enter Tryz.func7, Tryz.ntmps7
  go_wp2_with fail
  refine (unhide HN).mono ?_
  rintro e w1 ⟨W, o, rfl, hr, b1⟩
  have HR := hide hr
  have HB1 := hide b1
  clear hr b1 HN
  go_wp2
  --@A1@
  go_ret
  have hb2 : Below w1.heap.size w1 (w1.alloc (.cells (dF W (.pointer none) (.slice none 0 0)) 46)) := (Below.refl _ _).alloc (Nat.le_refl _) _
  refine ⟨w1.heap.size, down w1.heap.size W (.slice none 0 0) o, rfl, ⟨W, .pointer none, .slice none 0 0, o, rfl, ⟨(unhide HB1).size, Or.inl rfl, heap_alloc_new _ _, World.ownsRowF_nil _ _ _ _, by simp [Value.ownBlock]⟩, (unhide HR).below hb2, fun k hk hm => ?_, DInv.start⟩, (unhide HB1).alloc (unhide HB1).size _⟩
  have h1 := ((unhide HR).all_ge k hm).2
  rcases List.mem_cons.1 hk with rfl | hk
  · omega
  · simp [Value.ownBlock] at hk

/-- A newline in a line. -/
theorem broken_any (x : ByteArray) (w : World) : Calls Tryz.prog 14 #[.string x] w fun e w' => e = .returned (.bool (x.data.toList.contains 10)) ∧ w' = w := by
  have HC := hide (Tryz.strings_Contains_one x 10 w)
  rw [← Lib.contains_iff_indexByte] at HC
  generalize x.data.toList.contains 10 = bq at HC ⊢
  go_enter Tryz.func14, Tryz.ntmps14
  go_wp2_with fail
  refine (unhide HC).mono ?_
  rintro e w1 ⟨rfl, rfl⟩
  clear HC
  go_wp2
  go_ret
  exact ⟨rfl, rfl⟩
/-- The first broken line's number, or -1. -/
def nlI (ls : List ByteArray) : Int := if nlAt ls < ls.length then (nlAt ls : Int) else -1
theorem nl_idx (ls : List ByteArray) : Lib.idxBy (fun _ y => y.data.toList.contains 10) (ls.take ls.length) default = nlI ls := by
  unfold nlI
  split
  · rename_i h
    have h1 := List.findIdx_getElem (w := h)
    refine (Lib.idxBy_hit (fun _ y => y.data.toList.contains 10) ls ls.length (nlAt ls) default h (Nat.le_refl _) ?_ ?_)
    · show ls[nlAt ls]!.data.toList.contains 10 = true
      rw [getElem!_pos ls (nlAt ls) h]
      exact h1
    · intro j hj
      show ls[j]!.data.toList.contains 10 = false
      rw [getElem!_pos ls j (by omega)]
      have := List.not_of_lt_findIdx hj
      simpa using this
  · rename_i h
    refine Lib.idxBy_miss (fun _ y => y.data.toList.contains 10) ls ls.length default (fun j hj => ?_)
    show ls[j]!.data.toList.contains 10 = false
    rw [getElem!_pos ls j hj]
    have hj2 : j < nlAt ls := by omega
    have := List.not_of_lt_findIdx hj2
    simpa using this
theorem nl_any (a : Option Addr) (n c : Nat) (ls : List ByteArray) (w : World) (h : LnAt w a n ls) :
    Calls Tryz.prog 16 #[.slice a n c, .func (.func 14) #[] #[]] w fun e w' => e = .returned (.int .i64 (nlI ls)) ∧ Below w.heap.size w w' := by
  by_cases h0 : n = 0
  · subst h0
    obtain rfl : ls = [] := List.eq_nil_of_length_eq_zero h.1
    refine (Tryz.slices_IndexFunc_empty (α := ByteArray) a c _ w).mono ?_
    rintro e w' ⟨rfl, rfl⟩
    exact ⟨rfl, Below.refl _ _⟩
  · obtain ⟨b, off, rfl, hc⟩ := h.2.2.2 (by omega)
    have hl := h.1
    have hm := h.2.1
    refine (Tryz.slices_IndexFunc (α := ByteArray) (fun x => .string x) (fun x => x.data.toList.contains 10) 14 #[] (enters_of Tryz.func14 (by kernel_rfl) rfl) b off n c ls w (fun W x _ => ?_) (by omega) (by unfold maxLen at hm; omega) (fun j hj => ?_)).mono ?_
    · refine (broken_any x W).mono ?_
      rintro e w' ⟨rfl, rfl⟩
      exact ⟨rfl, 0, rfl⟩
    · rw [getElem!_pos ls j hj]
      exact hc j _ (List.getElem?_eq_getElem hj)
    · rintro e w' ⟨rfl, q, rfl⟩
      rw [← hl, nl_idx]
      exact ⟨rfl, drewN_below _ _⟩
theorem fault_many {ls : List ByteArray} (h : 150 < ls.length) : lnFault ls = (13, -1) := by unfold lnFault; rw [if_pos h]
theorem fault_line {ls : List ByteArray} (h : ¬ 150 < ls.length) (h1 : nlAt ls < ls.length) : lnFault ls = (14, nlI ls) ∧ 0 ≤ nlI ls := by
  unfold lnFault nlI
  rw [if_neg h, if_pos h1, if_pos h1]
  exact ⟨rfl, by omega⟩
set_option maxRecDepth 100000 in
set_option maxHeartbeats 8000000 in
theorem Do_bad (D : Nat) (a : Option Addr) (n cap : Nat) (ls : List ByteArray) (w : World) (hl : LnAt w a n ls) (hf : (lnFault ls).1 ≠ 0) :
    Calls Tryz.prog 9 #[.pointer (some ⟨D, 0, none⟩), .slice a n cap] w fun e w' => e = .returned (.tuple #[.string ⟨#[]⟩, .agg #[.int .i64 (lnFault ls).1, .int .i64 (lnFault ls).2]]) ∧ Below w.heap.size w w' := by
  have hlen := hl.1
  have hmx := hl.2.1
  unfold maxLen at hmx
  obtain ⟨V, hV⟩ : ∃ V, V = w.alloc (.cells #[.int .i64 0, .int .i64 0] 31) := ⟨_, rfl⟩
  have hB0 : Below w.heap.size w V := by rw [hV]; exact (Below.refl _ _).alloc (Nat.le_refl _) _
  have hX : V.heap[w.heap.size]? = some (.cells #[.int .i64 0, .int .i64 0] 31 (0, 0)) := by rw [hV]; exact heap_alloc_new _ _
  by_cases h150 : (150 : Int) < (n : Int)
  · rw [fault_many (by omega)]
    dsimp only
    clear hl hf hlen hX hB0 hV
    go_enter Tryz.func9, Tryz.ntmps9
    go_wp2
    --@A1@
    obtain ⟨⟨z0, z1⟩, _⟩ := twoC (heap_alloc_new w (.cells #[.int .i64 13, .int .i64 (-1)] 31))
    refine bodyPost_ret (v := .tuple #[.string ⟨#[]⟩, .agg #[.int .i64 13, .int .i64 (-1)]]) (by simp [results, Tryz.results9, go_sem, z0, z1]) rfl ?_
    exact ⟨rfl, (Below.refl _ _).alloc (Nat.le_refl _) _⟩
  · have hnl : nlAt ls < ls.length := by
      unfold lnFault at hf
      rw [if_neg (by omega)] at hf
      split at hf
      · assumption
      · exact absurd rfl hf
    obtain ⟨e1, h0⟩ := fault_line (by omega) hnl
    rw [e1]
    dsimp only
    have HIX := hide (nl_any a n cap ls V (hl.below hB0))
    generalize nlI ls = k at *
    have HX := hide hX
    have HB0 := hide hB0
    have HV := hide hV
    clear hl hf hlen hX hB0 hV e1 hnl
    go_enter Tryz.func9, Tryz.ntmps9
    go_wp2_with fail
    --@B1@
    rw [← unhide HV]
    refine (unhide HIX).mono ?_
    rintro e w1 ⟨rfl, b1⟩
    have hX1 := (b1.block _ (elt (unhide HX))).trans (unhide HX)
    have HX1 := hide hX1
    obtain ⟨⟨y0, y1⟩, yf⟩ := twoC hX1
    have yf0 := yf 0
    have yf1 := yf 1
    have HB1 := hide ((unhide HB0).trans (b1.mono (unhide HB0).size))
    clear b1 hX1
    go_wp2
    --@B2@
    have hh := set2_row (x0 := .int .i64 14) (x1 := .int .i64 k) (unhide HX1)
    obtain ⟨⟨z0, z1⟩, _⟩ := twoC hh
    refine bodyPost_ret (v := .tuple #[.string ⟨#[]⟩, .agg #[.int .i64 14, .int .i64 k]]) (by simp [results, Tryz.results9, go_sem, z0, z1]) rfl ?_
    exact ⟨rfl, below_set (below_set (unhide HB1) (Nat.le_refl _)) (Nat.le_refl _)⟩
end Go.Proofs.YtffgolanmaenfacGreatDoor

namespace Go.Proofs.YtffgolanmaenfacGreatDoor
open Go.RowKit
set_option linter.unusedSimpArgs false
set_option linter.unusedVariables false

theorem LnAt.same {w w' : World} {a : Option Addr} {n : Nat} {ls : List ByteArray} (h : LnAt w a n ls) (hs : ∀ ad, a = some ad → 0 < n → w'.heap[ad.block]? = w.heap[ad.block]?) : LnAt w' a n ls := by
  refine ⟨h.1, h.2.1, h.2.2.1, fun h0 => ?_⟩
  obtain ⟨b, off, rfl, hc⟩ := h.2.2.2 h0
  exact ⟨b, off, rfl, fun j x hx => (World.cell?_of_block (w := w) (a := ⟨b, off + j, none⟩) (show w'.heap[b]? = w.heap[b]? from hs ⟨b, off, none⟩ rfl h0)).trans (hc j x hx)⟩
theorem dtell_snoc (A : AW) (ls : List ByteArray) (q : Nat) (x : ByteArray) (h : ls[q]? = some x) : dtell cmd A (ls.take (q + 1)) = dtell cmd A (ls.take q) ++ told (dnext cmd A (ls.take q)) (cmd x) := by
  rw [List.take_add_one, h]
  show dtell cmd A (ls.take q ++ [x]) = _
  rw [dtell_app]
  show _ ++ (_ ++ []) = _
  rw [List.append_nil]
theorem dnext_snoc (A : AW) (ls : List ByteArray) (q : Nat) (x : ByteArray) (h : ls[q]? = some x) : dnext cmd A (ls.take (q + 1)) = went (dnext cmd A (ls.take q)) (cmd x) := by
  rw [List.take_add_one, h]
  show dnext cmd A (ls.take q ++ [x]) = _
  rw [dnext_app]
  rfl
theorem nlI_none {ls : List ByteArray} (h : (lnFault ls).1 = 0) : nlI ls = -1 ∧ ls.length ≤ 150 := by
  have h1 := (fault_zero.1 h).1
  refine ⟨?_, h1⟩
  unfold nlI
  rw [if_neg]
  intro h2
  unfold lnFault at h
  rw [if_neg (by omega), if_pos h2] at h
  dsimp only at h
  omega
set_option maxRecDepth 100000 in
set_option maxHeartbeats 16000000 in
theorem Do_good {N : Nat} {w : World} {D : Nat} {own : List Nat} {A : AW} {a : Option Addr} {n cap : Nat} {ls : List ByteArray} (hG : GN ≤ N) (h : DR N w D own A) (hg : GW w) (hl : LnAt w a n ls) (hl0 : ∀ ad, a = some ad → 0 < n → ad.block ∉ own) (htot : total ls ≤ 9000) (hf : (lnFault ls).1 = 0) :
    Calls Tryz.prog 9 #[.pointer (some ⟨D, 0, none⟩), .slice a n cap] w fun e w' => e = .returned (.tuple #[.string (B (dtell cmd A ls)), .agg #[.int .i64 0, .int .i64 0]]) ∧ ((dtell cmd A ls).length ≤ 1000000000 ∧ ∃ own', DR N w' D own' (dnext cmd A ls) ∧ Next N w w' own own') := by
  obtain ⟨W, p, v, o, hown, hs⟩ := h
  have hlen := hl.1
  obtain ⟨hnl, h150⟩ := nlI_none hf
  obtain ⟨V, hV⟩ : ∃ V, V = w.alloc (.cells #[.int .i64 0, .int .i64 0] 31) := ⟨_, rfl⟩
  have hB0 : Below w.heap.size w V := by rw [hV]; exact (Below.refl _ _).alloc (Nat.le_refl _) _
  have hX : V.heap[w.heap.size]? = some (.cells #[.int .i64 0, .int .i64 0] 31 (0, 0)) := by rw [hV]; exact heap_alloc_new _ _
  have hN : N ≤ w.heap.size := hs.size
  have hbo : w.heap.size ∉ own := fun hm => by rw [hown] at hm; have := (hs.ge _ hm).2; omega
  have HD0 : Hid (DN N V own D W [] A V) := hide ⟨hg.below hB0, hG, p, v, o, hs.below hB0, by rw [hown]; exact Next.of_below _ (Below.refl _ _) (hs.below hB0).size⟩
  have HLN : Hid (∀ bs A' wr, DN N V own D W bs A' wr → LnAt wr a n ls) := hide fun bs A' wr hd => by
    refine (hl.below hB0).same (fun ad e h0 => hd.blk ?_ (hl0 ad e h0))
    obtain ⟨b, off, e2, hc⟩ := (hl.below hB0).2.2.2 h0
    obtain ⟨x, hx⟩ : ∃ x, ls[0]? = some x := ⟨_, List.getElem?_eq_getElem (by rw [hlen]; exact h0)⟩
    rw [e] at e2
    injection e2 with e2
    rw [e2]
    exact ln_lt (hc 0 x hx)
  have HX : Hid (∀ bs A' wr, DN N V own D W bs A' wr → wr.heap[w.heap.size]? = some (.cells #[.int .i64 0, .int .i64 0] 31 (0, 0))) := hide fun bs A' wr hd => (hd.blk (elt hX) hbo).trans hX
  have hdl : ∀ q, q ≤ n → (dtell cmd A (ls.take q)).length ≤ 13500000 := fun q hq => by
    have := DInv.tell cmd_ok hs.i (ls.take q)
    rw [List.length_take] at this
    have h2 : min q ls.length * 90000 ≤ 150 * 90000 := Nat.mul_le_mul_right _ (by omega)
    omega
  have HDL := hide hdl
  have HSZ : Hid (∀ x, x ∈ ls → x.size ≤ 1000000) := hide fun x hx => by have := total_mem hx; omega
  have HIX := hide (nl_any a n cap ls V (hl.below hB0))
  rw [hnl] at HIX
  have HEND : Hid (∀ w5 w6 : World, DN N V own D W [] (dnext cmd A ls) w5 → Kept [w.heap.size] w5 w6 → ∃ own', DR N w6 D own' (dnext cmd A ls) ∧ Next N w w6 own own') := hide fun w5 w6 hd hk => by
    obtain ⟨p5, v5, o5, hd5, hn5⟩ := hd.d
    have hb5 : w.heap.size ∉ down D W v5 o5 := (hn5.keep _ (elt hX) hbo).1
    refine ⟨down D W v5 o5, ⟨W, p5, v5, o5, rfl, hd5.kept hk (fun k hkm hm => ?_)⟩, ?_⟩
    · rw [List.mem_singleton.1 hm] at hkm; exact hb5 hkm
    · exact (((Next.of_below own hB0 hN).trans hn5).setN hN (Nat.le_refl _) hk)
  have HSTR : Hid (∀ bs A' wr, DN N V own D W bs A' wr → Calls Tryz.prog 18 #[.pointer (some ⟨D, 0, none⟩)] wr fun e w' => e = .returned (.string (B bs)) ∧ DN N V own D W bs A' w') := hide fun bs A' wr hd => by
    obtain ⟨p2, v2, o2, hd2, hn2⟩ := hd.d
    refine (EString (dok W) hd2.e).mono ?_
    rintro e w' ⟨rfl, he, hn⟩
    obtain ⟨p3, v3, o3, hd3, hn3⟩ := hd2.wrote ⟨p2, v2, he, hn⟩
    exact ⟨rfl, hd.g, hd.n, p3, v3, o3, hd3, hn2.trans hn3⟩
  have HRES : Hid (∀ bs A' wr, DN N V own D W bs A' wr → Calls Tryz.prog 19 #[.pointer (some ⟨D, 0, none⟩)] wr fun e w' => e = .returned (.tuple #[]) ∧ DN N V own D W [] A' w') := hide fun bs A' wr hd => by
    obtain ⟨p2, v2, o2, hd2, hn2⟩ := hd.d
    refine (EReset (dok W) hd2.e).mono ?_
    rintro e w' ⟨rfl, hT⟩
    obtain ⟨p3, v3, o3, hd3, hn3⟩ := hd2.wrote hT
    exact ⟨rfl, hd.g, hd.n, p3, v3, o3, hd3, hn2.trans hn3⟩
  have HLEN := hide hlen
  have HV := hide hV
  have hn150 : n ≤ 150 := by omega
  have hn151 : ¬ (150 : Int) < (n : Int) := by omega
  clear hs hown hlen hnl h150 hB0 hX hN hbo hl hl0 htot hf hg hG hdl hV
  go_enter Tryz.func9, Tryz.ntmps9
  go_wp2_with fail
  --@A1@
  rw [← unhide HV]
  refine (unhide HIX).mono ?_
  rintro e w1 ⟨rfl, b1⟩
  have HD1 := hide ((unhide HD0).after b1)
  clear b1 HIX HD0
  go_wp2
  --@A2@
  go_loopw [9, 24] (fun _ i wr => ∃ q : Nat, q ≤ n ∧ i = .int .i64 (q : Int) ∧ Hid (DN N V own D W (dtell cmd A (ls.take q)) (dnext cmd A (ls.take q)) wr)) (fun _ i _ => n - (intOf i).toNat)
  case atStart => exact ⟨0, Nat.zero_le _, rfl, unhide HD1⟩
  case round =>
    obtain ⟨q, hq, rfl, HDQ⟩ := hrel
    by_cases hlt : (q : Int) < (n : Int)
    · obtain ⟨x, hx⟩ : ∃ x, ls[q]? = some x := ⟨_, List.getElem?_eq_getElem (by rw [unhide HLEN]; omega)⟩
      obtain ⟨b, off, rfl, hcl⟩ := ((unhide HLN) _ _ _ (unhide HDQ)).2.2.2 (by omega)
      have hcx := hcl q x hx
      have HOB := hide (obey_any (unhide HDQ) x ((unhide HSZ) x (List.mem_of_getElem? hx)) (by have := (unhide HDL) q hq; omega))
      rw [← dtell_snoc A ls q x hx, ← dnext_snoc A ls q x hx] at HOB
      have hbl : b < wr.heap.size := ln_lt hcx
      clear hcl hx
      go_wp2_with fail
      --@A3@
      refine (unhide HOB).mono ?_
      rintro e w2 ⟨rfl, hd2⟩
      have HD2 := hide hd2
      clear hd2 HOB hcx
      go_wp2
      go_roundw
      case rel => exact ⟨q + 1, by omega, by go_num, unhide HD2⟩
      case measure => simp [intOf]; omega
    · obtain rfl : q = n := by omega
      have hdl := (unhide HDL) q (Nat.le_refl _)
      have hdq := unhide HDQ
      rw [List.take_of_length_le (by rw [unhide HLEN]; omega)] at hdq hdl
      have HS := hide ((unhide HSTR) _ _ _ hdq)
      have HLD := hide hdl
      clear hdq hdl HDQ
      go_wp2_with fail
      --@B1@
      refine (unhide HS).mono ?_
      rintro e w3 ⟨rfl, hd3⟩
      have HR := hide ((unhide HRES) _ _ _ hd3)
      clear hd3 HS
      go_wp2_with fail
      --@B2@
      refine (unhide HR).mono ?_
      rintro e w4 ⟨rfl, hd4⟩
      have hX4 := (unhide HX) _ _ _ hd4
      obtain ⟨⟨y0, y1⟩, yf⟩ := twoC hX4
      have yf0 := yf 0
      have yf1 := yf 1
      have HX4 := hide hX4
      have HD4 := hide hd4
      clear hd4 HR hX4
      go_wp2
      --@B3@
      obtain ⟨⟨z0, z1⟩, _⟩ := twoC (set2_row (x0 := .int .i64 0) (x1 := .int .i64 0) (unhide HX4))
      refine bodyPost_ret (v := .tuple #[.string (B (dtell cmd A ls)), .agg #[.int .i64 0, .int .i64 0]]) (by simp [results, Tryz.results9, go_sem, z0, z1]) rfl ?_
      refine ⟨rfl, by have := unhide HLD; omega, (unhide HEND) w4 _ (unhide HD4) ?_⟩
      exact (ekept_set _ _ _ _).trans (ekept_set _ _ _ _) (fun x hx => Or.inl hx)
end Go.Proofs.YtffgolanmaenfacGreatDoor

namespace Go.Proofs.YtffgolanmaenfacGreatDoor
open Go.RowKit
set_option linter.unusedSimpArgs false
set_option linter.unusedVariables false

def begL : List ByteArray := [⟨#[99, 97, 108, 108, 32, 48, 32, 109, 97, 107, 101, 32, 97]⟩, ⟨#[115, 101, 110, 100, 32, 48]⟩, ⟨#[112, 97, 99, 107, 101, 116, 115]⟩, ⟨#[116, 101, 97, 114, 32, 48, 32, 52]⟩, ⟨#[99, 97, 108, 109]⟩, ⟨#[99, 97, 108, 108, 32, 48, 32, 97, 112, 112, 101, 110, 100, 32, 97, 32, 120, 32, 121]⟩, ⟨#[99, 97, 108, 109]⟩, ⟨#[108, 111, 103]⟩, ⟨#[116, 104, 101, 110, 32, 50]⟩, ⟨#[100, 111, 110, 101, 32, 48]⟩, ⟨#[120]⟩]
def begT : List UInt8 := [111, 107, 10, 111, 107, 10, 99, 97, 108, 108, 32, 48, 32, 49, 32, 109, 97, 107, 101, 32, 97, 10, 101, 110, 100, 10, 111, 107, 10, 99, 97, 108, 109, 32, 49, 10, 111, 107, 10, 99, 97, 108, 109, 32, 49, 10, 48, 32, 49, 32, 109, 97, 107, 101, 32, 97, 58, 32, 111, 107, 10, 48, 32, 50, 32, 97, 112, 112, 101, 110, 100, 32, 97, 32, 120, 32, 121, 58, 32, 111, 107, 10, 101, 110, 100, 10, 97, 61, 120, 32, 121, 10, 101, 110, 100, 10, 48, 32, 49, 32, 109, 97, 107, 101, 32, 97, 58, 32, 111, 107, 10, 48, 32, 50, 32, 97, 112, 112, 101, 110, 100, 32, 97, 32, 120, 32, 121, 58, 32, 111, 107, 10, 101, 110, 100, 10, 119, 104, 97, 116, 10]
set_option maxRecDepth 1000000 in
theorem beg_tell : dtell cmd AW.start begL = begT := by kernel_rfl
theorem beg_fault : (lnFault begL).1 = 0 := by kernel_rfl
theorem beg_total : total begL ≤ 9000 := by decide
theorem beg_cells (j : Nat) (x : ByteArray) (h : begL[j]? = some x) : (#[.string ⟨#[99, 97, 108, 108, 32, 48, 32, 109, 97, 107, 101, 32, 97]⟩, .string ⟨#[115, 101, 110, 100, 32, 48]⟩, .string ⟨#[112, 97, 99, 107, 101, 116, 115]⟩, .string ⟨#[116, 101, 97, 114, 32, 48, 32, 52]⟩, .string ⟨#[99, 97, 108, 109]⟩, .string ⟨#[99, 97, 108, 108, 32, 48, 32, 97, 112, 112, 101, 110, 100, 32, 97, 32, 120, 32, 121]⟩, .string ⟨#[99, 97, 108, 109]⟩, .string ⟨#[108, 111, 103]⟩, .string ⟨#[116, 104, 101, 110, 32, 50]⟩, .string ⟨#[100, 111, 110, 101, 32, 48]⟩, .string ⟨#[120]⟩] : Array Value)[j]? = some (.string x) := by
  match j, h with
  | 0, h => simp [begL] at h; subst h; rfl
  | 1, h => simp [begL] at h; subst h; rfl
  | 2, h => simp [begL] at h; subst h; rfl
  | 3, h => simp [begL] at h; subst h; rfl
  | 4, h => simp [begL] at h; subst h; rfl
  | 5, h => simp [begL] at h; subst h; rfl
  | 6, h => simp [begL] at h; subst h; rfl
  | 7, h => simp [begL] at h; subst h; rfl
  | 8, h => simp [begL] at h; subst h; rfl
  | 9, h => simp [begL] at h; subst h; rfl
  | 10, h => simp [begL] at h; subst h; rfl
  | j + 11, h => simp [begL] at h
theorem beg_lines {w : World} {g : Nat} {t : TypeId} {fr : Nat × Nat} (h : w.heap[g]? = some (.cells #[.string ⟨#[99, 97, 108, 108, 32, 48, 32, 109, 97, 107, 101, 32, 97]⟩, .string ⟨#[115, 101, 110, 100, 32, 48]⟩, .string ⟨#[112, 97, 99, 107, 101, 116, 115]⟩, .string ⟨#[116, 101, 97, 114, 32, 48, 32, 52]⟩, .string ⟨#[99, 97, 108, 109]⟩, .string ⟨#[99, 97, 108, 108, 32, 48, 32, 97, 112, 112, 101, 110, 100, 32, 97, 32, 120, 32, 121]⟩, .string ⟨#[99, 97, 108, 109]⟩, .string ⟨#[108, 111, 103]⟩, .string ⟨#[116, 104, 101, 110, 32, 50]⟩, .string ⟨#[100, 111, 110, 101, 32, 48]⟩, .string ⟨#[120]⟩] t fr)) : LnAt w (some ⟨g, 0, none⟩) 11 begL :=
  ⟨rfl, by decide, fun x hx => by have h1 := total_mem hx; have h2 := beg_total; omega, fun _ => ⟨g, 0, rfl, fun j x hx => by
    rw [Lib.cell_of_heap h, Nat.zero_add]
    exact beg_cells j x hx⟩⟩
set_option maxRecDepth 100000 in
set_option maxHeartbeats 8000000 in
theorem deskBegun_any (w : World) (hg : GW w) :
    Calls Tryz.prog 5 #[] w fun e w' => e = .returned (.bool true) ∧ Below w.heap.size w w' := by
  have HN := hide (dNew_any w)
  have HG := hide hg
  clear hg
  go_enter Tryz.func5, Tryz.ntmps5
  go_wp2_with fail
  --@A1@
  refine (unhide HN).mono ?_
  rintro e w1 ⟨D, own, rfl, hd, b1⟩
  have HB1 := hide b1
  obtain ⟨V, hV⟩ : ∃ V, V = w1.alloc (.cells #[.string ⟨#[99, 97, 108, 108, 32, 48, 32, 109, 97, 107, 101, 32, 97]⟩, .string ⟨#[115, 101, 110, 100, 32, 48]⟩, .string ⟨#[112, 97, 99, 107, 101, 116, 115]⟩, .string ⟨#[116, 101, 97, 114, 32, 48, 32, 52]⟩, .string ⟨#[99, 97, 108, 109]⟩, .string ⟨#[99, 97, 108, 108, 32, 48, 32, 97, 112, 112, 101, 110, 100, 32, 97, 32, 120, 32, 121]⟩, .string ⟨#[99, 97, 108, 109]⟩, .string ⟨#[108, 111, 103]⟩, .string ⟨#[116, 104, 101, 110, 32, 50]⟩, .string ⟨#[100, 111, 110, 101, 32, 48]⟩, .string ⟨#[120]⟩] 9) := ⟨_, rfl⟩
  have hB : Below w1.heap.size w1 V := by rw [hV]; exact (Below.refl _ _).alloc (Nat.le_refl _) _
  have hX : V.heap[w1.heap.size]? = some (.cells #[.string ⟨#[99, 97, 108, 108, 32, 48, 32, 109, 97, 107, 101, 32, 97]⟩, .string ⟨#[115, 101, 110, 100, 32, 48]⟩, .string ⟨#[112, 97, 99, 107, 101, 116, 115]⟩, .string ⟨#[116, 101, 97, 114, 32, 48, 32, 52]⟩, .string ⟨#[99, 97, 108, 109]⟩, .string ⟨#[99, 97, 108, 108, 32, 48, 32, 97, 112, 112, 101, 110, 100, 32, 97, 32, 120, 32, 121]⟩, .string ⟨#[99, 97, 108, 109]⟩, .string ⟨#[108, 111, 103]⟩, .string ⟨#[116, 104, 101, 110, 32, 50]⟩, .string ⟨#[100, 111, 110, 101, 32, 48]⟩, .string ⟨#[120]⟩] 9 (0, 0)) := by rw [hV]; exact heap_alloc_new _ _
  have HDO := hide (Do_good (cap := 11) (unhide HG).1 (hd.kept (ow := []) (Kept.of_below hB) (by simp)) (((unhide HG).below b1).below hB) (beg_lines hX) (fun ad e _ hm => by injection e with e; rw [← e] at hm; have := (hd.ge _ hm).2; exact absurd this (Nat.lt_irrefl _)) beg_total beg_fault)
  rw [beg_tell] at HDO
  have HBV : Hid (Below w.heap.size w V) := hide (b1.trans (hB.mono b1.size))
  have HV := hide hV
  clear hd b1 hB hX hV HN
  go_wp2_with fail
  --@A2@
  rw [← unhide HV]
  refine (unhide HDO).mono ?_
  rintro e w2 ⟨rfl, _, own2, hd2, hn2⟩
  have HB2 := hide ((unhide HBV).trans hn2.below)
  obtain ⟨T, hT⟩ : ∃ T, B begT = T := ⟨_, rfl⟩
  rw [hT]
  have hTd : T.toList = begT := by rw [← hT, Lib.toList_data, B_data]
  clear hd2 hn2 HDO hT
  go_wp2
  --@A3@
  go_ret
  refine ⟨?_, (unhide HB2).alloc (unhide HB2).size _⟩
  show Ending.returned (Value.bool _) = _
  congr 2
end Go.Proofs.YtffgolanmaenfacGreatDoor

namespace Go.Proofs.YtffgolanmaenfacGreatDoor
open Go.RowKit
set_option linter.unusedSimpArgs false
set_option linter.unusedVariables false

def i3 (f : Nat → Nat) : Array Value := #[.int .i64 (f 0 : Int), .int .i64 (f 1 : Int), .int .i64 (f 2 : Int)]
section
variable {N : Nat} {w w' : World} {W : Nat} {o o2 : WOwn} {A A2 : AW} {fr fr' : Nat → Nat} {FB : Nat}
end
end Go.Proofs.YtffgolanmaenfacGreatDoor

namespace Go.Proofs.YtffgolanmaenfacGreatDoor
open Go.RowKit
set_option linter.unusedSimpArgs false
set_option linter.unusedVariables false

/-- A number of so many, and one more. -/
theorem rnd_val9 (n : Int) {k : Nat} (hk : 0 < k) (h40 : k ≤ 1000000) : wrap64 (Int.tmod (IntKind.u64.wrap n) (k : Int)) = (rnd n k : Int) := by
  have h0 : 0 ≤ IntKind.u64.wrap n := by rw [wrap_u]; omega
  have hm : Int.tmod (IntKind.u64.wrap n) (k : Int) = (rnd n k : Int) := by
    rw [Int.tmod_eq_emod_of_nonneg h0]
    unfold rnd
    have : (0 : Int) ≤ IntKind.u64.wrap n % (k : Int) := Int.emod_nonneg _ (by omega)
    omega
  have hlt := rnd_lt n hk
  rw [hm]
  unfold wrap64
  omega
end Go.Proofs.YtffgolanmaenfacGreatDoor
