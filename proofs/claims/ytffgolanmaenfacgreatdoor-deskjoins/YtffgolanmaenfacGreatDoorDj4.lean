/- Texts joined, what is needed of them: Sp Sq Sr Rg0 Pa Pb Pc Pd Pe Pf Pg Pi V0 Ka Va Eg Vb Ya La Lb. -/
import Derived.Test.YtffgolanmaenfacGreatDoorDj3
import Derived.Deep.RegionHeld
import Derived.Lib.ItoaNum
namespace Go.Proofs.YtffgolanmaenfacGreatDoor
open Go.RowKit
set_option linter.unusedSimpArgs false
set_option linter.unusedVariables false

theorem STurned.wrap {N : Nat} {w W w1 w2 : World} {S B : Nat} {own : List Nat} {lv : Value} {L L' : List ARec} (h0 : SRep N w S B own lv L) (hb : Below w.heap.size w W) (hT : STurned N W S own lv w1 L') {b : Nat} (hb1 : w.heap.size ≤ b) (hb2 : b < W.heap.size) (hk : Kept [b] w1 w2) (hN : N ≤ w.heap.size) : STurned N w S own lv w2 L' := by
  obtain ⟨B', own', lv', hr, hn⟩ := hT
  have hnb : b ∉ sown S own lv := fun hm => by have := (sown_ge h0 b hm).2; omega
  refine STurned.mk' h0 (hr.kept hk (fun x hx hm => ?_)) (((Kept.of_below (own := sown S own lv) hb).trans hn.kept (fun x hx => .inl hx)).trans hk (fun x hx => .inr (by rw [List.mem_singleton.1 hx]; exact hb1))) hN (fun x hx => ?_)
  · rw [List.mem_singleton.1 hm] at hx
    exact (hn.keep b hb2 hnb).1 hx
  · by_cases h1 : x < w.heap.size
    · by_cases h2 : x ∈ sown S own lv
      · exact .inl h2
      · exact absurd hx (hn.keep x (Nat.lt_of_lt_of_le h1 hb.size) h2).1
    · exact .inr (by omega)

set_option maxRecDepth 100000 in
set_option maxHeartbeats 8000000 in
theorem SCall_new {N : Nat} {w : World} {S B : Nat} {own : List Nat} {lv : Value} {L : List ARec} (h : SRep N w S B own lv L) (cc : Nat) (no k : Int) (a b t : ByteArray) (hs : (logB L).length ≤ 100000) (hN : N ≤ w.heap.size) (ha : a.size ≤ maxLen) (hb : b.size ≤ maxLen) (ht : t.size ≤ maxLen) (hc3 : (cc : Int) < 3) (hr : ¬ ((cc : Int) < 0 ∨ 2 < (cc : Int) ∨ no < 1 ∨ 200 < no)) (hc : checkI ⟨k, a, b, t⟩ = 0) (hch : changesB k = true) (hlt : (lastR L (cc : Int)).no < no) :
    Calls Tryz.prog 215 #[.pointer (some ⟨S, 0, none⟩), .int .i64 (cc : Int), .int .i64 no, .agg #[.int .i64 k, .string a, .string b, .string t]] w (AddRes N w S own lv (aCall L (cc : Int) no ⟨k, a, b, t⟩)) := by
  rw [aCall, if_neg hr, if_neg (by simp [hc]), if_neg (by simp [hch]), if_pos hlt]
  obtain ⟨ok0, ok1, ok2⟩ := new_ok hr hc hch (behind L)
  have HADD := hide (fun W (hW : Below w.heap.size w W) => add_any (h.below hW) cc no k a b t hs (by omega) (Nat.le_trans hN hW.size) ok0 ok1 ok2)
  generalize (if 2000 < (logB L).length + (encL ⟨(cc : Int), no, ⟨k, a, b, t⟩, 0, ⟨#[]⟩⟩).length then (⟨0, ⟨#[]⟩, 7, L⟩ : CRes)
     else ⟨(aDo (behind L) ⟨k, a, b, t⟩).code, (aDo (behind L) ⟨k, a, b, t⟩).text, 0, L ++ [⟨(cc : Int), no, ⟨k, a, b, t⟩, (aDo (behind L) ⟨k, a, b, t⟩).code, (aDo (behind L) ⟨k, a, b, t⟩).text⟩]⟩) = RR at HADD ⊢
  obtain ⟨rcode, rtext, rerr, rlog⟩ := RR
  clear ok0 ok1 ok2

  have HCC := hide (fun W => cCheck_any (cc : Int) no k a b t 0 ⟨#[]⟩ W ha hb ht)
  have HFC := hide (fun W => Check_any k a b t W ha hb ht)
  have HCH := hide (fun W => Changes_any k W)
  have HH := hide h
  have hSl := h.lt
  have hVK : ∀ W, Below (w.heap.size + 3) (((w.alloc (.cells #[.int .i64 k, .string a, .string b, .string t] 70)).alloc (.cells #[.int .i64 0, .string ⟨#[]⟩] 100)).alloc (.cells #[.int .i64 (cc : Int), .int .i64 no, .int .i64 k, .string a, .string b, .string t, .int .i64 0, .string ⟨#[]⟩] 111)) W → W.heap[w.heap.size]? = some (.cells #[.int .i64 k, .string a, .string b, .string t] 70 (0, 0)) ∧ W.heap[w.heap.size + 1]? = some (.cells #[.int .i64 0, .string ⟨#[]⟩] 100 (0, 0)) ∧ W.heap[w.heap.size + 2]? = some (.cells #[.int .i64 (cc : Int), .int .i64 no, .int .i64 k, .string a, .string b, .string t, .int .i64 0, .string ⟨#[]⟩] 111 (0, 0)) ∧ Below w.heap.size w W ∧ w.heap.size + 3 ≤ W.heap.size := fun W hW => by
    have c0 : (((w.alloc (.cells #[.int .i64 k, .string a, .string b, .string t] 70)).alloc (.cells #[.int .i64 0, .string ⟨#[]⟩] 100)).alloc (.cells #[.int .i64 (cc : Int), .int .i64 no, .int .i64 k, .string a, .string b, .string t, .int .i64 0, .string ⟨#[]⟩] 111)).heap[w.heap.size]? = some (.cells #[.int .i64 k, .string a, .string b, .string t] 70 (0, 0)) := (Below.heap_alloc _ _ _ (by simp; omega)).trans ((Below.heap_alloc _ _ _ (by simp)).trans (heap_alloc_new w _))
    have c1 : (((w.alloc (.cells #[.int .i64 k, .string a, .string b, .string t] 70)).alloc (.cells #[.int .i64 0, .string ⟨#[]⟩] 100)).alloc (.cells #[.int .i64 (cc : Int), .int .i64 no, .int .i64 k, .string a, .string b, .string t, .int .i64 0, .string ⟨#[]⟩] 111)).heap[w.heap.size + 1]? = some (.cells #[.int .i64 0, .string ⟨#[]⟩] 100 (0, 0)) := by
      have h := heap_alloc_new (w.alloc (.cells #[.int .i64 k, .string a, .string b, .string t] 70)) (.cells #[.int .i64 0, .string ⟨#[]⟩] 100)
      rw [show (w.alloc (.cells #[.int .i64 k, .string a, .string b, .string t] 70)).heap.size = w.heap.size + 1 by simp] at h
      exact (Below.heap_alloc _ _ _ (by simp)).trans h
    have c2 : (((w.alloc (.cells #[.int .i64 k, .string a, .string b, .string t] 70)).alloc (.cells #[.int .i64 0, .string ⟨#[]⟩] 100)).alloc (.cells #[.int .i64 (cc : Int), .int .i64 no, .int .i64 k, .string a, .string b, .string t, .int .i64 0, .string ⟨#[]⟩] 111)).heap[w.heap.size + 2]? = some (.cells #[.int .i64 (cc : Int), .int .i64 no, .int .i64 k, .string a, .string b, .string t, .int .i64 0, .string ⟨#[]⟩] 111 (0, 0)) := by
      have h := heap_alloc_new ((w.alloc (.cells #[.int .i64 k, .string a, .string b, .string t] 70)).alloc (.cells #[.int .i64 0, .string ⟨#[]⟩] 100)) (.cells #[.int .i64 (cc : Int), .int .i64 no, .int .i64 k, .string a, .string b, .string t, .int .i64 0, .string ⟨#[]⟩] 111)
      rw [show ((w.alloc (.cells #[.int .i64 k, .string a, .string b, .string t] 70)).alloc (.cells #[.int .i64 0, .string ⟨#[]⟩] 100)).heap.size = w.heap.size + 2 by simp] at h
      exact h
    have c4 : Below w.heap.size w (((w.alloc (.cells #[.int .i64 k, .string a, .string b, .string t] 70)).alloc (.cells #[.int .i64 0, .string ⟨#[]⟩] 100)).alloc (.cells #[.int .i64 (cc : Int), .int .i64 no, .int .i64 k, .string a, .string b, .string t, .int .i64 0, .string ⟨#[]⟩] 111)) := (((Below.refl w.heap.size w).alloc (Nat.le_refl _) _).alloc (by simp) _).alloc (by simp; omega) _
    refine ⟨(hW.block _ (by omega)).trans c0, (hW.block _ (by omega)).trans c1, (hW.block _ (by omega)).trans c2, c4.trans (hW.mono (by omega)), ?_⟩
    have := hW.size; simp at this; omega
  have HVK := hide hVK
  clear hVK
  have h9 : recI ⟨(cc : Int), no, ⟨k, a, b, t⟩, 0, ⟨#[]⟩⟩ ≠ 9 := fun h => hr (recI_range.1 h)
  generalize recI ⟨(cc : Int), no, ⟨k, a, b, t⟩, 0, ⟨#[]⟩⟩ = rr at HCC h9
  have h9b : (rr == 9) = false := by simpa using h9
  rw [hc] at HFC
  rw [hch] at HCH
  have hc3' : cc < 3 := by omega
  obtain ⟨lr, hlr⟩ : ∃ r, r = lastR L (cc : Int) := ⟨_, rfl⟩
  rw [← hlr] at hlt

  have HLS : Hid (∀ W, Below w.heap.size w W → RecAt W S (2 + cc * 8) lr) := fun W hW => by rw [hlr]; exact ((h.below hW).last cc hc3')
  clear h h9 hch hlr hr
  obtain ⟨lc, ln, ⟨lk, la, lb, lt⟩, ld, lu⟩ := lr
  dsimp only [callCells] at *
  have hgt : ln < no := hlt
  clear hlt

  go_enter Tryz.func215, Tryz.ntmps215
  go_wp2_with fail
  refine ((unhide HCC) _).mono ?_
  rintro e w1 ⟨rfl, b1⟩
  have HB1 : Hid (Below (w.heap.size + 3) (((w.alloc (.cells #[.int .i64 k, .string a, .string b, .string t] 70)).alloc (.cells #[.int .i64 0, .string ⟨#[]⟩] 100)).alloc (.cells #[.int .i64 (cc : Int), .int .i64 no, .int .i64 k, .string a, .string b, .string t, .int .i64 0, .string ⟨#[]⟩] 111)) w1) := b1.mono (by simp)
  obtain ⟨k0, k1, k2, k3, k4⟩ := (unhide HVK) w1 (unhide HB1)
  obtain ⟨⟨x0, x1, x2, x3⟩, _⟩ := four k0
  obtain ⟨⟨z0, z1⟩, fz⟩ := two k1
  obtain ⟨⟨r0, r1, r2, r3⟩, ⟨r4, r5, r6, r7⟩, _⟩ := eight k2
  have HA1 := hide k1
  have HW1 := hide k3
  clear k0 k1 k2 k3
  clear b1

  go_wp2_with fail
  refine ((unhide HFC) _).mono ?_
  rintro e w2 ⟨rfl, b2⟩
  clear x0 x1 x2 x3 z0 z1 fz r0 r1 r2 r3 r4 r5 r6 r7 k4

  have HB2 : Hid (Below (w.heap.size + 3) (((w.alloc (.cells #[.int .i64 k, .string a, .string b, .string t] 70)).alloc (.cells #[.int .i64 0, .string ⟨#[]⟩] 100)).alloc (.cells #[.int .i64 (cc : Int), .int .i64 no, .int .i64 k, .string a, .string b, .string t, .int .i64 0, .string ⟨#[]⟩] 111)) w2) := (unhide HB1).trans (b2.mono (by have := ((unhide HVK) w1 (unhide HB1)).2.2.2.2; omega))
  obtain ⟨k0, k1, k2, k3, k4⟩ := (unhide HVK) w2 (unhide HB2)
  obtain ⟨⟨x0, x1, x2, x3⟩, _⟩ := four k0
  obtain ⟨⟨z0, z1⟩, fz⟩ := two k1
  obtain ⟨⟨r0, r1, r2, r3⟩, ⟨r4, r5, r6, r7⟩, _⟩ := eight k2
  have HA2 := hide k1
  have HW2 := hide k3
  clear k0 k1 k2 k3
  clear b2

  go_wp2_with fail
  refine ((unhide HCH) _).mono ?_
  rintro e w3 ⟨rfl, rfl⟩

  obtain ⟨l0, l1, l2, l3, l4, l5, l6, l7⟩ := (unhide HLS) w3 (unhide HW2)
  have hzw : w.heap.size < w3.heap.size := by omega
  have hzw1 : w.heap.size + 1 < w3.heap.size := by omega
  have hzw2 : w.heap.size + 2 < w3.heap.size := by omega
  dsimp only at l0 l1 l2 l3 l4 l5 l6 l7
  go_wp2_with fail
  obtain ⟨V, hV⟩ : ∃ V, V = w3.alloc (.cells #[.int .i64 lc, .int .i64 ln, .int .i64 lk, .string la, .string lb, .string lt, .int .i64 ld, .string lu] 111) := ⟨_, rfl⟩
  have hbV : Below w.heap.size w V := by rw [hV]; exact (unhide HW2).alloc (unhide HW2).size _
  have hAV : V.heap[w.heap.size + 1]? = some (.cells #[.int .i64 0, .string ⟨#[]⟩] 100 (0, 0)) := by rw [hV]; exact (Below.heap_alloc _ _ _ hzw1).trans (unhide HA2)
  have hzV : w.heap.size + 1 < V.heap.size := by rw [hV]; simp; omega
  rw [← hV]
  refine ((unhide HADD) _ hbV).mono ?_
  rintro e w4 ⟨rfl, hT4⟩
  dsimp only at hT4 ⊢
  have hA4 : w4.heap[w.heap.size + 1]? = some (.cells #[.int .i64 0, .string ⟨#[]⟩] 100 (0, 0)) := by
    obtain ⟨_, _, _, _, hn⟩ := hT4
    exact (hn.keep (w.heap.size + 1) hzV (fun hm => by have := (sown_ge (unhide HH) _ hm).2; omega)).2.trans hAV
  have HA4 := hide hA4
  have HT4 := hide hT4
  have HBV := hide hbV
  obtain ⟨⟨y0, y1⟩, fy⟩ := two hA4
  clear hT4 hbV hV hAV hA4
  go_wp2
  have hb2 := set2_blk (unhide HA4) (.int .i64 rcode) (.string rtext)
  have hk2 := set2_kept w4 (w.heap.size + 1) (.int .i64 rcode) (.string rtext)
  unfold set2 at hb2 hk2

  generalize hw8 : ((w4.setCell ⟨w.heap.size + 1, 0, none⟩ (.int .i64 rcode)).setCell ⟨w.heap.size + 1, 1, none⟩ (.string rtext)) = w99 at hb2 hk2 ⊢
  obtain ⟨⟨p0, p1⟩, _⟩ := two hb2
  refine bodyPost_ret (v := .tuple #[.agg #[.int .i64 rcode, .string rtext], .int .i64 rerr]) (by simp [results, Tryz.results215, go_sem, p0, p1]) rfl ?_
  exact ⟨rfl, (unhide HT4).wrap (unhide HH) (unhide HBV) (by omega) hzV hk2 hN⟩

theorem SCall_any {N : Nat} {w : World} {S B : Nat} {own : List Nat} {lv : Value} {L : List ARec} (h : SRep N w S B own lv L) (client no : Int) (c : ACall) (hs : (logB L).length ≤ 100000) (hN : N ≤ w.heap.size) (ha : c.name.size ≤ maxLen) (hb : c.dst.size ≤ maxLen) (ht : c.text.size ≤ maxLen) :
    Calls Tryz.prog 215 #[.pointer (some ⟨S, 0, none⟩), .int .i64 client, .int .i64 no, .agg #[.int .i64 c.kind, .string c.name, .string c.dst, .string c.text]] w (AddRes N w S own lv (aCall L client no c)) := by
  obtain ⟨k, a, b, t⟩ := c
  dsimp only at ha hb ht ⊢
  by_cases hr : client < 0 ∨ 2 < client ∨ no < 1 ∨ 200 < no
  · exact SCall_range h client no k a b t hs hN ha hb ht hr
  by_cases hc : checkI ⟨k, a, b, t⟩ = 0
  · by_cases hch : changesB k = false
    · exact SCall_ask h client no k a b t hs hN ha hb ht hr hc hch
    have hch : changesB k = true := by simpa using hch
    obtain ⟨cc, rfl⟩ : ∃ cc : Nat, client = (cc : Int) := ⟨client.toNat, by omega⟩
    by_cases hlt : (lastR L (cc : Int)).no < no
    · exact SCall_new h cc no k a b t hs hN ha hb ht (by omega) hr hc hch hlt
    by_cases hcb : no = (lastR L (cc : Int)).no ∧ callB ⟨k, a, b, t⟩ (lastR L (cc : Int)).call = true
    · exact SCall_again h cc no k a b t hs hN ha hb ht (by omega) hr hc hch hcb.1 hcb.2
    · exact SCall_old h cc no k a b t hs hN ha hb ht (by omega) hr hc hch (by omega) hcb
  · exact SCall_code h client no k a b t hs hN ha hb ht hr hc

end Go.Proofs.YtffgolanmaenfacGreatDoor

namespace Go.Proofs.YtffgolanmaenfacGreatDoor
open Go.RowKit
set_option linter.unusedSimpArgs false
set_option linter.unusedVariables false

set_option maxRecDepth 100000 in
set_option maxHeartbeats 4000000 in
/-- Crash, whatever the files and the last records are: all is as Open of the log. -/
theorem Crash_core {N : Nat} {w : World} {S n c : Nat} {C : Array Value} {a : Option Addr} {bs : List UInt8} (hC : w.heap[S]? = some (.cells C 114 (0, 0))) (h26' : C.size = 26) (hc : w.cell? ⟨S, 1, none⟩ = some (.slice a n c)) (hby : ByAt w a bs) (hn : bs.length = n) (hcap : n ≤ c) (hm : n ≤ 1000000) (hnil : a = none → n = 0 ∧ c = 0) (hNS : N ≤ S) (hN : N ≤ w.heap.size) :
    Calls Tryz.prog 130 #[.pointer (some ⟨S, 0, none⟩)] w fun e w' => e = .returned (.tuple #[]) ∧ ∃ B' own' lv', SRep N w' S B' own' lv' (allR bs).1 ∧ Kept [S] w w' ∧ ∀ k, k ∈ sown S own' lv' → k = S ∨ w.heap.size ≤ k := by
  have HOP := hide (Open_any a n c bs w hby hn hcap hm hnil)
  generalize allR bs = al at *
  obtain ⟨L, kk⟩ := al
  have hSl : S < w.heap.size := (Array.getElem?_eq_some_iff.1 hC).1
  clear hby hn hcap hnil
  go_enter Tryz.func130, Tryz.ntmps130
  go_wp2_with fail
  refine (unhide HOP).mono ?_
  rintro e w2 ⟨S2, B2, own2, lv2, rfl, hs2, b2⟩
  dsimp only at hs2 ⊢
  obtain ⟨C2, hC2, hl2⟩ := hs2.blk
  have hSb := (b2.block S hSl).trans hC
  have h26 : C2.size = 26 := by rw [← Array.length_toList, hl2]; rfl
  have hone : C2.all (·.oneCell') = true := by
    rw [Array.all_eq_true_iff_forall_mem]
    intro v hv
    have hv' : v ∈ C2.toList := by simpa using hv
    rw [hl2] at hv'
    obtain ⟨al, cl, rfl⟩ := row_form hs2.log
    simp [sCells, rcells] at hv'
    rcases hv' with rfl | rfl | rfl | rfl | rfl | rfl | rfl | rfl | rfl | rfl | rfl | rfl | rfl | rfl | rfl | rfl | rfl | rfl | rfl | rfl | rfl | rfl | rfl | rfl | rfl | rfl <;> rfl
  have HS2 := hide hs2
  have HB2 := hide b2
  have HL2 := hide hl2
  clear hs2 b2 hl2
  go_wp2_with (first
    | (refine wpList_load_row rfl 114 _ rfl S2 rfl 114 C2 (0, 0) _ hC2 Tryz.underlying114 rfl (by rw [h26]; exact info2073) ?_)
    | (refine wpList_store_row rfl 114 _ _ rfl S C2 rfl rfl 114 C hSb (by rw [h26]; exact info2073) (by rw [h26, h26']) hone ?_))
  refine bodyPost_end (v := .tuple #[]) (by simp [results, Tryz.results130, go_sem]) rfl ?_
  have h2 := unhide HS2
  have hk : Kept [S] w2 (w2.setRow S C2) := ⟨rfl, rfl, rfl, by simp [World.setRow], fun k hk hm => setRow_other w2 S k C2 (fun e => hm (by simp [e]))⟩
  have n1 : S ∉ own2 := fun hm => by have := h2.files.own S hm; omega
  have n2 : lv2.ownBlock ≠ some S := fun e => by have := (h2.log.lt S e).1; omega
  refine ⟨rfl, B2, own2, lv2, ⟨hNS, ⟨C2, setRow_heap w2 S C C2 114 (0, 0) hSb, unhide HL2⟩, ⟨h2.files.rep.keptS hk (fun k hk1 hm => by rw [List.mem_singleton.1 hm] at hk1; exact n1 hk1), h2.files.inv, fun k hk => Nat.le_trans hN (h2.files.own k hk)⟩, ?_, h2.good, n1, n2, h2.lB⟩, ?_, fun k hk => ?_⟩
  · exact ownsRow_base (ownsRow_same h2.log (fun j hj => hk.block j (h2.log.lt j hj).2 (fun hm => n2 (by rw [List.mem_singleton.1 hm] at hj; exact hj)))) hN
  · exact (Kept.of_below (own := [S]) (unhide HB2)).trans hk (fun x hx => .inl hx)
  · rcases List.mem_cons.1 hk with h4 | h4
    · exact .inl h4
    rcases List.mem_append.1 h4 with h4 | h4
    · exact .inr (h2.log.lt k (by simpa using h4)).1
    · exact .inr (h2.files.own k h4)

theorem STurned.around {N : Nat} {w W w1 w2 : World} {S B : Nat} {own : List Nat} {lv : Value} {L L' : List ARec} (hT : STurned N W S own lv w1 L') (h0 : SRep N w S B own lv L) (hb : Below w.heap.size w W) (ha : Below w1.heap.size w1 w2) (hN : N ≤ w.heap.size) : STurned N w S own lv w2 L' := by
  obtain ⟨B', own', lv', hr, hn⟩ := hT
  refine STurned.mk' h0 (hr.below ha) (((Kept.of_below (own := sown S own lv) hb).trans hn.kept (fun x hx => .inl hx)).trans (Kept.of_below (own := []) ha) (by simp)) hN (fun x hx => ?_)
  by_cases h1 : x < w.heap.size
  · by_cases h2 : x ∈ sown S own lv
    · exact .inl h2
    · exact absurd hx (hn.keep x (Nat.lt_of_lt_of_le h1 hb.size) h2).1
  · exact .inr (by omega)
theorem aCall_came' {L : List ARec} (hL : Good L) (client no : Int) (c : ACall) :
    (aCall L client no c).log = L ∨ (aCall L client no c).err = 0 ∧ ∃ r, (aCall L client no c).log = L ++ [r] ∧ recI r = 0 := by
  rcases aCall_log L client no c with h | ⟨h0, _, r, h1, h2⟩
  · exact .inl h
  · exact .inr ⟨h0, r, h1, aCall_good hL client no c r (by rw [h1]; simp)⟩

set_option maxRecDepth 100000 in
set_option maxHeartbeats 8000000 in
theorem STear_any {N : Nat} {w : World} {S B : Nat} {own : List Nat} {lv : Value} {L : List ARec} (h : SRep N w S B own lv L) (client no keep : Int) (c : ACall) (hs : (logB L).length ≤ 2000) (hN : N ≤ w.heap.size) (ha : c.name.size ≤ maxLen) (hb : c.dst.size ≤ maxLen) (ht : c.text.size ≤ maxLen) :
    Calls Tryz.prog 198 #[.pointer (some ⟨S, 0, none⟩), .int .i64 client, .int .i64 no, .agg #[.int .i64 c.kind, .string c.name, .string c.dst, .string c.text], .int .i64 keep] w fun e w' => e = .returned (.int .i64 (aTear L client no c keep).1) ∧ STurned N w S own lv w' (aTear L client no c keep).2 := by
  have HCC := hide (fun W (hW : Below w.heap.size w W) => SCall_any (h.below hW) client no c (by omega) (Nat.le_trans hN hW.size) ha hb ht)
  have hcm := aCall_came' h.good client no c
  have HAT : Hid (aTear L client no c keep = if (aCall L client no c).err = 0 ∧ L.length < (aCall L client no c).log.length ∧ keep < ((logB (aCall L client no c).log).length : Int) - ((logB L).length : Int) then ((aCall L client no c).err, L) else ((aCall L client no c).err, (aCall L client no c).log)) := rfl
  obtain ⟨T, hT⟩ : ∃ T, (logB L).length = T := ⟨_, rfl⟩
  have hgood := aCall_good h.good client no c
  generalize aTear L client no c keep = TT at HAT ⊢
  generalize aCall L client no c = R at HCC hcm HAT hgood
  obtain ⟨rcode, rtext, rerr, rlog⟩ := R
  obtain ⟨k, a, b, t⟩ := c
  dsimp only at *
  obtain ⟨T1, hT1⟩ : ∃ T1, (logB rlog).length = T1 := ⟨_, rfl⟩
  obtain ⟨la, lc, rfl⟩ := row_form h.log
  have hlg := h.lg
  rw [hT] at hlg h HCC ⊢
  have HH := hide h
  have hSl := h.lt
  have HCM := hide hcm
  have HGD := hide hgood
  have HTL := hide hT
  have HT1 := hide hT1
  have HBX : Hid (Below w.heap.size w (w.alloc (.cells #[.int .i64 k, .string a, .string b, .string t] 70))) := (Below.refl _ _).alloc (Nat.le_refl _) _
  rw [hT] at hs
  clear h hcm hgood ha hb ht hT hT1
  go_enter Tryz.func198, Tryz.ntmps198
  go_wp2_with fail
  refine ((unhide HCC) _ (unhide HBX)).mono ?_
  rintro e w1 ⟨rfl, hT1'⟩
  dsimp only at hT1' ⊢
  have HT1' := hide hT1'
  clear hT1'
  by_cases herr : rerr = 0
  · subst herr
    obtain ⟨B1, own1, lv1, hr1, hn1⟩ := unhide HT1'
    obtain ⟨a1, c1, rfl⟩ := row_form hr1.log
    have hlg1 := hr1.lg
    have hrow := hr1.log
    rw [unhide HT1] at hlg1 hrow
    have hcap := row_cap (by have h2 := hrow; unfold BRow at h2; rw [unhide HT1] at h2; exact h2)
    obtain ⟨hby, hnil, _⟩ := hrow.by (unhide HT1)
    have hTT1 : T ≤ T1 ∧ T1 ≤ T + 255 := by
      rcases unhide HCM with h1 | ⟨_, r, h1, h2⟩
      · have : T1 = T := by rw [← unhide HT1, h1, unhide HTL]
        omega
      · have h3 := (encL_le h2).2
        have : T1 = T + (encL r).length := by rw [← unhide HT1, h1, logB_snoc, List.length_append, unhide HTL]
        omega
    obtain ⟨hle1, hle2⟩ := hTT1
    obtain ⟨q, hq⟩ : ∃ q : Nat, (q : Int) = min (max keep 0) ((T1 : Int) - (T : Int)) := ⟨(min (max keep 0) ((T1 : Int) - (T : Int))).toNat, by omega⟩
    have hq1 : q ≤ T1 - T := by omega
    have hwr : IntKind.i64.wrap ((T1 : Int) - (T : Int)) = (T1 : Int) - (T : Int) := by rw [IntKind.wrap_i64]; omega
    have hwr2 : IntKind.i64.wrap ((T : Int) + (q : Int)) = (T : Int) + (q : Int) := by rw [IntKind.wrap_i64]; omega
    have hbd : (T : Int) + (q : Int) ≤ (c1 : Int) := by omega
    have hfz : w1.frozen? ⟨S, 1, none⟩ = false := (hr1.at 1).2
    have hSl1 := hr1.lt
    have HR1 := hide hr1
    have HN1 := hide hn1
    have HBY := hide hby
    have HROW := hide hrow
    clear hr1 hn1 hby hrow HT1'
    have hlen : ((T : Int) + min (max keep 0) ((T1 : Int) - (T : Int))).toNat = T + q := by omega
    go_wp2_with fail
    try rw [hlen]
    obtain ⟨w2, hw2⟩ : ∃ w2, w2 = (w1.setCell ⟨S, 1, none⟩ (.slice a1 (T + q) c1)).alloc (.cells #[.int .i64 rcode, .string rtext] 100) := ⟨_, rfl⟩
    rw [← hw2]
    obtain ⟨C, hC, hl⟩ := (unhide HR1).blk
    have h26 : C.size = 26 := by rw [← Array.length_toList, hl]; rfl
    have hs1 := heap_setCell_same hC (o := 1) (.slice a1 (T + q) c1)
    have hkS := kept_setCell [S] w1 S 1 (.slice a1 (T + q) c1) (by simp)
    have hbA : Below (w1.setCell ⟨S, 1, none⟩ (.slice a1 (T + q) c1)).heap.size (w1.setCell ⟨S, 1, none⟩ (.slice a1 (T + q) c1)) w2 := by rw [hw2]; exact (Below.refl _ _).alloc (Nat.le_refl _) _
    have hC2 : w2.heap[S]? = some (.cells (C.setIfInBounds 1 (.slice a1 (T + q) c1)) 114 (0, 0)) := (hbA.block S (Array.getElem?_eq_some_iff.1 hs1).1).trans hs1
    have hc2 : w2.cell? ⟨S, 1, none⟩ = some (.slice a1 (T + q) c1) := by
      rw [cell_of_row w2 S _ _ _ _ hC2, Array.getElem?_setIfInBounds_self_of_lt (by omega)]
    have hK12 : Kept [S] w1 w2 := hkS.trans (Kept.of_below (own := []) hbA) (by simp)
    have hby2 : ByAt w2 a1 ((logB rlog).take (T + q)) := fun h0 => by
      obtain ⟨bb, off, rfl, hcs⟩ := (unhide HBY) (fun e => h0 (by rw [e]; simp))
      refine ⟨bb, off, rfl, fun j x hx => ?_⟩
      have hx' : (logB rlog)[j]? = some x := by
        rw [List.getElem?_take] at hx
        split at hx
        · exact hx
        · cases hx
      have h1 := hcs j x hx'
      have hbb : bb ≠ S := fun e => (unhide HR1).sL (by
        obtain ⟨g, e2, _⟩ := row_some (by have h2 := unhide HROW; unfold BRow at h2; rw [unhide HT1] at h2; exact h2)
        cases e2
        rw [e]
        rfl)
      rw [World.cell?_of_block (w := w1) (a := ⟨bb, off + j, none⟩) (hK12.block bb (World.block_lt_of_cell? w1 _ h1) (by simpa using hbb))]
      exact h1
    have hz12 := hK12.size
    have hnN : N ≤ w1.heap.size := Nat.le_trans hN (Nat.le_trans (unhide HBX).size (unhide HN1).size)
    have HCR := hide (Crash_core (N := N) hC2 (by rw [Array.size_setIfInBounds]; exact h26) hc2 hby2 (by rw [List.length_take, unhide HT1]; omega) (by omega) (by omega) (fun e => by have := hnil e; omega) (unhide HR1).new (by omega))
    have HK12 := hide hK12
    clear hw2 hC hl h26 hs1 hkS hbA hC2 hc2 hK12 hby2
    refine (unhide HCR).mono ?_
    rintro e w3 ⟨rfl, B3, own3, lv3, hr3, hk3, hn3⟩
    have HR3 := hide hr3
    have HK3 := hide hk3
    have HN3 := hide hn3
    clear hr3 hk3 hn3
    have HTT : Hid (TT = (0, (allR ((logB rlog).take (T + q))).1)) := by
      show _ = _
      rw [unhide HAT]
      rcases unhide HCM with h1 | ⟨_, r, h1, h2⟩
      · subst h1
        have hTe : T1 = T := by rw [← unhide HT1, unhide HTL]
        rw [if_neg (by omega), List.take_of_length_le (by rw [unhide HT1]; omega), allR_log (unhide HGD)]
      · subst h1
        have h5 := encL_le h2
        have hT1n : T1 = T + (encL r).length := by rw [← unhide HT1, logB_snoc, List.length_append, unhide HTL]
        have h6 := allR_torn (unhide HGD) q (by omega)
        rw [unhide HTL] at h6
        rw [h6, unhide HT1, unhide HTL]
        by_cases hk : keep < ((encL r).length : Int)
        · rw [if_pos ⟨by trivial, by simp, by omega⟩, if_pos (by omega)]
        · rw [if_neg (fun h => hk (by have := h.2.2; omega)), if_neg (by omega)]
    go_wp2
    go_ret
    rw [HTT.out]
    refine ⟨rfl, STurned.mk' (unhide HH) (unhide HR3) (((((Kept.of_below (own := sown S own (.slice la T lc)) (unhide HBX)).trans (unhide HN1).kept (fun x hx => .inl hx)).trans (unhide HK12) (fun x hx => .inl (by rw [List.mem_singleton.1 hx]; exact List.mem_cons_self)))).trans (unhide HK3) (fun x hx => .inl (by rw [List.mem_singleton.1 hx]; exact List.mem_cons_self))) hN (fun x hx => ?_)⟩
    rcases (unhide HN3) x hx with h1 | h1
    · exact .inl (by rw [h1]; exact List.mem_cons_self)
    · exact .inr (by have := (unhide HBX).size; have := (unhide HN1).size; omega)
  · have herb : (rerr == 0) = false := by simpa using herr
    have HTT : Hid (TT = (rerr, rlog)) := by rw [HAT.out, if_neg (fun h => herr h.1)]; exact rfl
    go_wp2
    go_ret
    rw [HTT.out]
    exact ⟨rfl, (unhide HT1').around (unhide HH) (unhide HBX) ((Below.refl _ _).alloc (Nat.le_refl _) _) hN⟩

end Go.Proofs.YtffgolanmaenfacGreatDoor

namespace Go.Proofs.YtffgolanmaenfacGreatDoor
open Go.RowKit
set_option linter.unusedSimpArgs false
set_option linter.unusedVariables false

theorem aCall_short {L : List ARec} (hL : Good L) (hs : (logB L).length ≤ 2000) (client no : Int) (c : ACall) : (logB (aCall L client no c).log).length ≤ 2000 := by
  unfold aCall
  split
  · exact hs
  rename_i h1
  split
  · exact hs
  rename_i h2
  split
  · exact hs
  rename_i h3
  split
  · split
    · exact hs
    · rename_i h5
      obtain ⟨_, _, ok2⟩ := new_ok h1 (by simpa using h2) (by simpa using h3) (behind L)
      dsimp only
      rw [logB_snoc, List.length_append, ok2]
      omega
  split
  · exact hs
  · exact hs
theorem aTear_short {L : List ARec} (hL : Good L) (hs : (logB L).length ≤ 2000) (client no : Int) (c : ACall) (keep : Int) : (logB (aTear L client no c keep).2).length ≤ 2000 := by
  rcases aTear_log L client no c keep with h | h
  · rw [h]; exact hs
  · rw [h]; exact aCall_short hL hs _ _ _
end Go.Proofs.YtffgolanmaenfacGreatDoor

namespace Go.Proofs.YtffgolanmaenfacGreatDoor
set_option linter.unusedVariables false

theorem opn0 { oi : Oper} {r : List Oper} : (List.toArray (oi :: r))[0]? = some oi := rfl
theorem opn1 {x0 oi : Oper} {r : List Oper} : (List.toArray (x0 :: oi :: r))[1]? = some oi := rfl
theorem opn2 {x0 x1 oi : Oper} {r : List Oper} : (List.toArray (x0 :: x1 :: oi :: r))[2]? = some oi := rfl
theorem opn3 {x0 x1 x2 oi : Oper} {r : List Oper} : (List.toArray (x0 :: x1 :: x2 :: oi :: r))[3]? = some oi := rfl
theorem opn4 {x0 x1 x2 x3 oi : Oper} {r : List Oper} : (List.toArray (x0 :: x1 :: x2 :: x3 :: oi :: r))[4]? = some oi := rfl
theorem opn5 {x0 x1 x2 x3 x4 oi : Oper} {r : List Oper} : (List.toArray (x0 :: x1 :: x2 :: x3 :: x4 :: oi :: r))[5]? = some oi := rfl
theorem opn6 {x0 x1 x2 x3 x4 x5 oi : Oper} {r : List Oper} : (List.toArray (x0 :: x1 :: x2 :: x3 :: x4 :: x5 :: oi :: r))[6]? = some oi := rfl
theorem opn7 {x0 x1 x2 x3 x4 x5 x6 oi : Oper} {r : List Oper} : (List.toArray (x0 :: x1 :: x2 :: x3 :: x4 :: x5 :: x6 :: oi :: r))[7]? = some oi := rfl
theorem opn8 {x0 x1 x2 x3 x4 x5 x6 x7 oi : Oper} {r : List Oper} : (List.toArray (x0 :: x1 :: x2 :: x3 :: x4 :: x5 :: x6 :: x7 :: oi :: r))[8]? = some oi := rfl
theorem opn9 {x0 x1 x2 x3 x4 x5 x6 x7 x8 oi : Oper} {r : List Oper} : (List.toArray (x0 :: x1 :: x2 :: x3 :: x4 :: x5 :: x6 :: x7 :: x8 :: oi :: r))[9]? = some oi := rfl
theorem opn10 {x0 x1 x2 x3 x4 x5 x6 x7 x8 x9 oi : Oper} {r : List Oper} : (List.toArray (x0 :: x1 :: x2 :: x3 :: x4 :: x5 :: x6 :: x7 :: x8 :: x9 :: oi :: r))[10]? = some oi := rfl
theorem opn11 {x0 x1 x2 x3 x4 x5 x6 x7 x8 x9 x10 oi : Oper} {r : List Oper} : (List.toArray (x0 :: x1 :: x2 :: x3 :: x4 :: x5 :: x6 :: x7 :: x8 :: x9 :: x10 :: oi :: r))[11]? = some oi := rfl
theorem opn12 {x0 x1 x2 x3 x4 x5 x6 x7 x8 x9 x10 x11 oi : Oper} {r : List Oper} : (List.toArray (x0 :: x1 :: x2 :: x3 :: x4 :: x5 :: x6 :: x7 :: x8 :: x9 :: x10 :: x11 :: oi :: r))[12]? = some oi := rfl
theorem opn13 {x0 x1 x2 x3 x4 x5 x6 x7 x8 x9 x10 x11 x12 oi : Oper} {r : List Oper} : (List.toArray (x0 :: x1 :: x2 :: x3 :: x4 :: x5 :: x6 :: x7 :: x8 :: x9 :: x10 :: x11 :: x12 :: oi :: r))[13]? = some oi := rfl
theorem opn14 {x0 x1 x2 x3 x4 x5 x6 x7 x8 x9 x10 x11 x12 x13 oi : Oper} {r : List Oper} : (List.toArray (x0 :: x1 :: x2 :: x3 :: x4 :: x5 :: x6 :: x7 :: x8 :: x9 :: x10 :: x11 :: x12 :: x13 :: oi :: r))[14]? = some oi := rfl
theorem opn15 {x0 x1 x2 x3 x4 x5 x6 x7 x8 x9 x10 x11 x12 x13 x14 oi : Oper} {r : List Oper} : (List.toArray (x0 :: x1 :: x2 :: x3 :: x4 :: x5 :: x6 :: x7 :: x8 :: x9 :: x10 :: x11 :: x12 :: x13 :: x14 :: oi :: r))[15]? = some oi := rfl
theorem opn16 {x0 x1 x2 x3 x4 x5 x6 x7 x8 x9 x10 x11 x12 x13 x14 x15 oi : Oper} {r : List Oper} : (List.toArray (x0 :: x1 :: x2 :: x3 :: x4 :: x5 :: x6 :: x7 :: x8 :: x9 :: x10 :: x11 :: x12 :: x13 :: x14 :: x15 :: oi :: r))[16]? = some oi := rfl
end Go.Proofs.YtffgolanmaenfacGreatDoor

namespace Go.Proofs.YtffgolanmaenfacGreatDoor
open Go.RowKit
set_option linter.unusedSimpArgs false
set_option linter.unusedVariables false

structure APkt where
  reply : Bool
  client : Int
  no : Int
  call : ACall
  code : Int
  ans : ByteArray
def pcells (m : APkt) : List Value := [.bool m.reply, .int .i64 m.client, .int .i64 m.no, .int .i64 m.call.kind, .string m.call.name, .string m.call.dst, .string m.call.text, .int .i64 m.code, .string m.ans]
def APkt.val (m : APkt) : Value := .agg #[.bool m.reply, .int .i64 m.client, .int .i64 m.no, .int .i64 m.call.kind, .string m.call.name, .string m.call.dst, .string m.call.text, .int .i64 m.code, .string m.ans]
def zeroPkt : APkt := ⟨false, 0, 0, ⟨0, ⟨#[]⟩, ⟨#[]⟩, ⟨#[]⟩⟩, 0, ⟨#[]⟩⟩
/-- No text is longer than a string that is handed in may be. -/
def SmallP (m : APkt) : Prop := m.call.name.size ≤ 281474976710656 ∧ m.call.dst.size ≤ 281474976710656 ∧ m.call.text.size ≤ 281474976710656 ∧ m.ans.size ≤ 281474976710656
theorem pcells_one (m : APkt) : ∀ u, u ∈ pcells m → u.oneCell' = true := by intro u hu; simp [pcells] at hu; rcases hu with rfl | rfl | rfl | rfl | rfl | rfl | rfl | rfl | rfl <;> rfl
theorem pcells_len (m : APkt) : (pcells m).length = 9 := rfl
theorem pflat_len (l : List APkt) : (l.flatMap pcells).length = l.length * 9 := by
  induction l with
  | nil => rfl
  | cons x xs ih => simp [pcells_len, ih]; omega
theorem pflat_one (l : List APkt) : ∀ u, u ∈ l.flatMap pcells → u.oneCell' = true := by
  intro u hu
  obtain ⟨f, _, hu⟩ := List.mem_flatMap.1 hu
  exact pcells_one f u hu

/-- The number of the packet that is meant. -/
def rnd (n : Int) (k : Nat) : Nat := (IntKind.u64.wrap n % (k : Int)).toNat
theorem rnd_lt (n : Int) {k : Nat} (hk : 0 < k) : rnd n k < k := by
  unfold rnd
  have h1 : (0 : Int) ≤ IntKind.u64.wrap n % (k : Int) := Int.emod_nonneg _ (by omega)
  have h2 : IntKind.u64.wrap n % (k : Int) < (k : Int) := Int.emod_lt_of_pos _ (by omega)
  omega

/-- A packet lies there. -/
structure PktAt (w : World) (b o : Nat) (m : APkt) : Prop where
  x0 : w.cell? ⟨b, o, none⟩ = some (.bool m.reply)
  x1 : w.cell? ⟨b, o + 1, none⟩ = some (.int .i64 m.client)
  x2 : w.cell? ⟨b, o + 2, none⟩ = some (.int .i64 m.no)
  x3 : w.cell? ⟨b, o + 3, none⟩ = some (.int .i64 m.call.kind)
  x4 : w.cell? ⟨b, o + 4, none⟩ = some (.string m.call.name)
  x5 : w.cell? ⟨b, o + 5, none⟩ = some (.string m.call.dst)
  x6 : w.cell? ⟨b, o + 6, none⟩ = some (.string m.call.text)
  x7 : w.cell? ⟨b, o + 7, none⟩ = some (.int .i64 m.code)
  x8 : w.cell? ⟨b, o + 8, none⟩ = some (.string m.ans)
theorem PktAt.lt {w : World} {b o : Nat} {r : APkt} (h : PktAt w b o r) : b < w.heap.size := World.block_lt_of_cell? w _ h.x0
theorem PktAt.same {w W : World} {b o : Nat} {r : APkt} (h : PktAt w b o r) (hb : W.heap[b]? = w.heap[b]?) : PktAt W b o r := by
  have hc : ∀ j, W.cell? ⟨b, j, none⟩ = w.cell? ⟨b, j, none⟩ := fun j => by simp only [World.cell?, hb]
  exact ⟨(hc _).trans h.x0, (hc _).trans h.x1, (hc _).trans h.x2, (hc _).trans h.x3, (hc _).trans h.x4, (hc _).trans h.x5, (hc _).trans h.x6, (hc _).trans h.x7, (hc _).trans h.x8⟩
theorem flat9 : ∀ (rs : List APkt) (j i : Nat) (r : APkt), rs[j]? = some r → i < 9 → (rs.flatMap pcells)[j * 9 + i]? = (pcells r)[i]?
  | [], j, i, r, h, _ => by simp at h
  | q :: rs, 0, i, r, h, hi => by
    simp at h
    subst h
    rw [List.flatMap_cons, Nat.zero_mul, Nat.zero_add, List.getElem?_append_left (by rw [pcells_len]; omega)]
  | q :: rs, j + 1, i, r, h, hi => by
    rw [List.flatMap_cons, List.getElem?_append_right (by rw [pcells_len]; omega), pcells_len, show (j + 1) * 9 + i - 9 = j * 9 + i by omega]
    exact flat9 rs j i r (by simpa using h) hi
/-- Packets one behind the other lie there. -/
def PktsAt (w : World) (a : Option Addr) (n : Nat) (rs : List APkt) : Prop :=
  rs.length = n ∧ (0 < n → ∃ b, a = some ⟨b, 0, none⟩ ∧ ∀ (j : Nat) (r : APkt), rs[j]? = some r → PktAt w b (j * 9) r)
theorem PktsAt.below {w W : World} {a : Option Addr} {n : Nat} {rs : List APkt} (h : PktsAt w a n rs) (hb : Below w.heap.size w W) : PktsAt W a n rs := by
  refine ⟨h.1, fun h0 => ?_⟩
  obtain ⟨b, rfl, hc⟩ := h.2 h0
  exact ⟨b, rfl, fun j r hr => (hc j r hr).same (hb.block b (hc j r hr).lt)⟩
theorem pkts_row {w : World} {base : Nat} {a : Option Addr} {n c : Nat} {rs : List APkt} (h : w.ownsRow base 102 9 (.slice a n c) n (rs.flatMap pcells)) (hn : rs.length = n) : PktsAt w a n rs := by
  refine ⟨hn, fun h0 => ?_⟩
  obtain ⟨g, cap, e, _⟩ := World.ownsRow.form h h0
  cases e
  refine ⟨g, rfl, fun j r hr => ?_⟩
  have hc : ∀ i, i < 9 → w.cell? ⟨g, j * 9 + i, none⟩ = (pcells r)[i]? := fun i hi => by
    have h1 := flat9 rs j i r hr hi
    obtain ⟨v, hv⟩ : ∃ v, (pcells r)[i]? = some v := ⟨_, List.getElem?_eq_getElem (by rw [pcells_len]; omega)⟩
    rw [hv] at h1 ⊢
    have := World.ownsRow.cells (v := .slice (some ⟨g, 0, none⟩) n c) h (g := g) rfl (j * 9 + i) v h1
    rw [addr_add, Nat.zero_add] at this
    exact this
  exact ⟨hc 0 (by omega), hc 1 (by omega), hc 2 (by omega), hc 3 (by omega), hc 4 (by omega), hc 5 (by omega), hc 6 (by omega), hc 7 (by omega), hc 8 (by omega)⟩

/-- An object of one list of packets (a Post: t; a Bag: its own type) at block P. -/
structure PRep (t : TypeId) (N : Nat) (w : World) (P : Nat) (v : Value) (ms : List APkt) : Prop where
  new : N ≤ P
  blk : w.heap[P]? = some (.cells #[v] t (0, 0))
  row : w.ownsRow N 102 9 v ms.length (ms.flatMap pcells)
  nd : v.ownBlock ≠ some P
  few : ms.length ≤ 40
  small : ∀ m, m ∈ ms → SmallP m
def powns (P : Nat) (v : Value) : List Nat := P :: v.ownBlock.toList
theorem PRep.lt {t : TypeId} {N : Nat} {w : World} {P : Nat} {v : Value} {ms : List APkt} (h : PRep t N w P v ms) : P < w.heap.size := (Array.getElem?_eq_some_iff.1 h.blk).1
theorem PRep.can {t : TypeId} {N : Nat} {w : World} {P : Nat} {v : Value} {ms : List APkt} (h : PRep t N w P v ms) : w.cell? ⟨P, 0, none⟩ = some v ∧ w.frozen? ⟨P, 0, none⟩ = false := ⟨by simp [World.cell?, h.blk], by simp [World.frozen?, h.blk]⟩
theorem PRep.ge {t : TypeId} {N : Nat} {w : World} {P : Nat} {v : Value} {ms : List APkt} (h : PRep t N w P v ms) : ∀ k, k ∈ powns P v → N ≤ k ∧ k < w.heap.size := fun k hk => by
  rcases List.mem_cons.1 hk with rfl | hk
  · exact ⟨h.new, h.lt⟩
  · exact h.row.lt k (by simpa using hk)
theorem PRep.same {t : TypeId} {N : Nat} {w w' : World} {P : Nat} {v : Value} {ms : List APkt} (h : PRep t N w P v ms) (hs : ∀ k, k ∈ powns P v → w'.heap[k]? = w.heap[k]?) : PRep t N w' P v ms :=
  ⟨h.new, (hs P List.mem_cons_self).trans h.blk, ownsRow_same h.row (fun k hk => hs k (List.mem_cons_of_mem _ (by simpa using hk))), h.nd, h.few, h.small⟩
theorem PRep.below {t : TypeId} {N : Nat} {w w' : World} {P : Nat} {v : Value} {ms : List APkt} (h : PRep t N w P v ms) (hb : Below w.heap.size w w') : PRep t N w' P v ms := h.same fun k hk => hb.block k (h.ge k hk).2
theorem PRep.kept {t : TypeId} {N : Nat} {w w' : World} {P : Nat} {v : Value} {ms : List APkt} {o : List Nat} (h : PRep t N w P v ms) (hk : Kept o w w') (hd : ∀ k, k ∈ powns P v → k ∉ o) : PRep t N w' P v ms := h.same fun k h1 => hk.block k (h.ge k h1).2 (hd k h1)
theorem PRep.form {t : TypeId} {N : Nat} {w : World} {P : Nat} {v : Value} {ms : List APkt} (h : PRep t N w P v ms) : ∃ a cap, v = .slice a ms.length cap := row_form h.row
/-- From w to w' the object has come to ms'. -/
def PTurn (t : TypeId) (N : Nat) (w : World) (P : Nat) (v : Value) (w' : World) (ms' : List APkt) : Prop :=
  ∃ v', PRep t N w' P v' ms' ∧ Kept (powns P v) w w' ∧ ∀ k, k ∈ powns P v' → k ∈ powns P v ∨ w.heap.size ≤ k
theorem PTurn.of_below {t : TypeId} {N : Nat} {w w' : World} {P : Nat} {v : Value} {ms : List APkt} (h : PRep t N w P v ms) (hb : Below w.heap.size w w') : PTurn t N w P v w' ms := ⟨v, h.below hb, Kept.of_below hb, fun k hk => .inl hk⟩
theorem PTurn.before {t : TypeId} {N : Nat} {w w0 w' : World} {P : Nat} {v : Value} {ms : List APkt} (hb : Below w.heap.size w w0) (h : PTurn t N w0 P v w' ms) : PTurn t N w P v w' ms := by
  obtain ⟨v', h1, h2, h3⟩ := h
  refine ⟨v', h1, (Kept.of_below hb).trans h2 (fun x hx => .inl hx), fun k hk => ?_⟩
  rcases h3 k hk with h | h
  · exact .inl h
  · right; have := hb.size; omega
end Go.Proofs.YtffgolanmaenfacGreatDoor

namespace Go.Proofs.YtffgolanmaenfacGreatDoor
open Go.RowKit
set_option linter.unusedSimpArgs false
set_option linter.unusedVariables false

def pArr (r : APkt) : Array Value := #[.bool r.reply, .int .i64 r.client, .int .i64 r.no, .int .i64 r.call.kind, .string r.call.name, .string r.call.dst, .string r.call.text, .int .i64 r.code, .string r.ans]
set_option maxHeartbeats 400000 in
theorem SClone_any (s : ByteArray) (w : World) (hs : s.size ≤ 281474976710656) :
    Calls Tryz.prog 83 #[.string s] w fun e w' => e = .returned (.string s) ∧ Below w.heap.size w w' := by
  have hcon := Tryz.stringslite_Clone s w (by omega)
  go_enter Tryz.func83, Tryz.ntmps83
  go_wp2_with (go_at_call 125; refine hcon.mono ?_; rintro e w' ⟨rfl, hb'⟩)
  go_ret
  exact ⟨rfl, hb'⟩

theorem New_P (w : World) : Calls Tryz.prog 23 #[] w fun e w' => e = .returned (.pointer (some ⟨w.heap.size, 0, none⟩)) ∧ w' = w.alloc (.cells #[.slice none 0 0] 116) := by
  go_enter Tryz.func23, Tryz.ntmps23
  go_wp2
  go_ret
  exact ⟨rfl, rfl⟩
theorem Len_P {N : Nat} {w : World} {P : Nat} {v : Value} {ms : List APkt} (h : PRep 116 N w P v ms) {k : Nat} (hk : ms.length = k) : Calls Tryz.prog 162 #[.pointer (some ⟨P, 0, none⟩)] w fun e w' => e = .returned (.int .i64 (k : Int)) ∧ w' = w := by
  obtain ⟨a, c, rfl⟩ := h.form
  have hc := h.can.1
  rw [hk] at hc
  clear h
  go_enter Tryz.func162, Tryz.ntmps162
  go_wp2
  go_ret
  exact ⟨rfl, rfl⟩
theorem full_P {N : Nat} {w : World} {P : Nat} {v : Value} {ms : List APkt} (h : PRep 116 N w P v ms) {k : Nat} (hk : ms.length = k) : Calls Tryz.prog 192 #[.pointer (some ⟨P, 0, none⟩)] w fun e w' => e = .returned (.bool (decide (40 ≤ k))) ∧ w' = w := by
  obtain ⟨a, c, rfl⟩ := h.form
  have hc := h.can.1
  rw [hk] at hc
  clear h
  have hd : decide ((40 : Int) ≤ (k : Int)) = decide (40 ≤ k) := by by_cases h : 40 ≤ k <;> simp [h] <;> omega
  go_enter Tryz.func192, Tryz.ntmps192
  go_wp2
  go_ret
  exact ⟨rfl, rfl⟩
theorem wrap_u (n : Int) : IntKind.u64.wrap n = n % 18446744073709551616 := by simp [IntKind.wrap, IntKind.bits, IntKind.signed]
theorem rnd_val (n : Int) {k : Nat} (hk : 0 < k) (h40 : k ≤ 40) : wrap64 (Int.tmod (IntKind.u64.wrap n) (IntKind.u64.wrap (k : Int))) = (rnd n k : Int) := by
  have h1 : IntKind.u64.wrap (k : Int) = k := by rw [wrap_u]; omega
  have h0 : 0 ≤ IntKind.u64.wrap n := by rw [wrap_u]; omega
  have hm : Int.tmod (IntKind.u64.wrap n) (k : Int) = (rnd n k : Int) := by
    rw [Int.tmod_eq_emod_of_nonneg h0]
    unfold rnd
    have : (0 : Int) ≤ IntKind.u64.wrap n % (k : Int) := Int.emod_nonneg _ (by omega)
    omega
  have hlt := rnd_lt n hk
  rw [h1, hm]
  unfold wrap64
  omega

end Go.Proofs.YtffgolanmaenfacGreatDoor

namespace Go.Proofs.YtffgolanmaenfacGreatDoor
open Go.RowKit
set_option linter.unusedSimpArgs false
set_option linter.unusedVariables false

set_option maxHeartbeats 1000000 in
theorem round_P {N : Nat} {w : World} {P : Nat} {v : Value} {ms : List APkt} (h : PRep 116 N w P v ms) (n : Int) {k : Nat} (hk : ms.length = k) (h0 : 0 < k) : Calls Tryz.prog 194 #[.pointer (some ⟨P, 0, none⟩), .int .i64 n] w fun e w' => e = .returned (.int .i64 (rnd n k : Int)) ∧ w' = w := by
  obtain ⟨a, c, rfl⟩ := h.form
  have hc := h.can.1
  have hv := rnd_val n h0 (by rw [← hk]; exact h.few)
  have hne : ¬ (IntKind.u64.wrap (k : Int) = 0) := by rw [wrap_u]; have := h.few; omega
  rw [hk] at hc
  clear h
  go_enter Tryz.func194, Tryz.ntmps194
  go_wp2
  go_ret
  exact ⟨congrArg (fun b => Ending.returned (.int .i64 b)) hv, rfl⟩
theorem nine {w : World} {b : Nat} {x0 x1 x2 x3 x4 x5 x6 x7 x8 : Value} {e : TypeId} (h : w.heap[b]? = some (.cells #[x0, x1, x2, x3, x4, x5, x6, x7, x8] e (0, 0))) :
    (w.cell? ⟨b, 0, none⟩ = some x0 ∧ w.cell? ⟨b, 1, none⟩ = some x1 ∧ w.cell? ⟨b, 2, none⟩ = some x2 ∧ w.cell? ⟨b, 3, none⟩ = some x3) ∧ (w.cell? ⟨b, 4, none⟩ = some x4 ∧ w.cell? ⟨b, 5, none⟩ = some x5 ∧ w.cell? ⟨b, 6, none⟩ = some x6 ∧ w.cell? ⟨b, 7, none⟩ = some x7 ∧ w.cell? ⟨b, 8, none⟩ = some x8) ∧ ∀ j, w.frozen? ⟨b, j, none⟩ = false := by
  refine ⟨⟨?_, ?_, ?_, ?_⟩, ⟨?_, ?_, ?_, ?_, ?_⟩, fun j => frozen_of_row w b j _ _ h⟩ <;> rw [cell_of_row w b _ _ _ _ h] <;> rfl
theorem infoP : (Tryz.prog.info? 102).map (·.size) = some 9 := by kernel_rfl
/-- A text of a packet's block set to what it is. -/
theorem set_same {w : World} {b : Nat} {C : Array Value} {e : TypeId} {j : Nat} {x : Value} (h : w.heap[b]? = some (.cells C e (0, 0))) (hx : C[j]? = some x) : (w.setCell ⟨b, j, none⟩ x).heap[b]? = some (.cells C e (0, 0)) := by
  rw [heap_setCell_same h x]
  congr 2
  obtain ⟨hj, hx⟩ := Array.getElem?_eq_some_iff.1 hx
  apply Array.ext
  · simp
  · intro i h1 h2
    rw [Array.getElem_setIfInBounds]
    split
    · rename_i hi; subst hi; exact hx.symm
    · rfl
theorem below_set {n : Nat} {w0 w : World} {b j : Nat} {x : Value} (h : Below n w0 w) (hb : n ≤ b) : Below n w0 (w.setCell ⟨b, j, none⟩ x) :=
  ⟨h.os, h.tape, h.output, by rw [setCell_size]; exact h.size, fun k hk => (Below.heap_setCell w _ x k (fun e => by simp at e; omega)).trans (h.block k hk)⟩

set_option maxRecDepth 100000 in
set_option maxHeartbeats 4000000 in
theorem clone_P (m : APkt) (w : World) (hm : SmallP m) : Calls Tryz.prog 193 #[m.val] w fun e w' => e = .returned m.val ∧ Below w.heap.size w w' := by
  obtain ⟨h1, h2, h3, h4⟩ := hm
  obtain ⟨y, c, n, ⟨k, a, b, t⟩, d, u⟩ := m
  dsimp only [APkt.val] at *
  obtain ⟨V, hV⟩ : ∃ V, V = (w.alloc (.cells #[.bool y, .int .i64 c, .int .i64 n, .int .i64 k, .string a, .string b, .string t, .int .i64 d, .string u] 102)).alloc (.cells #[.bool false, .int .i64 0, .int .i64 0, .int .i64 0, .string ⟨#[]⟩, .string ⟨#[]⟩, .string ⟨#[]⟩, .int .i64 0, .string ⟨#[]⟩] 102) := ⟨_, rfl⟩
  have hB0 : Below w.heap.size w V := by rw [hV]; exact ((Below.refl _ _).alloc (Nat.le_refl _) _).alloc (by simp) _
  have hX0 : V.heap[w.heap.size]? = some (.cells #[.bool y, .int .i64 c, .int .i64 n, .int .i64 k, .string a, .string b, .string t, .int .i64 d, .string u] 102 (0, 0)) := by rw [hV, Below.heap_alloc _ _ _ (by simp)]; exact heap_alloc_new _ _
  have hY0 : V.heap[w.heap.size + 1]? = some (.cells #[.bool false, .int .i64 0, .int .i64 0, .int .i64 0, .string ⟨#[]⟩, .string ⟨#[]⟩, .string ⟨#[]⟩, .int .i64 0, .string ⟨#[]⟩] 102 (0, 0)) := by rw [hV]; have := heap_alloc_new (w.alloc (.cells #[.bool y, .int .i64 c, .int .i64 n, .int .i64 k, .string a, .string b, .string t, .int .i64 d, .string u] 102)) (.cells #[.bool false, .int .i64 0, .int .i64 0, .int .i64 0, .string ⟨#[]⟩, .string ⟨#[]⟩, .string ⟨#[]⟩, .int .i64 0, .string ⟨#[]⟩] 102); simpa using this
  have HV := hide hV
  have HC1 := hide (fun W => SClone_any a W h1)
  have HC2 := hide (fun W => SClone_any b W h2)
  have HC3 := hide (fun W => SClone_any t W h3)
  have HC4 := hide (fun W => SClone_any u W h4)
  have HB0 := hide hB0
  have HX0 := hide hX0
  have HY0 := hide hY0
  obtain ⟨⟨x0, x1, x2, x3⟩, ⟨x4, x5, x6, x7, x8⟩, xf⟩ := nine hX0
  clear hB0 hX0 hY0 hV h1 h2 h3 h4
  go_enter Tryz.func193, Tryz.ntmps193
  go_wp2_with fail
  rw [← unhide HV]
  refine ((unhide HC1) _).mono ?_
  rintro e w1 ⟨rfl, b1⟩
  clear x0 x1 x2 x3 x4 x5 x6 x7 x8 xf
  have hX1 := (b1.block _ (Array.getElem?_eq_some_iff.1 (unhide HX0)).1).trans (unhide HX0)
  have hY1 := (b1.block _ (Array.getElem?_eq_some_iff.1 (unhide HY0)).1).trans (unhide HY0)
  have hS1 := set_same (j := 4) (x := .string a) hX1 rfl
  have hT1 : (w1.setCell ⟨w.heap.size, 4, none⟩ (.string a)).heap[w.heap.size + 1]? = _ := (Below.heap_setCell w1 _ _ _ (by simp)).trans hY1
  have hbx := below_set (j := 4) (x := .string a) ((unhide HB0).trans (b1.mono (unhide HB0).size)) (Nat.le_refl w.heap.size)
  obtain ⟨⟨x0, x1, x2, x3⟩, ⟨x4, x5, x6, x7, x8⟩, xf⟩ := nine hX1
  obtain ⟨V1, hV1⟩ : ∃ V, V = w1.setCell ⟨w.heap.size, 4, none⟩ (.string a) := ⟨_, rfl⟩
  rw [← hV1] at hS1 hT1 hbx
  have HX1 := hide hS1
  have HY1 := hide hT1
  have HB1 := hide hbx
  have HV1 := hide hV1
  clear b1 hX1 hY1 hS1 hT1 hbx hV1
  go_wp2_with fail
  rw [← unhide HV1]
  refine ((unhide HC2) _).mono ?_
  rintro e w2 ⟨rfl, b2⟩
  clear x0 x1 x2 x3 x4 x5 x6 x7 x8 xf
  have hX2 := (b2.block _ (Array.getElem?_eq_some_iff.1 (unhide HX1)).1).trans (unhide HX1)
  have hY2 := (b2.block _ (Array.getElem?_eq_some_iff.1 (unhide HY1)).1).trans (unhide HY1)
  have hS2 := set_same (j := 5) (x := .string b) hX2 rfl
  have hT2 : (w2.setCell ⟨w.heap.size, 5, none⟩ (.string b)).heap[w.heap.size + 1]? = _ := (Below.heap_setCell w2 _ _ _ (by simp)).trans hY2
  have hbx := below_set (j := 5) (x := .string b) ((unhide HB1).trans (b2.mono (unhide HB1).size)) (Nat.le_refl w.heap.size)
  obtain ⟨⟨x0, x1, x2, x3⟩, ⟨x4, x5, x6, x7, x8⟩, xf⟩ := nine hX2
  obtain ⟨V2, hV2⟩ : ∃ V, V = w2.setCell ⟨w.heap.size, 5, none⟩ (.string b) := ⟨_, rfl⟩
  rw [← hV2] at hS2 hT2 hbx
  have HX2 := hide hS2
  have HY2 := hide hT2
  have HB2 := hide hbx
  have HV2 := hide hV2
  clear b2 hX2 hY2 hS2 hT2 hbx hV2
  go_wp2_with fail
  rw [← unhide HV2]
  refine ((unhide HC3) _).mono ?_
  rintro e w3 ⟨rfl, b3⟩
  clear x0 x1 x2 x3 x4 x5 x6 x7 x8 xf
  have hX3 := (b3.block _ (Array.getElem?_eq_some_iff.1 (unhide HX2)).1).trans (unhide HX2)
  have hY3 := (b3.block _ (Array.getElem?_eq_some_iff.1 (unhide HY2)).1).trans (unhide HY2)
  have hS3 := set_same (j := 6) (x := .string t) hX3 rfl
  have hT3 : (w3.setCell ⟨w.heap.size, 6, none⟩ (.string t)).heap[w.heap.size + 1]? = _ := (Below.heap_setCell w3 _ _ _ (by simp)).trans hY3
  have hbx := below_set (j := 6) (x := .string t) ((unhide HB2).trans (b3.mono (unhide HB2).size)) (Nat.le_refl w.heap.size)
  obtain ⟨⟨x0, x1, x2, x3⟩, ⟨x4, x5, x6, x7, x8⟩, xf⟩ := nine hX3
  obtain ⟨V3, hV3⟩ : ∃ V, V = w3.setCell ⟨w.heap.size, 6, none⟩ (.string t) := ⟨_, rfl⟩
  rw [← hV3] at hS3 hT3 hbx
  have HX3 := hide hS3
  have HY3 := hide hT3
  have HB3 := hide hbx
  have HV3 := hide hV3
  clear b3 hX3 hY3 hS3 hT3 hbx hV3
  go_wp2_with fail
  rw [← unhide HV3]
  refine ((unhide HC4) _).mono ?_
  rintro e w4 ⟨rfl, b4⟩
  clear x0 x1 x2 x3 x4 x5 x6 x7 x8 xf
  have hX4 := (b4.block _ (Array.getElem?_eq_some_iff.1 (unhide HX3)).1).trans (unhide HX3)
  have hY4 := (b4.block _ (Array.getElem?_eq_some_iff.1 (unhide HY3)).1).trans (unhide HY3)
  have hS4 := set_same (j := 8) (x := .string u) hX4 rfl
  have hT4 : (w4.setCell ⟨w.heap.size, 8, none⟩ (.string u)).heap[w.heap.size + 1]? = _ := (Below.heap_setCell w4 _ _ _ (by simp)).trans hY4
  have hbx := below_set (j := 8) (x := .string u) ((unhide HB3).trans (b4.mono (unhide HB3).size)) (Nat.le_refl w.heap.size)
  obtain ⟨⟨x0, x1, x2, x3⟩, ⟨x4, x5, x6, x7, x8⟩, xf⟩ := nine hX4
  obtain ⟨V4, hV4⟩ : ∃ V, V = w4.setCell ⟨w.heap.size, 8, none⟩ (.string u) := ⟨_, rfl⟩
  rw [← hV4] at hS4 hT4 hbx
  have HX4 := hide hS4
  have HY4 := hide hT4
  have HB4 := hide hbx
  have HV4 := hide hV4
  clear b4 hX4 hS4 hT4 hbx hV4
  have hYn := (Below.heap_setCell w4 ⟨w.heap.size, 8, none⟩ (.string u) (w.heap.size + 1) (by simp)).trans hY4
  obtain ⟨V5, hV5⟩ : ∃ V, V = V4.setRow (w.heap.size + 1) #[.bool y, .int .i64 c, .int .i64 n, .int .i64 k, .string a, .string b, .string t, .int .i64 d, .string u] := ⟨_, rfl⟩
  have hZ : V5.heap[w.heap.size + 1]? = some (.cells #[.bool y, .int .i64 c, .int .i64 n, .int .i64 k, .string a, .string b, .string t, .int .i64 d, .string u] 102 (0, 0)) := by rw [hV5]; exact setRow_heap V4 (w.heap.size + 1) _ _ 102 (0, 0) (unhide HY4)
  have hB5 : Below w.heap.size w V5 := by
    have h := unhide HB4
    rw [hV5]
    exact ⟨h.os, h.tape, h.output, by simp [World.setRow]; exact h.size, fun k hk => (setRow_other V4 (w.heap.size + 1) k _ (by omega)).trans (h.block k hk)⟩
  obtain ⟨⟨z0, z1, z2, z3⟩, ⟨z4, z5, z6, z7, z8⟩, _⟩ := nine hZ
  have HB5 := hide hB5
  rw [unhide HV4] at hV5
  clear hB5 hZ
  go_wp2_with (refine wpList_store_row rfl 102 _ _ rfl (w.heap.size + 1) #[.bool y, .int .i64 c, .int .i64 n, .int .i64 k, .string a, .string b, .string t, .int .i64 d, .string u] rfl rfl 102 _ hYn infoP rfl (by simp [Value.oneCell']) ?_)
  rw [← hV5]
  clear x0 x1 x2 x3 x4 x5 x6 x7 x8 xf hYn
  refine bodyPost_ret (v := .agg #[.bool y, .int .i64 c, .int .i64 n, .int .i64 k, .string a, .string b, .string t, .int .i64 d, .string u]) (by simp [results, Tryz.results193, go_sem, z0, z1, z2, z3, z4, z5, z6, z7, z8]) rfl ⟨rfl, unhide HB5⟩

end Go.Proofs.YtffgolanmaenfacGreatDoor

namespace Go.Proofs.YtffgolanmaenfacGreatDoor
open Go.RowKit
set_option linter.unusedSimpArgs false
set_option linter.unusedVariables false

theorem infoPP : (Tryz.prog.info? 102).map (fun i => (i.zero, i.size, i.bytes)) = some (some (.agg #[.bool false, .int .i64 0, .int .i64 0, .int .i64 0, .string ⟨#[]⟩, .string ⟨#[]⟩, .string ⟨#[]⟩, .int .i64 0, .string ⟨#[]⟩]), 9, 104) := by kernel_rfl

/-- One packet more. -/
theorem PRep.push {t : TypeId} {N : Nat} {w w3 : World} {P : Nat} {v : Value} {ms : List APkt} (hr : PRep t N w P v ms) {g cap n : Nat} {m : APkt} (hg : w.grownBy w3 v.ownBlock) (hn : n = ms.length + 1) (hl : ms.length < 40) (hm : SmallP m)
    (hown : w3.ownsRow N 102 9 (.slice (some ⟨g, 0, none⟩) n cap) n (ms.flatMap pcells ++ pcells m)) (hat : v.ownBlock = some g ∨ g = w.heap.size) :
    PTurn t N w P v (w3.setCell ⟨P, 0, none⟩ (.slice (some ⟨g, 0, none⟩) n cap)) (ms ++ [m]) := by
  have hP := hr.lt
  have hgP : g ≠ P := by
    rcases hat with h | h
    · intro e; subst e; exact hr.nd h
    · omega
  have hold : ∀ k, k < w.heap.size → v.ownBlock ≠ some k → w3.heap[k]? = w.heap[k]? := fun k hk hne => hg.block k hk (fun e => hne e.symm)
  refine ⟨.slice (some ⟨g, 0, none⟩) n cap, ⟨hr.new, ?_, ?_, ?_, ?_, ?_⟩, ?_, ?_⟩
  · rw [heap_setCell_same (c := #[v]) (e := t) (fr := (0, 0))]
    · simp
    · rw [hold P hP hr.nd]; exact hr.blk
  · have : w3.ownsRow N 102 9 (.slice (some ⟨g, 0, none⟩) n cap) (ms ++ [m]).length ((ms ++ [m]).flatMap pcells) := by
      have e1 : (ms ++ [m]).length = n := by simp [hn]
      have e2 : (ms ++ [m]).flatMap pcells = ms.flatMap pcells ++ pcells m := by simp
      rw [e1, e2]; exact hown
    exact ownsRow_same this fun k hk => by
      have : k = g := by simpa [Value.ownBlock] using hk.symm
      rw [this]
      exact Below.heap_setCell _ _ _ _ hgP
  · intro e
    simp [Value.ownBlock] at e
    exact hgP e
  · simp; omega
  · intro x hx
    rcases List.mem_append.1 hx with hx | hx
    · exact hr.small x hx
    · simp at hx; subst hx; exact hm
  · have k1 : Kept (powns P v) w w3 := ⟨hg.os, hg.tape, hg.output, hg.size, fun k hk hn => hold k hk (fun e => hn (List.mem_cons_of_mem _ (by simp [e])))⟩
    exact k1.trans (kept_setCell (powns P v) _ _ _ _ List.mem_cons_self) (fun x hx => .inl hx)
  · intro k hk
    rcases List.mem_cons.1 hk with rfl | hk
    · exact .inl List.mem_cons_self
    · have : k = g := by simpa [Value.ownBlock] using hk
      rcases hat with h1 | h1
      · exact .inl (List.mem_cons_of_mem _ (by rw [this]; simp [h1]))
      · right; omega

set_option maxRecDepth 100000 in
set_option maxHeartbeats 4000000 in
theorem Send_P {N : Nat} {w : World} {P : Nat} {v : Value} {ms : List APkt} (h : PRep 116 N w P v ms) (m : APkt) (hm : SmallP m) (hl : ms.length < 40) :
    Calls Tryz.prog 161 #[.pointer (some ⟨P, 0, none⟩), m.val] w fun e w' => e = .returned (.bool true) ∧ PTurn 116 N w P v w' (ms ++ [m]) := by
  obtain ⟨i0, hi0, hz0, hz1, hz2⟩ := info_parts infoPP
  obtain ⟨k, hk⟩ : ∃ k, ms.length = k := ⟨_, rfl⟩
  have HK := hide hk
  obtain ⟨a, cap, rfl⟩ := h.form
  have nB := h.nd
  have HR := hide h
  have HCL := hide (fun W => clone_P m W hm)
  have HSM := hide hm
  rw [hk] at HR nB
  have hk40 : k < 40 := by omega
  obtain ⟨V, hV⟩ : ∃ V, V = w.alloc (.cells (pArr m) 102) := ⟨_, rfl⟩
  have hBV : Below w.heap.size w V := by rw [hV]; exact (Below.refl _ _).alloc (Nat.le_refl _) _
  have hXV : V.heap[w.heap.size]? = some (.cells (pArr m) 102 (0, 0)) := by rw [hV]; exact heap_alloc_new _ _
  have hrV := (unhide HR).below hBV
  have HFU := hide (full_P hrV hk)
  have HRV := hide hrV
  have HBV := hide hBV
  have HV := hide hV
  have HM : Hid (m = m) := rfl
  have hdec : decide (40 ≤ k) = false := by simp; omega
  rw [hdec] at HFU
  have HN : Hid (N ≤ w.heap.size) := Nat.le_trans h.new (Nat.le_of_lt h.lt)
  obtain ⟨M, hMM⟩ : ∃ M, M = m := ⟨_, rfl⟩
  have HMM := hide hMM
  obtain ⟨y, c, n, ⟨kk, s1, s2, s3⟩, d, u⟩ := m
  dsimp only [APkt.val, pArr] at *
  obtain ⟨⟨x0, x1, x2, x3⟩, ⟨x4, x5, x6, x7, x8⟩, xf⟩ := nine hXV
  have hc1 := hrV.can.1
  have hf1 := hrV.can.2
  have hPV : P < V.heap.size := hrV.lt
  clear h hm hk hl hBV hXV hrV hV hMM hdec HM
  go_enter Tryz.func161, Tryz.ntmps161
  go_wp2_with fail
  rw [← unhide HV]
  refine (unhide HFU).mono ?_
  rintro e w0 ⟨rfl, hw0⟩
  obtain rfl := hw0.symm
  clear hw0
  go_wp2_with fail
  have HO : Hid (∀ wx, Below V.drew.heap.size V.drew wx → wx.ownsRow N 102 9 (.slice a k cap) k (ms.flatMap pcells)) := fun wx hb => by have := ((unhide HRV).below (w' := wx) ⟨hb.os, hb.tape, hb.output, hb.size, hb.block⟩).row; rw [unhide HK] at this; exact this
  have HF : Hid (∀ wx, Below V.drew.heap.size V.drew wx → Can wx P 0 (.slice a k cap)) := fun wx hb => Can.below (w := V.drew) ⟨hc1, hf1⟩ hb hPV
  go_region_law (first
      | (go_simp; go_at_call 193; refine ((unhide HCL) _).mono ?_; rintro e w1 ⟨rfl, b1⟩; have hc2 := (HF.out w1 b1); have hc3 := hc2.1; have hf3 := hc2.2; have hzB : P < w1.heap.size := hc2.lt; clear hc2)
      | (refine step_append_lies _ (by rfl) _ _ _ (by rfl) N 102 i0 _ 9 104 Tryz.underlying74 hi0 hz0 hz1 hz2 rfl (by omega) (.slice a k cap) k (ms.flatMap pcells) (by rfl) ((HO.out w1 b1).alloc _)
          ⟨w1.heap.size, 0, none⟩ 1 1 [.bool y, .int .i64 c, .int .i64 n, .int .i64 kk, .string s1, .string s2, .string s3, .int .i64 d, .string u] (by rfl) (by rfl) (World.news_of_block (cs := #[.bool y, .int .i64 c, .int .i64 n, .int .i64 kk, .string s1, .string s2, .string s3, .int .i64 d, .string u]) (t := 102) (fr := (0, 0)) (heap_alloc_new w1 _)) (by simp [Value.oneCell'])
          (by omega) (by unfold maxLen; omega) (by omega) (by have h1 := b1.size; have h2 : V.drew.heap.size = V.heap.size := rfl; have h3 := (unhide HBV).size; have h4 := unhide HN; simp; omega) (w1.heap.size + 1) (by simp) ?_; intro g cap' w2 hown2 hgrow hat hlt; have hc2 := ((HF.out w1 b1).alloc _).grown hgrow nB; have hc3 := hc2.1; have hf3 := hc2.2))
  all_goals
    have hz : w.heap.size ≤ w1.heap.size := Nat.le_trans (unhide HBV).size b1.size
    have hbw : Below w.heap.size w (w1.alloc (Obj.cells #[.bool y, .int .i64 c, .int .i64 n, .int .i64 kk, .string s1, .string s2, .string s3, .int .i64 d, .string u] 102)) := ((unhide HBV).drew.trans (b1.mono (unhide HBV).size)).alloc hz _
    have hT := ((unhide HR).below hbw).push hgrow (by rw [unhide HK]) (by rw [unhide HK]; exact hk40) (unhide HSM) hown2 (by rw [al_size]; exact hat)
    have HT := hide (hT.before hbw)
    clear hT hbw hz hown2 hgrow hat hlt hc2 hc3 hf3
    go_wp2
    go_ret
    exact ⟨rfl, by rw [unhide HK]; exact unhide HT⟩

set_option maxRecDepth 100000 in
set_option maxHeartbeats 4000000 in
theorem Send_Pfull {N : Nat} {w : World} {P : Nat} {v : Value} {ms : List APkt} (h : PRep 116 N w P v ms) (m : APkt) (hl : ¬ ms.length < 40) :
    Calls Tryz.prog 161 #[.pointer (some ⟨P, 0, none⟩), m.val] w fun e w' => e = .returned (.bool false) ∧ PTurn 116 N w P v w' ms := by
  obtain ⟨V, hV⟩ : ∃ V, V = w.alloc (.cells (pArr m) 102) := ⟨_, rfl⟩
  have hBV : Below w.heap.size w V := by rw [hV]; exact (Below.refl _ _).alloc (Nat.le_refl _) _
  have HFU := hide (full_P (h.below hBV) rfl)
  rw [show decide (40 ≤ ms.length) = true by simp; omega] at HFU
  have HT := hide (PTurn.of_below h hBV)
  have HV := hide hV
  obtain ⟨y, c, n, ⟨kk, s1, s2, s3⟩, d, u⟩ := m
  dsimp only [APkt.val, pArr] at *
  clear h hl hBV hV
  go_enter Tryz.func161, Tryz.ntmps161
  go_wp2_with fail
  rw [← unhide HV]
  refine (unhide HFU).mono ?_
  rintro e w0 ⟨rfl, hw0⟩
  obtain rfl := hw0.symm
  clear hw0
  go_wp2
  go_ret
  exact ⟨rfl, unhide HT⟩

end Go.Proofs.YtffgolanmaenfacGreatDoor

namespace Go.Proofs.YtffgolanmaenfacGreatDoor
open Go.RowKit
set_option linter.unusedSimpArgs false
set_option linter.unusedVariables false

theorem ptake_snoc (ms : List APkt) (k : Nat) (m : APkt) (h : ms[k]? = some m) : (ms.take (k + 1)).flatMap pcells = (ms.take k).flatMap pcells ++ pcells m := by
  rw [List.take_add_one, h]
  simp

set_option maxRecDepth 100000 in
set_option maxHeartbeats 4000000 in
theorem List_P {N : Nat} {w : World} {P : Nat} {v : Value} {ms : List APkt} (h : PRep 116 N w P v ms) {n : Nat} (hn : ms.length = n) :
    Calls Tryz.prog 170 #[.pointer (some ⟨P, 0, none⟩)] w fun e w' => ∃ g cap, e = .returned (.slice (some ⟨g, 0, none⟩) n cap) ∧ w'.ownsRow w.heap.size 102 9 (.slice (some ⟨g, 0, none⟩) n cap) n (ms.flatMap pcells) ∧ Below w.heap.size w w' := by
  obtain ⟨i0, hi0, hz0, hz1, hz2⟩ := info_parts infoPP
  have hlen : n ≤ 40 := by rw [← hn]; exact h.few
  have hB : P < w.heap.size := h.lt
  have hc := h.can.1
  obtain ⟨a, cap, rfl⟩ := h.form
  rw [hn] at hc
  have HP := hide (pkts_row h.row rfl)
  rw [hn] at HP
  have HSM := hide h.small
  have HN := hide hn
  clear h hn
  go_enter Tryz.func170, Tryz.ntmps170
  go_wp2_with (refine wpList_make_own _ rfl _ _ 74 rfl w.heap.size 102 i0 _ 9 Tryz.underlying74 hi0 hz0 hz1 .i64 .i64 (n : Int) n rfl rfl rfl (by rw [hz2]; omega) (by unfold maxLen; omega) (Nat.le_refl _) ?_)
  intro w0 hown0 hgr0
  have b0 : Below w.heap.size w w0 := (Below.refl _ _).grown hgr0 (Nat.le_refl _) (by simp)
  have hc0 := (b0.cell (p := ⟨P, 0, none⟩) hB).trans hc
  have HO0 := hide hown0
  have HB0 := hide b0
  clear hc hown0 b0 hgr0
  go_wp2
  go_loopw [3, 5, 17] (fun nv _ i wr => ∃ k : Nat, k ≤ n ∧ i = .int .i64 k ∧ Hid (Below w.heap.size w wr) ∧ Hid (∃ g c, nv = .slice (some ⟨g, 0, none⟩) k c) ∧ Hid (wr.ownsRow w.heap.size 102 9 nv k ((ms.take k).flatMap pcells))) (fun _ _ i _ => n - (intOf i).toNat)
  case atStart => exact ⟨0, Nat.zero_le _, rfl, unhide HB0, ⟨_, _, rfl⟩, (by simpa using unhide HO0 : w0.ownsRow w.heap.size 102 9 (Value.slice (some ⟨w.heap.size, 0, none⟩) 0 n) 0 ((ms.take 0).flatMap pcells))⟩
  case round =>
    obtain ⟨k, hk, rfl, HB, ⟨g1, c1, rfl⟩, HO⟩ := hrel
    by_cases hlt : (k : Int) < (n : Int)
    · obtain ⟨x, hx⟩ : ∃ x, ms[k]? = some x := ⟨_, List.getElem?_eq_getElem (by rw [unhide HN]; omega)⟩
      obtain ⟨g, rfl, hc⟩ := ((unhide HP).below (unhide HB)).2 (by omega)
      obtain ⟨x0, x1, x2, x3, x4, x5, x6, x7, x8⟩ := hc k x hx
      have hgz : g < wr.heap.size := (hc k x hx).lt
      have HX := hide hx
      have hwz := (unhide HB).size
      have HCL := hide (fun W => clone_P x W ((unhide HSM) x (List.mem_of_getElem? hx)))
      clear hx hc
      have HL : Hid (∀ (wx : World) (o : Obj), Below (wr.heap.size + 1) (wr.alloc o) wx → wx.ownsRow w.heap.size 102 9 (.slice (some ⟨g1, 0, none⟩) k c1) k ((ms.take k).flatMap pcells)) := fun wx o hb =>
        ownsRow_same ((unhide HO).alloc o) (fun j hj => hb.block j (by have := (((unhide HO).alloc o).lt j hj).2; simpa using this))
      obtain ⟨y, c, nn, ⟨kk, s1, s2, s3⟩, d, u⟩ := x
      dsimp only [APkt.val] at *
      go_wp2_with (first
        | (at_builtin; refine wpList_append_lies _ rfl _ _ 74 rfl w.heap.size 102 i0 _ 9 104 Tryz.underlying74 hi0 hz0 hz1 hz2 rfl (by omega) (.slice (some ⟨g1, 0, none⟩) k c1) k ((ms.take k).flatMap pcells) rfl ((HL.out w1 _ b1').alloc _)
            ⟨w1.heap.size, 0, none⟩ 1 1 [.bool y, .int .i64 c, .int .i64 nn, .int .i64 kk, .string s1, .string s2, .string s3, .int .i64 d, .string u] rfl rfl (World.news_of_block (cs := #[.bool y, .int .i64 c, .int .i64 nn, .int .i64 kk, .string s1, .string s2, .string s3, .int .i64 d, .string u]) (t := 102) (fr := (0, 0)) (heap_alloc_new w1 _)) (by simp [Value.oneCell'])
            (by omega) (by unfold maxLen; omega) (by omega) (by have := b1.size; simp at this ⊢; omega) (w1.heap.size + 1) (by simp) ?_; intro g2 c2 w2 hown2 hgrow hat hlt2)
        | (go_at_call 193; refine ((unhide HCL) _).mono ?_; rintro e w1 ⟨rfl, b1⟩; have b1' := b1; rw [al_size] at b1'))
      go_roundw
      case rel =>
        have hb1 : Below w.heap.size w w1 := (((unhide HB).alloc hwz _).trans (b1.mono (by simp; omega)))
        have hz1 : w.heap.size ≤ w1.heap.size := hb1.size
        refine ⟨k + 1, by omega, by go_num, ?_, ⟨_, _, rfl⟩, ?_⟩
        · refine (hb1.alloc hz1 _).grown hgrow (by simp; omega) ?_
          intro j hj
          exact ((unhide HO).lt j hj).1
        · show w2.ownsRow _ _ _ _ _ _
          rw [ptake_snoc ms k _ (unhide HX)]
          exact hown2
      case measure => simp [intOf]; omega
    · obtain rfl : k = n := by omega
      have hown := unhide HO
      rw [List.take_of_length_le (by rw [unhide HN]; omega)] at hown
      have HO' := hide hown
      clear hown
      go_wp2
      go_ret
      exact ⟨g1, c1, rfl, unhide HO', unhide HB⟩

set_option maxRecDepth 100000 in
set_option maxHeartbeats 4000000 in
theorem Double_Pnot {N : Nat} {w : World} {P : Nat} {v : Value} {ms : List APkt} (h : PRep 116 N w P v ms) (n : Int) (hl : ms.length = 0 ∨ 40 ≤ ms.length) :
    Calls Tryz.prog 163 #[.pointer (some ⟨P, 0, none⟩), .int .i64 n] w fun e w' => e = .returned (.bool false) ∧ w' = w := by
  obtain ⟨k, hk⟩ : ∃ k, ms.length = k := ⟨_, rfl⟩
  have HFU := hide (full_P h hk)
  have hc := h.can.1
  obtain ⟨a, cap, rfl⟩ := h.form
  rw [hk] at hc hl
  clear h hk
  by_cases h0 : k = 0
  · subst h0
    go_enter Tryz.func163, Tryz.ntmps163
    go_wp2
    go_ret
    exact ⟨rfl, rfl⟩
  · rw [show decide (40 ≤ k) = true by simp; omega] at HFU
    have h0i : ((k : Int) == 0) = false := by simp; omega
    go_enter Tryz.func163, Tryz.ntmps163
    go_wp2_with fail
    refine (unhide HFU).mono ?_
    rintro e w0 ⟨rfl, hw0⟩
    obtain rfl := hw0.symm
    clear hw0
    go_wp2
    go_ret
    exact ⟨rfl, rfl⟩

set_option maxRecDepth 100000 in
set_option maxHeartbeats 8000000 in
theorem Double_P {N : Nat} {w : World} {P : Nat} {v : Value} {ms : List APkt} (h : PRep 116 N w P v ms) (n : Int) (h0 : 0 < ms.length) (hl : ms.length < 40) {m : APkt} (hm : ms[rnd n ms.length]? = some m) :
    Calls Tryz.prog 163 #[.pointer (some ⟨P, 0, none⟩), .int .i64 n] w fun e w' => e = .returned (.bool true) ∧ PTurn 116 N w P v w' (ms ++ [m]) := by
  obtain ⟨i0, hi0, hz0, hz1, hz2⟩ := info_parts infoPP
  obtain ⟨k, hk⟩ : ∃ k, ms.length = k := ⟨_, rfl⟩
  have HK := hide hk
  have HFU := hide (full_P h hk)
  rw [hk] at h0 hl hm
  rw [show decide (40 ≤ k) = false by simp; omega] at HFU
  obtain ⟨r, hr⟩ : ∃ r, rnd n k = r := ⟨_, rfl⟩
  have hrk := rnd_lt n h0
  have HRD := hide (round_P (h.below (below_drew w)) n hk h0)
  rw [hr] at hm hrk
  rw [hr] at HRD
  have hri : (r : Int) < (k : Int) := by omega
  have hr0 : (0 : Int) ≤ (r : Int) := by omega
  obtain ⟨a, cap, rfl⟩ := h.form
  have nB := h.nd
  have HR := hide h
  have HSM := hide (h.small m (List.mem_of_getElem? hm))
  have HN : Hid (N ≤ w.heap.size) := Nat.le_trans h.new (Nat.le_of_lt h.lt)
  obtain ⟨g0, hg0, hc⟩ := (pkts_row h.row rfl).2 (by omega)
  have hat0 := hc r m hm
  cases hg0
  rw [hk] at HR nB
  have h0i : ((k : Int) == 0) = false := by simp; omega
  obtain ⟨x0, x1, x2, x3, x4, x5, x6, x7, x8⟩ := hat0
  have hc1 := (unhide HR).can.1
  have hf1 := (unhide HR).can.2
  have hPw : P < w.heap.size := (unhide HR).lt
  have HM : Hid (∃ M, M = m) := ⟨m, rfl⟩
  clear h hc hm hk hr
  obtain ⟨y, c, nn, ⟨kk, s1, s2, s3⟩, d, u⟩ := m
  dsimp only [APkt.val] at *
  go_enter Tryz.func163, Tryz.ntmps163
  go_wp2_with fail
  refine (unhide HFU).mono ?_
  rintro e w0 ⟨rfl, hw0⟩
  obtain rfl := hw0.symm
  clear hw0
  go_wp2_with fail
  have HO : Hid (∀ wx, Below w.heap.size w wx → wx.ownsRow N 102 9 (.slice (some ⟨g0, 0, none⟩) k cap) k (ms.flatMap pcells)) := fun wx hb => by have := ((unhide HR).below (w' := wx) hb).row; rw [unhide HK] at this; exact this
  have HF : Hid (∀ wx, Below w.heap.size w wx → Can wx P 0 (.slice (some ⟨g0, 0, none⟩) k cap)) := fun wx hb => Can.below (w := w) ⟨hc1, hf1⟩ hb hPw
  go_region_law (first
      | (go_simp; go_at_call 194; refine (unhide HRD).mono ?_; rintro e w1 ⟨rfl, hw1⟩; obtain rfl := hw1.symm; clear hw1)
      | (refine step_append_lies _ (by rfl) _ _ _ (by rfl) N 102 i0 _ 9 104 Tryz.underlying74 hi0 hz0 hz1 hz2 rfl (by omega) (.slice (some ⟨g0, 0, none⟩) k cap) k (ms.flatMap pcells) (by rfl) (HO.out _ (below_alloc_drew w _))
          ⟨w.heap.size, 0, none⟩ 1 1 [.bool y, .int .i64 c, .int .i64 nn, .int .i64 kk, .string s1, .string s2, .string s3, .int .i64 d, .string u] (by rfl) (by rfl) (World.news_of_block (cs := #[.bool y, .int .i64 c, .int .i64 nn, .int .i64 kk, .string s1, .string s2, .string s3, .int .i64 d, .string u]) (t := 102) (fr := (0, 0)) (alloc_drew_new w _)) (by simp [Value.oneCell'])
          (by omega) (by unfold maxLen; omega) (by omega) (by have h4 := unhide HN; simp; omega) (w.heap.size + 1) (by simp) ?_; intro g cap' w2 hown2 hgrow hat hlt; have hc2 := (HF.out _ (below_alloc_drew w _)).grown hgrow nB; have hc3 := hc2.1; have hf3 := hc2.2))
  all_goals
    have hbw : Below w.heap.size w (w.alloc (Obj.cells #[.bool y, .int .i64 c, .int .i64 nn, .int .i64 kk, .string s1, .string s2, .string s3, .int .i64 d, .string u] 102)).drew := below_alloc_drew w _
    have hT := ((unhide HR).below hbw).push hgrow (by rw [unhide HK]) (by rw [unhide HK]; exact hl) (unhide HSM) hown2 (by simpa using hat)
    have HT := hide (hT.before hbw)
    clear hT hbw hown2 hgrow hat hlt hc2 hc3 hf3
    go_wp2
    go_ret
    exact ⟨rfl, by rw [unhide HK]; exact unhide HT⟩

end Go.Proofs.YtffgolanmaenfacGreatDoor

namespace Go.Proofs.YtffgolanmaenfacGreatDoor
open Go.RowKit
set_option linter.unusedSimpArgs false
set_option linter.unusedVariables false

def zeroCellsP : List Value := [.bool false, .int .i64 0, .int .i64 0, .int .i64 0, .string ⟨#[]⟩, .string ⟨#[]⟩, .string ⟨#[]⟩, .int .i64 0, .string ⟨#[]⟩]

theorem run_clearP (w : World) (ty : TypeId) (b o c : Nat) (hc : ∀ j, j < 9 → (w.cell? ⟨b, o + j, none⟩).isSome = true) (hf : ∀ j, j < 9 → w.frozen? ⟨b, o + j, none⟩ = false) :
    (Builtin.clear_ #[74] ty #[.slice (some ⟨b, o, none⟩) 1 c]).run Tryz.prog w = .ok (.tuple #[]) (w.setCells b o zeroCellsP) := by
  have hz : (Builtin.zeroCells (Value.cells (.agg #[.bool false, .int .i64 0, .int .i64 0, .int .i64 0, .string ⟨#[]⟩, .string ⟨#[]⟩, .string ⟨#[]⟩, .int .i64 0, .string ⟨#[]⟩])) 1).toList = zeroCellsP := by kernel_rfl
  have hst := run_storeCells_cells (P := Tryz.prog) b o zeroCellsP 0 w (by simpa [zeroCellsP] using hc) (by simpa [zeroCellsP] using hf) (by intro v hv; simp [zeroCellsP] at hv; rcases hv with rfl | rfl | rfl | rfl | rfl | rfl | rfl | rfl | rfl <;> rfl)
  simp only [Nat.add_zero] at hst
  have hv : ∀ w, (zeroValue 102).run Tryz.prog w = .ok (.agg #[.bool false, .int .i64 0, .int .i64 0, .int .i64 0, .string ⟨#[]⟩, .string ⟨#[]⟩, .string ⟨#[]⟩, .int .i64 0, .string ⟨#[]⟩]) w := fun w => by have := Tryz.zeroValue102 w; exact this
  simp [Builtin.clear_, run_underlying Tryz.underlying74, hv, hz, hst]

/-- The world behind: what stood behind is one place nearer; the last place is empty. -/
def delWorldP (w : World) (g n i : Nat) (news : List Value) : World := (w.setCells g (i * 9) news).setCells g ((n - 1) * 9) zeroCellsP

set_option maxRecDepth 1000000 in
set_option maxHeartbeats 2000000 in
theorem DeleteP_any (g n cap i : Nat) (news : List Value) (w : World) (hi : i < n) (hnc : n ≤ cap) (hcm : cap ≤ maxLen) (hn : n ≤ 1000)
    (hl : news.length = (n - (i + 1)) * 9) (hsrc : ∀ t u, news[t]? = some u → w.cell? ⟨g, (i + 1) * 9 + t, none⟩ = some u) (hone : ∀ u, u ∈ news → u.oneCell' = true)
    (hrow : ∀ o, o < n * 9 → (w.cell? ⟨g, o, none⟩).isSome = true ∧ w.frozen? ⟨g, o, none⟩ = false) :
    Calls Tryz.prog 195 #[.slice (some ⟨g, 0, none⟩) n cap, .int .i64 (i : Int), .int .i64 ((i : Int) + 1)] w
      fun e w' => e = .returned (.slice (some ⟨g, 0, none⟩) (n - 1) cap) ∧ w' = delWorldP w.drew g n i news := by
  obtain ⟨i0, hi0, hz0, hz1, hz2⟩ := info_parts infoPP
  unfold maxLen at hcm
  have h1 : ¬ ((i : Int) = (i : Int) + 1) := by omega
  have h2 : ((i : Int) == (i : Int) + 1) = false := by simp; omega
  obtain ⟨A, hA, hsrc2⟩ : ∃ A : Addr, (if cap = i + 1 then some (⟨g, 0, none⟩ : Addr) else some ⟨g, (i + 1) * 9, none⟩) = some A ∧ Hid (∀ t u, news[t]? = some u → w.drew.cell? (A.add t) = some u) := by
    by_cases h : cap = i + 1
    · refine ⟨⟨g, 0, none⟩, by simp [h], fun t u hu => ?_⟩
      have h0 : news.length = 0 := by rw [hl]; omega
      rw [List.length_eq_zero_iff.1 h0] at hu
      simp at hu
    · refine ⟨⟨g, (i + 1) * 9, none⟩, by simp [h], fun t u hu => ?_⟩
      have e : (⟨g, (i + 1) * 9, none⟩ : Addr).add t = ⟨g, (i + 1) * 9 + t, none⟩ := by unfold Addr.add; split <;> simp_all
      rw [e]
      exact hsrc t u hu
  have s1 : Hid (news.length = (n - (i + 1)) * 9) := hl
  have s2 : Hid (∀ u ∈ news, u.oneCell' = true) := fun u hu => hone u hu
  have s3 : Hid (∀ t, t < news.length → (w.drew.cell? ⟨g, 0 + i * 9 + t, none⟩).isSome = true ∧ w.drew.frozen? ⟨g, 0 + i * 9 + t, none⟩ = false) := by
    intro t ht
    rw [hl] at ht
    rw [Nat.zero_add]
    exact hrow _ (by omega)
  obtain ⟨W1, hW1⟩ : ∃ W1, W1 = w.drew.setCells g (0 + i * 9) news := ⟨_, rfl⟩
  have hcl : ∀ ty, (Builtin.clear_ #[74] ty #[.slice (some ⟨g, (i + (n - (i + 1))) * 9, none⟩) (n - (i + (n - (i + 1)))) (cap - (i + (n - (i + 1))))]).run Tryz.prog W1 = .ok (.tuple #[]) (W1.setCells g ((n - 1) * 9) zeroCellsP) := by
    intro ty
    have e1 : i + (n - (i + 1)) = n - 1 := by omega
    have e2 : n - (n - 1) = 1 := by omega
    rw [e1, e2]
    refine run_clearP W1 ty g ((n - 1) * 9) _ (fun j hj => ?_) (fun j hj => ?_)
    · rw [hW1]
      exact World.isSome_setCells g _ _ _ _ (hrow _ (by omega)).1
    · rw [hW1, World.frozen?_setCells]
      exact (hrow _ (by omega)).2
  have HW : Hid (W1 = w.drew.setCells g (0 + i * 9) news) := hW1
  have HD : Hid (W1.setCells g ((n - 1) * 9) zeroCellsP = delWorldP w.drew g n i news) := by rw [hW1]; unfold delWorldP; rw [Nat.zero_add]; exact rfl
  clear hW1 hl hsrc hone hrow
  have hic : i ≤ cap := by omega
  have hjc : i + 1 ≤ cap := by omega
  have hb1 : (0 : Int) ≤ (i : Int) + 1 := by omega
  have hb2 : (i : Int) + 1 ≤ (n : Int) := by omega
  go_enter Tryz.func195, Tryz.ntmps195
  go_wp2_with fail
  go_region_law (refine step_append_room rfl (.tmp 22) (.tmp 25) 74 rfl 102 i0 9 Tryz.underlying74 hi0 hz1 g 0 i cap (by simp [Act.eval, Act.put]) A (n - (i + 1)) (cap - (i + 1)) news (by simp [Act.eval, Act.put]) s1.out hsrc2.out s2.out (by omega) s3.out ?_; rw [← HW.out])
  go_wp2
  go_ret
  refine ⟨?_, HD.out⟩
  rw [show n - 1 = i + (n - (i + 1)) by omega]
  rfl



set_option maxHeartbeats 4000000 in
/-- What Take calls, and what it is worth. -/
theorem DeleteP_rep {t : TypeId} {N : Nat} {w : World} {P g n cap : Nat} {l1 l2 : List APkt} {f : APkt} (hr : PRep t N w P (.slice (some ⟨g, 0, none⟩) n cap) (l1 ++ f :: l2)) (hn : n = (l1 ++ f :: l2).length) :
    Calls Tryz.prog 195 #[.slice (some ⟨g, 0, none⟩) n cap, .int .i64 (l1.length : Int), .int .i64 ((l1.length : Int) + 1)] w
      fun e w' => e = .returned (.slice (some ⟨g, 0, none⟩) (n - 1) cap) ∧ Kept [g] w w' ∧ g ≠ P ∧ Can w' P 0 (.slice (some ⟨g, 0, none⟩) n cap) ∧
        PTurn t N w P (.slice (some ⟨g, 0, none⟩) n cap) (w'.setCell ⟨P, 0, none⟩ (.slice (some ⟨g, 0, none⟩) (n - 1) cap)) (l1 ++ l2) := by
  have hl : n ≤ 1000 := by rw [hn]; have := hr.few; omega
  have hn1 : n = l1.length + l2.length + 1 := by rw [hn]; simp; omega
  obtain ⟨hlen, h2⟩ := hr.row
  rcases h2 with ⟨e, _⟩ | ⟨g', cap', cur, he, hNg, hh, hnc, hcm, hcs, htk⟩
  · cases e
  obtain ⟨rfl, _, rfl⟩ : g = g' ∧ n = (l1 ++ f :: l2).length ∧ cap = cap' := by simpa using he
  rw [← hn] at hnc htk
  have hcell : ∀ o, w.cell? ⟨g, o, none⟩ = cur[o]? := fun o => by simp [World.cell?, hh]
  have hfz : ∀ o, w.frozen? ⟨g, o, none⟩ = false := fun o => by simp [World.frozen?, hh]
  have hflat : (l1 ++ f :: l2).flatMap pcells = l1.flatMap pcells ++ (pcells f ++ l2.flatMap pcells) := by simp
  have hfl : (pcells f).length = 9 := rfl
  have hgP : g ≠ P := fun e => hr.nd (by rw [e]; rfl)
  have hsz : n * 9 ≤ cur.size := by rw [hcs]; omega
  have hget : ∀ o, o < n * 9 → cur[o]? = ((l1 ++ f :: l2).flatMap pcells)[o]? := fun o ho => by
    rw [← htk, List.getElem?_take, if_pos ho]; simp
  have hcon := DeleteP_any g n cap l1.length (l2.flatMap pcells) w (by omega) hnc hcm hl (by rw [pflat_len]; omega)
    (fun t u hu => by
      have ht : t < l2.length * 9 := by have := (List.getElem?_eq_some_iff.1 hu).1; rwa [pflat_len] at this
      rw [hcell, hget _ (by omega), hflat, List.getElem?_append_right (by rw [pflat_len]; omega), pflat_len, List.getElem?_append_right (by rw [hfl]; omega), hfl]
      rw [show (l1.length + 1) * 9 + t - l1.length * 9 - 9 = t by omega]
      exact hu) (pflat_one l2)
    (fun o ho => ⟨by rw [hcell, Array.getElem?_eq_getElem (by omega)]; rfl, hfz o⟩)
  refine hcon.mono ?_
  rintro e w' ⟨rfl, hw'⟩
  have hlz : zeroCellsP.length = 9 := rfl
  unfold delWorldP at hw'
  generalize zeroCellsP = zs at hlz hw'
  obtain ⟨D, hD⟩ : ∃ D, D = l2.flatMap pcells := ⟨_, rfl⟩
  have hDl : D.length = l2.length * 9 := by rw [hD, pflat_len]
  rw [← hD] at hw'
  subst hw'
  have hk : Kept [g] w ((w.drew.setCells g (l1.length * 9) D).setCells g ((n - 1) * 9) zs) := by
    have h0 : Kept [g] w w.drew := ⟨rfl, rfl, rfl, Nat.le_refl _, fun _ _ _ => rfl⟩
    exact (h0.trans (kept_setCells g _ _ _) (fun x hx => .inl hx)).trans (kept_setCells g _ _ _) (fun x hx => .inl hx)
  have hP : P < w.heap.size := hr.lt
  have hcanP : Can ((w.drew.setCells g (l1.length * 9) D).setCells g ((n - 1) * 9) zs) P 0 (.slice (some ⟨g, 0, none⟩) n cap) := ⟨by rw [hk.cell hP (by simpa using Ne.symm hgP)]; exact hr.can.1, by rw [hk.frozen hP (by simpa using Ne.symm hgP)]; exact hr.can.2⟩
  have hrow : ((w.drew.setCells g (l1.length * 9) D).setCells g ((n - 1) * 9) zs).ownsRow N 102 9 (.slice (some ⟨g, 0, none⟩) (n - 1) cap) (l1 ++ l2).length ((l1 ++ l2).flatMap pcells) := by
    have hh1 : ((w.drew.setCells g (l1.length * 9) D).setCells g ((n - 1) * 9) zs).heap[g]? = some (.cells (putList (putList cur (l1.length * 9) D) ((n - 1) * 9) zs) 102 (0, 0)) :=
      heap_setCells g 102 (0, 0) _ _ _ _ (heap_setCells g 102 (0, 0) _ _ _ _ hh)
    have hm : (l1 ++ l2).length = n - 1 := by simp; omega
    rw [hm]
    refine ⟨by rw [pflat_len, hm], .inr ⟨g, cap, _, rfl, hNg, hh1, by omega, hcm, by rw [putList_size, putList_size]; exact hcs, ?_⟩⟩
    have e1 := putList_toList D (l1.length * 9) cur (by rw [hDl]; omega)
    have e2 := putList_toList zs ((n - 1) * 9) (putList cur (l1.length * 9) D) (by rw [putList_size, hlz]; omega)
    have e3 : cur.toList.take (l1.length * 9) = l1.flatMap pcells := by
      have : cur.toList.take (l1.length * 9) = (cur.toList.take (n * 9)).take (l1.length * 9) := by rw [List.take_take]; congr 1; omega
      rw [this, htk, hflat, List.take_left' (pflat_len l1)]
    rw [e2, List.append_assoc, List.take_append_of_le_length (by rw [List.length_take, Array.length_toList, putList_size]; omega), List.take_take, Nat.min_self, e1, e3,
      List.take_append_of_le_length (by rw [List.length_append, pflat_len, hDl]; omega), List.take_of_length_le (by rw [List.length_append, pflat_len, hDl]; omega), hD]
    simp
  refine ⟨rfl, hk, hgP, hcanP, .slice (some ⟨g, 0, none⟩) (n - 1) cap, ⟨hr.new, ?_, ?_, ?_, ?_, ?_⟩, ?_, ?_⟩
  · rw [heap_setCell_same (c := #[.slice (some ⟨g, 0, none⟩) n cap]) (e := t) (fr := (0, 0))]
    · simp
    · rw [hk.block P hP (by simpa using Ne.symm hgP)]; exact hr.blk
  · exact ownsRow_same hrow fun k hk2 => by
      have : k = g := by simpa [Value.ownBlock] using hk2.symm
      rw [this]
      exact Below.heap_setCell _ _ _ _ hgP
  · intro e
    simp [Value.ownBlock] at e
    exact hgP e
  · have := hr.few; simp at this ⊢; omega
  · intro x hx
    exact hr.small x (by simp at hx ⊢; rcases hx with h | h; exact .inl h; exact .inr (.inr h))
  · have k1 : Kept (powns P (.slice (some ⟨g, 0, none⟩) n cap)) w ((w.drew.setCells g (l1.length * 9) D).setCells g ((n - 1) * 9) zs) := ⟨hk.os, hk.tape, hk.output, hk.size, fun k h1 h2 => hk.block k h1 (fun h3 => h2 (List.mem_cons_of_mem _ (by simpa [Value.ownBlock] using h3)))⟩
    exact k1.trans (kept_setCell _ _ _ _ _ List.mem_cons_self) (fun x hx => .inl hx)
  · intro k hk2
    exact .inl hk2

end Go.Proofs.YtffgolanmaenfacGreatDoor

namespace Go.Proofs.YtffgolanmaenfacGreatDoor
open Go.RowKit
set_option linter.unusedSimpArgs false
set_option linter.unusedVariables false

def zArr : Array Value := #[.bool false, .int .i64 0, .int .i64 0, .int .i64 0, .string ⟨#[]⟩, .string ⟨#[]⟩, .string ⟨#[]⟩, .int .i64 0, .string ⟨#[]⟩]
theorem psplit {ms : List APkt} {j : Nat} {f : APkt} (h : ms[j]? = some f) : ∃ l1 l2, ms = l1 ++ f :: l2 ∧ l1.length = j ∧ ms.eraseIdx j = l1 ++ l2 := by
  obtain ⟨hj, hf⟩ := List.getElem?_eq_some_iff.1 h
  refine ⟨ms.take j, ms.drop (j + 1), ?_, by simp; omega, ?_⟩
  · rw [← hf, List.getElem_cons_drop, List.take_append_drop]
  · rw [List.eraseIdx_eq_take_drop_succ]

set_option maxRecDepth 100000 in
set_option maxHeartbeats 4000000 in
theorem Take_Pnone {N : Nat} {w : World} {P : Nat} {v : Value} (h : PRep 116 N w P v []) (n : Int) :
    Calls Tryz.prog 164 #[.pointer (some ⟨P, 0, none⟩), .int .i64 n] w fun e w' => e = .returned (.tuple #[zeroPkt.val, .bool false]) ∧ PTurn 116 N w P v w' [] := by
  obtain ⟨V, hV⟩ : ∃ V, V = w.alloc (.cells zArr 102) := ⟨_, rfl⟩
  have hBV : Below w.heap.size w V := by rw [hV]; exact (Below.refl _ _).alloc (Nat.le_refl _) _
  have hXV : V.heap[w.heap.size]? = some (.cells zArr 102 (0, 0)) := by rw [hV]; exact heap_alloc_new _ _
  obtain ⟨V5, hV5⟩ : ∃ W, W = V.setRow w.heap.size zArr := ⟨_, rfl⟩
  have hZ : V5.heap[w.heap.size]? = some (.cells zArr 102 (0, 0)) := by rw [hV5]; exact setRow_heap V w.heap.size _ _ 102 (0, 0) hXV
  have hB5 : Below w.heap.size w V5 := by
    rw [hV5]
    exact ⟨hBV.os, hBV.tape, hBV.output, by simp [World.setRow]; exact hBV.size, fun k hk => (setRow_other V w.heap.size k _ (by omega)).trans (hBV.block k hk)⟩
  have HT := hide (PTurn.of_below h hB5)
  obtain ⟨⟨z0, z1, z2, z3⟩, ⟨z4, z5, z6, z7, z8⟩, _⟩ := nine hZ
  have hc := h.can.1
  have hPl := h.lt
  obtain ⟨a, cap, rfl⟩ := h.form
  have hcV := (hBV.cell (p := ⟨P, 0, none⟩) hPl).trans hc
  have HV := hide hV
  dsimp only [zeroPkt, APkt.val, zArr, List.length_nil] at *
  clear h hBV hZ hB5 hV
  rw [unhide HV] at hXV hV5
  go_enter Tryz.func164, Tryz.ntmps164
  go_wp2_with (refine wpList_store_row rfl 102 _ _ rfl w.heap.size #[.bool false, .int .i64 0, .int .i64 0, .int .i64 0, .string ⟨#[]⟩, .string ⟨#[]⟩, .string ⟨#[]⟩, .int .i64 0, .string ⟨#[]⟩] rfl rfl 102 _ hXV infoP rfl (by simp [Value.oneCell']) ?_)
  rw [← hV5]
  refine bodyPost_ret (v := .tuple #[.agg #[.bool false, .int .i64 0, .int .i64 0, .int .i64 0, .string ⟨#[]⟩, .string ⟨#[]⟩, .string ⟨#[]⟩, .int .i64 0, .string ⟨#[]⟩], .bool false]) (by simp [results, Tryz.results164, go_sem, z0, z1, z2, z3, z4, z5, z6, z7, z8]) rfl ⟨rfl, unhide HT⟩

/-- What was put into a block of the call's own leaves the object. -/
theorem PTurn.store {t : TypeId} {N : Nat} {w V W3 W4 : World} {P : Nat} {v : Value} {ms ms' : List APkt} {R : Nat} (h0 : PRep t N w P v ms) (hb : Below w.heap.size w V) (hT : PTurn t N V P v W3 ms') (hR1 : w.heap.size ≤ R) (hR2 : R < V.heap.size) (hk : Kept [R] W3 W4) : PTurn t N w P v W4 ms' := by
  obtain ⟨v', hr, hk1, hn⟩ := hT
  refine ⟨v', hr.kept hk (fun k h1 h2 => ?_), ((Kept.of_below hb).trans hk1 (fun x hx => .inl hx)).trans hk (fun x hx => ?_), fun k hk2 => ?_⟩
  · simp at h2
    subst h2
    rcases hn _ h1 with h3 | h3
    · have := (h0.ge _ h3).2; omega
    · omega
  · simp at hx; subst hx; exact .inr hR1
  · rcases hn k hk2 with h | h
    · exact .inl h
    · right; have := hb.size; omega
theorem kept_setRow (w : World) (b : Nat) (cs : Array Value) : Kept [b] w (w.setRow b cs) := ⟨rfl, rfl, rfl, by simp [World.setRow], fun k hk hn => setRow_other w b k cs (by simpa using hn)⟩

set_option maxRecDepth 100000 in
set_option maxHeartbeats 8000000 in
theorem Take_P {N : Nat} {w : World} {P : Nat} {v : Value} {l1 l2 : List APkt} {m : APkt} (h : PRep 116 N w P v (l1 ++ m :: l2)) (n : Int) (hr : rnd n (l1 ++ m :: l2).length = l1.length) :
    Calls Tryz.prog 164 #[.pointer (some ⟨P, 0, none⟩), .int .i64 n] w fun e w' => e = .returned (.tuple #[m.val, .bool true]) ∧ PTurn 116 N w P v w' (l1 ++ l2) := by
  obtain ⟨k, hk⟩ : ∃ k, (l1 ++ m :: l2).length = k := ⟨_, rfl⟩
  obtain ⟨r, hrr⟩ : ∃ r, l1.length = r := ⟨_, rfl⟩
  have hrk : r < k := by rw [← hk, ← hrr]; simp
  have hk40 : k ≤ 40 := by rw [← hk]; exact h.few
  obtain ⟨V, hV⟩ : ∃ V, V = w.alloc (.cells zArr 102) := ⟨_, rfl⟩
  have hBV : Below w.heap.size w V := by rw [hV]; exact (Below.refl _ _).alloc (Nat.le_refl _) _
  have hRV : V.heap[w.heap.size]? = some (.cells zArr 102 (0, 0)) := by rw [hV]; exact heap_alloc_new _ _
  have hrV := h.below hBV
  have HRD := hide (round_P hrV n hk (by omega))
  rw [hk, hrr] at hr
  rw [hr] at HRD
  have HCL := hide (fun W => clone_P m W (h.small m (by simp)))
  obtain ⟨a, cap, rfl⟩ := h.form
  obtain ⟨g0, hg0, hc⟩ := (pkts_row hrV.row rfl).2 (by rw [hk]; omega)
  have hat := hc r m (by rw [← hrr]; simp)
  cases hg0
  have HH := hide h
  have HRV := hide hrV
  have hcV := hrV.can.1
  have hcw := h.can.1
  have hPl := h.lt
  have hgl : g0 < w.heap.size := (h.row.lt g0 rfl).2
  rw [hk] at hcV hcw
  have hzV : V.heap.size = w.heap.size + 1 := by rw [hV]; simp
  have hri : (r : Int) < (k : Int) := by omega
  have hr0 : (0 : Int) ≤ (r : Int) := by omega
  have h0i : ((k : Int) == 0) = false := by simp; omega
  have hwr : IntKind.i64.wrap ((r : Int) + 1) = (r : Int) + 1 := by rw [IntKind.wrap_i64]; omega
  obtain ⟨x0, x1, x2, x3, x4, x5, x6, x7, x8⟩ := hat
  have HHK := hide hk
  have HRR := hide hrr
  have HBV := hide hBV
  have HRB := hide hRV
  have HV := hide hV
  have HDL := hide (fun W (hW : PRep 116 N W P (.slice (some ⟨g0, 0, none⟩) k cap) (l1 ++ m :: l2)) => DeleteP_rep hW hk.symm)
  rw [hrr] at HDL
  rw [hk] at HH HRV
  have HVV : Hid (∀ x : Value, x = (.slice (some ⟨g0, 0, none⟩) k cap : Value) → x = (.slice (some ⟨g0, 0, none⟩) (l1 ++ m :: l2).length cap)) := fun x hx => by rw [hx, hk]
  clear h hc hBV hRV hrV hV hk hrr hr
  obtain ⟨y, c, nn, ⟨kk, s1, s2, s3⟩, d, u⟩ := m
  dsimp only [APkt.val, zArr] at *
  go_enter Tryz.func164, Tryz.ntmps164
  go_wp2_with fail
  rw [← unhide HV]
  clear hcw
  refine (unhide HRD).mono ?_
  rintro e w0 ⟨rfl, hw0⟩
  obtain rfl := hw0.symm
  clear hw0
  go_wp2_with fail
  refine ((unhide HCL) _).mono ?_
  rintro e w1 ⟨rfl, b1⟩
  clear x0 x1 x2 x3 x4 x5 x6 x7 x8 hcV
  obtain ⟨V1, hV1⟩ : ∃ V1, V1 = w1.alloc (.cells #[.bool y, .int .i64 c, .int .i64 nn, .int .i64 kk, .string s1, .string s2, .string s3, .int .i64 d, .string u] 102) := ⟨_, rfl⟩
  have hb1 : Below w1.heap.size w1 V1 := by rw [hV1]; exact (Below.refl _ _).alloc (Nat.le_refl _) _
  have hbV1 : Below V.heap.size V V1 := b1.trans (hb1.mono b1.size)
  have hMV1 : V1.heap[w1.heap.size]? = some (.cells #[.bool y, .int .i64 c, .int .i64 nn, .int .i64 kk, .string s1, .string s2, .string s3, .int .i64 d, .string u] 102 (0, 0)) := by rw [hV1]; exact heap_alloc_new _ _
  have hRV1 := (hbV1.block w.heap.size (by omega)).trans (unhide HRB)
  have hrV1 := (unhide HRV).below hbV1
  have HDL1 := hide ((unhide HDL) V1 hrV1)
  have hcw1 := ((unhide HRV).below b1).can.1
  have hPw1 : P < w1.heap.size := ((unhide HRV).below b1).lt
  have HbV1 := hide ((unhide HBV).trans (hbV1.mono (unhide HBV).size))
  have HMV1 := hide hMV1
  have HRV1 := hide hRV1
  have HV1 := hide hV1
  have hz1 : V.heap.size ≤ w1.heap.size := b1.size
  have hzV1 : V1.heap.size = w1.heap.size + 1 := by rw [hV1]; simp
  clear b1 hb1 hbV1 hMV1 hRV1 hrV1 hV1
  go_wp2_with fail
  rw [← unhide HV1]
  clear hcw1
  refine (unhide HDL1).mono ?_
  rintro e w2 ⟨rfl, hk2, hgP, hcan2, hT2⟩
  obtain ⟨W3, hW3⟩ : ∃ W3, W3 = w2.setCell ⟨P, 0, none⟩ (.slice (some ⟨g0, 0, none⟩) (k - 1) cap) := ⟨_, rfl⟩
  rw [← hW3] at hT2
  have hM2 := (hk2.block w1.heap.size (by omega) (by simp; omega)).trans (unhide HMV1)
  have hR2 := (hk2.block w.heap.size (by omega) (by simp; omega)).trans (unhide HRV1)
  have hR3 := (Below.heap_setCell w2 ⟨P, 0, none⟩ (.slice (some ⟨g0, 0, none⟩) (k - 1) cap) w.heap.size (by simp; omega)).trans hR2
  rw [← hW3] at hR3
  obtain ⟨⟨m0, m1, m2, m3⟩, ⟨m4, m5, m6, m7, m8⟩, _⟩ := nine hM2
  have hcp := hcan2.1
  have hcf := hcan2.2
  obtain ⟨W4, hW4⟩ : ∃ W4, W4 = W3.setRow w.heap.size #[.bool y, .int .i64 c, .int .i64 nn, .int .i64 kk, .string s1, .string s2, .string s3, .int .i64 d, .string u] := ⟨_, rfl⟩
  have hZ : W4.heap[w.heap.size]? = some (.cells #[.bool y, .int .i64 c, .int .i64 nn, .int .i64 kk, .string s1, .string s2, .string s3, .int .i64 d, .string u] 102 (0, 0)) := by rw [hW4]; exact setRow_heap W3 w.heap.size _ _ 102 (0, 0) hR3
  have hT4 := PTurn.store (W4 := W4) (R := w.heap.size) (unhide HH) (unhide HbV1) hT2 (Nat.le_refl _) (by omega) (by rw [hW4]; exact kept_setRow W3 _ _)
  have HT4 := hide hT4
  obtain ⟨⟨z0, z1, z2, z3⟩, ⟨z4, z5, z6, z7, z8⟩, _⟩ := nine hZ
  rw [hW3] at hR3 hW4
  clear hk2 hcan2 hT2 hM2 hR2 hT4 hZ hW3
  go_wp2_with (refine wpList_store_row rfl 102 _ _ rfl w.heap.size #[.bool y, .int .i64 c, .int .i64 nn, .int .i64 kk, .string s1, .string s2, .string s3, .int .i64 d, .string u] rfl rfl 102 _ hR3 infoP rfl (by simp [Value.oneCell']) ?_)
  rw [← hW4]
  refine bodyPost_ret (v := .tuple #[.agg #[.bool y, .int .i64 c, .int .i64 nn, .int .i64 kk, .string s1, .string s2, .string s3, .int .i64 d, .string u], .bool true]) (by simp [results, Tryz.results164, go_sem, z0, z1, z2, z3, z4, z5, z6, z7, z8]) rfl ⟨rfl, by rw [unhide HHK]; exact unhide HT4⟩

end Go.Proofs.YtffgolanmaenfacGreatDoor

namespace Go.Proofs.YtffgolanmaenfacGreatDoor
open Go.RowKit
set_option linter.unusedSimpArgs false
set_option linter.unusedVariables false

def aSend (ms : List APkt) (m : APkt) : List APkt := if ms.length < 40 then ms ++ [m] else ms
def aTakeM (ms : List APkt) (n : Int) : APkt := (ms[rnd n ms.length]?).getD zeroPkt
def aTakeL (ms : List APkt) (n : Int) : List APkt := ms.eraseIdx (rnd n ms.length)
def aTakeB (ms : List APkt) : Bool := decide (0 < ms.length)
def aDblB (ms : List APkt) : Bool := decide (0 < ms.length) && decide (ms.length < 40)
def aDblL (ms : List APkt) (n : Int) : List APkt := if 0 < ms.length then aSend ms (aTakeM ms n) else ms
theorem take_some {ms : List APkt} (n : Int) (h : 0 < ms.length) : ms[rnd n ms.length]? = some (aTakeM ms n) := by
  unfold aTakeM
  rw [List.getElem?_eq_getElem (rnd_lt n h)]
  rfl

theorem PSend_any {N : Nat} {w : World} {P : Nat} {v : Value} {ms : List APkt} (h : PRep 116 N w P v ms) (m : APkt) (hm : SmallP m) :
    Calls Tryz.prog 161 #[.pointer (some ⟨P, 0, none⟩), m.val] w fun e w' => e = .returned (.bool (decide (ms.length < 40))) ∧ PTurn 116 N w P v w' (aSend ms m) := by
  unfold aSend
  by_cases hl : ms.length < 40
  · rw [if_pos hl, decide_eq_true hl]; exact Send_P h m hm hl
  · rw [if_neg hl, decide_eq_false hl]; exact Send_Pfull h m hl
theorem PTake_any {N : Nat} {w : World} {P : Nat} {v : Value} {ms : List APkt} (h : PRep 116 N w P v ms) (n : Int) :
    Calls Tryz.prog 164 #[.pointer (some ⟨P, 0, none⟩), .int .i64 n] w fun e w' => e = .returned (.tuple #[(aTakeM ms n).val, .bool (aTakeB ms)]) ∧ PTurn 116 N w P v w' (aTakeL ms n) := by
  by_cases h0 : 0 < ms.length
  · obtain ⟨l1, l2, e1, e2, e3⟩ := psplit (take_some n h0)
    unfold aTakeB aTakeL
    rw [decide_eq_true h0, e3]
    obtain ⟨q, hq⟩ : ∃ q, aTakeM ms n = q := ⟨_, rfl⟩
    rw [hq] at e1 ⊢
    subst e1
    exact Take_P h n e2.symm
  · obtain rfl : ms = [] := List.length_eq_zero_iff.1 (by omega)
    exact Take_Pnone h n
theorem PDbl_any {N : Nat} {w : World} {P : Nat} {v : Value} {ms : List APkt} (h : PRep 116 N w P v ms) (n : Int) :
    Calls Tryz.prog 163 #[.pointer (some ⟨P, 0, none⟩), .int .i64 n] w fun e w' => e = .returned (.bool (aDblB ms)) ∧ PTurn 116 N w P v w' (aDblL ms n) := by
  unfold aDblB aDblL aSend
  by_cases h0 : 0 < ms.length
  · by_cases hl : ms.length < 40
    · rw [if_pos h0, if_pos hl, decide_eq_true h0, decide_eq_true hl]
      exact Double_P h n h0 hl (take_some n h0)
    · rw [if_pos h0, if_neg hl, decide_eq_true h0, decide_eq_false hl]
      refine (Double_Pnot h n (.inr (by omega))).mono ?_
      rintro e w' ⟨rfl, rfl⟩
      exact ⟨rfl, PTurn.of_below h (Below.refl _ _)⟩
  · rw [if_neg h0, decide_eq_false h0]
    refine (Double_Pnot h n (.inl (by omega))).mono ?_
    rintro e w' ⟨rfl, rfl⟩
    exact ⟨rfl, PTurn.of_below h (Below.refl _ _)⟩
end Go.Proofs.YtffgolanmaenfacGreatDoor

namespace Go.Proofs.YtffgolanmaenfacGreatDoor
open Go.RowKit
set_option linter.unusedSimpArgs false
set_option linter.unusedVariables false

theorem rnd0 {k : Nat} (hk : 0 < k) : rnd 0 k = 0 := by
  unfold rnd
  have h : IntKind.u64.wrap 0 = 0 := by rw [wrap_u]; rfl
  rw [h]
  simp
theorem vtail_small (l : List (List UInt8)) (h : ∀ x, x ∈ l → x.length ≤ 5) : (Lib.joinTail [32] l).length ≤ 6 * l.length := by
  induction l with
  | nil => simp [Lib.joinTail]
  | cons x xs ih =>
    have hx := h x (by simp)
    have := ih fun y hy => h y (List.mem_cons_of_mem _ hy)
    unfold Lib.joinTail at this ⊢
    simp only [List.map_cons, List.flatten_cons, List.length_append, List.length_cons] at this ⊢
    simp only [List.length_nil] at this ⊢
    omega
theorem vjoin_small (l : List (List UInt8)) (h : ∀ x, x ∈ l → x.length ≤ 5) : (Lib.join l [32]).length ≤ 6 * l.length := by
  cases l with
  | nil => simp [Lib.join_nil]
  | cons x xs =>
    have hx := h x (by simp)
    have := vtail_small xs fun y hy => h y (List.mem_cons_of_mem _ hy)
    rw [Lib.join_cons, List.length_append, List.length_cons]
    omega
theorem joinNames_small {st : List AFile} (h : Inv st) : (joinNames st).size ≤ 36 := by
  have h1 : (joinNames st).size = (Lib.join ((sNames st).map (·.data.toList)) [32]).length := by unfold joinNames; show (List.toArray _).size = _; simp
  have h2 := vjoin_small ((sNames st).map (fun x => x.data.toList)) fun x hx => by
    obtain ⟨s, hs, rfl⟩ := List.mem_map.1 hx
    have := nameB_size (sNames_named h hs)
    have e : s.size = s.data.toList.length := by show s.data.size = _; rw [Array.length_toList]
    omega
  have h3 := h.few
  rw [List.length_map, sNames_length] at h2
  omega
theorem aDo_small' {st : List AFile} (h : Inv st) (c : ACall) : (aDo st c).text.size ≤ 100 := by
  have hz : (ByteArray.empty).size = 0 := rfl
  have hj := joinNames_small h
  unfold aDo
  split
  · dsimp only; omega
  split
  · dsimp only; omega
  split
  · dsimp only; omega
  split
  · dsimp only; omega
  split
  · dsimp only; omega
  split
  · dsimp only; omega
  split
  · dsimp only; omega
  · dsimp only
    unfold fileAt
    by_cases hi : fIdx c.name st < st.length
    · have hg : st.getD (fIdx c.name st) ⟨ByteArray.empty, ByteArray.empty⟩ = st[fIdx c.name st] := by simp [List.getD, hi]
      rw [hg]
      have := h.short _ (List.getElem_mem hi)
      omega
    · have hg : st.getD (fIdx c.name st) ⟨ByteArray.empty, ByteArray.empty⟩ = ⟨ByteArray.empty, ByteArray.empty⟩ := by simp [List.getD, hi]
      rw [hg]; dsimp only; omega
theorem aDo_small (L : List ARec) (c : ACall) : (aDo (behind L) c).text.size ≤ 100 := aDo_small' (behind_inv L) c
theorem tb_three (a b t : ByteArray) : (tb [a, b, t]).length = 3 + a.size + b.size + t.size := by
  unfold tb
  simp [ebytes_length]
  omega
theorem enc_new {client no : Int} {c : ACall} (h1 : ¬ (client < 0 ∨ 2 < client ∨ no < 1 ∨ 200 < no)) (h2 : checkI c = 0) (h3 : changesB c.kind = true) (d : Int) (u : ByteArray) : (encL ⟨client, no, c, d, u⟩).length ≤ 21 := by
  obtain ⟨hk0, hk1⟩ := changesB_iff.1 h3
  obtain ⟨_, _, hfm, hnm, htx⟩ := check_zero h2
  have hn := nameB_size (named_name hnm (by omega))
  have hf2 := hfm
  unfold formedB at hf2
  simp only [Bool.and_eq_true, Bool.or_eq_true] at hf2
  obtain ⟨⟨_, f1⟩, f2⟩ := hf2
  rw [encL_length]
  unfold ARec.texts
  dsimp only
  rw [tb_three]
  by_cases k3 : c.kind = 3
  · have := nameB_size (named_dst hnm k3)
    have h0 : c.text.size = 0 := by
      rcases f2 with f | f
      · exact emptyB_size f
      · simp at f; omega
    omega
  · have h0 : c.dst.size = 0 := by
      rcases f1 with f | f
      · exact emptyB_size f
      · simp at f; omega
    rcases f2 with f | f
    · have := emptyB_size f
      omega
    · have h4 : c.kind = 4 := by simpa using f
      have := htx h4
      unfold textB withinB at this
      simp only [Bool.and_eq_true, decide_eq_true_eq] at this
      omega
theorem enc_small {r : ARec} (h : recI r = 0) : (encL r).length ≤ 21 ∧ r.ans.size = 0 := by
  have k := rec_ok h
  have := enc_new (client := r.client) (no := r.no) (c := r.call) (by have := k.c0; have := k.c1; have := k.n0; have := k.n1; omega) k.chk (changesB_iff.2 ⟨k.k0, k.k1⟩) r.code r.ans
  refine ⟨this, ?_⟩
  rw [k.ans]; rfl

end Go.Proofs.YtffgolanmaenfacGreatDoor

namespace Go.Proofs.YtffgolanmaenfacGreatDoor
open Go.RowKit
set_option linter.unusedSimpArgs false
set_option linter.unusedVariables false

/-- A client: whose, what was answered, its call, is that open? -/
structure ACli where
  me : Int
  done : List ARec
  call : ACall
  op : Bool
def zeroCall : ACall := ⟨0, ⟨#[]⟩, ⟨#[]⟩, ⟨#[]⟩⟩
def SmallC (x : ACall) : Prop := x.name.size ≤ 281474976710656 ∧ x.dst.size ≤ 281474976710656 ∧ x.text.size ≤ 281474976710656
def ACli.no (c : ACli) : Int := (c.done.length : Int) + 1
def ACli.ask (c : ACli) (x : ACall) : Int := if checkI x ≠ 0 then checkI x else if c.op = true then 11 else if 200 ≤ c.done.length then 7 else 0
def ACli.asked (c : ACli) (x : ACall) : ACli := if c.ask x = 0 then ⟨c.me, c.done, x, true⟩ else c
def ACli.pkt (c : ACli) : APkt := if c.op = true then ⟨false, c.me, c.no, c.call, 0, ⟨#[]⟩⟩ else zeroPkt
def ACli.hears (c : ACli) (p : APkt) : Bool := c.op && p.reply && p.client == c.me && p.no == c.no && callB p.call c.call
def ACli.rcd (c : ACli) (p : APkt) : ARec := ⟨c.me, c.no, c.call, p.code, p.ans⟩
def ACli.heard (c : ACli) (p : APkt) : ACli := if c.hears p = true then ⟨c.me, c.done ++ [c.rcd p], zeroCall, false⟩ else c

structure COk (c : ACli) : Prop where
  few : c.done.length ≤ 200
  room : c.op = true → c.done.length < 200
  small : ∀ r, r ∈ c.done → SmallC r.call ∧ r.ans.size ≤ 281474976710656
  smallc : SmallC c.call
  num : ∀ (k : Nat) (r : ARec), c.done[k]? = some r → r.client = c.me ∧ r.no = (k : Int) + 1
theorem zeroCall_small : SmallC zeroCall := by unfold SmallC zeroCall; decide
theorem COk.start (me : Int) : COk ⟨me, [], zeroCall, false⟩ := ⟨by simp, by simp, by simp, zeroCall_small, by simp⟩
theorem COk.asked {c : ACli} (h : COk c) {x : ACall} (hx : SmallC x) : COk (c.asked x) := by
  unfold ACli.asked
  by_cases h0 : c.ask x = 0
  · rw [if_pos h0]
    refine ⟨h.few, fun _ => ?_, h.small, hx, h.num⟩
    unfold ACli.ask at h0
    show c.done.length < 200
    by_cases h1 : checkI x ≠ 0
    · rw [if_pos h1] at h0; exact absurd h0 h1
    · rw [if_neg h1] at h0
      by_cases h2 : c.op = true
      · rw [if_pos h2] at h0; omega
      · rw [if_neg h2] at h0
        by_cases h3 : 200 ≤ c.done.length
        · rw [if_pos h3] at h0; omega
        · omega
  · rw [if_neg h0]; exact h
theorem COk.heard {c : ACli} (h : COk c) {p : APkt} (hp : SmallP p) : COk (c.heard p) := by
  unfold ACli.heard
  by_cases h0 : c.hears p = true
  · rw [if_pos h0]
    have hop : c.op = true := by
      unfold ACli.hears at h0
      simp only [Bool.and_eq_true] at h0
      exact h0.1.1.1.1
    have hr := h.room hop
    refine ⟨by simp; omega, by simp, fun r hr => ?_, zeroCall_small, fun k r hk => ?_⟩
    · rcases List.mem_append.1 hr with h1 | h1
      · exact h.small r h1
      · simp at h1; subst h1; exact ⟨h.smallc, hp.2.2.2⟩
    · have hk : (c.done ++ [c.rcd p])[k]? = some r := hk
      by_cases hl : k < c.done.length
      · rw [List.getElem?_append_left hl] at hk
        exact h.num k r hk
      · have e : k = c.done.length := by
          have := (List.getElem?_eq_some_iff.1 hk).1
          simp at this; omega
        subst e
        simp at hk
        subst hk
        exact ⟨rfl, rfl⟩
  · rw [if_neg h0]; exact h
theorem pkt_small {c : ACli} (h : COk c) : SmallP c.pkt := by
  unfold ACli.pkt
  by_cases h0 : c.op = true
  · rw [if_pos h0]; exact ⟨h.smallc.1, h.smallc.2.1, h.smallc.2.2, by show (0 : Nat) ≤ _; omega⟩
  · rw [if_neg h0]; unfold SmallP zeroPkt; decide

/-- A client's cells; a Guest's (x: the call that it keeps). -/
def kcells (c : ACli) (v : Value) : Array Value := #[.int .i64 c.me, v, .int .i64 c.call.kind, .string c.call.name, .string c.call.dst, .string c.call.text, .bool c.op]
/-- An object at block X with a list of records v. -/
structure ORep (t : TypeId) (N : Nat) (w : World) (X : Nat) (f : Value → Array Value) (v : Value) (rs : List ARec) : Prop where
  new : N ≤ X
  blk : w.heap[X]? = some (.cells (f v) t (0, 0))
  row : w.ownsRow N 111 8 v rs.length (rs.flatMap rcells)
  nd : v.ownBlock ≠ some X
section
variable {t : TypeId} {N : Nat} {w w' : World} {X : Nat} {f f' : Value → Array Value} {v : Value} {rs : List ARec}
theorem ORep.lt (h : ORep t N w X f v rs) : X < w.heap.size := (Array.getElem?_eq_some_iff.1 h.blk).1
theorem ORep.ge (h : ORep t N w X f v rs) : ∀ k, k ∈ powns X v → N ≤ k ∧ k < w.heap.size := fun k hk => by
  rcases List.mem_cons.1 hk with rfl | hk
  · exact ⟨h.new, h.lt⟩
  · exact h.row.lt k (by simpa using hk)
theorem ORep.same (h : ORep t N w X f v rs) (hs : ∀ k, k ∈ powns X v → w'.heap[k]? = w.heap[k]?) : ORep t N w' X f v rs :=
  ⟨h.new, (hs X List.mem_cons_self).trans h.blk, ownsRow_same h.row (fun k hk => hs k (List.mem_cons_of_mem _ (by simpa using hk))), h.nd⟩
theorem ORep.below (h : ORep t N w X f v rs) (hb : Below w.heap.size w w') : ORep t N w' X f v rs := h.same fun k hk => hb.block k (h.ge k hk).2
theorem ORep.kept {o : List Nat} (h : ORep t N w X f v rs) (hk : Kept o w w') (hd : ∀ k, k ∈ powns X v → k ∉ o) : ORep t N w' X f v rs := h.same fun k h1 => hk.block k (h.ge k h1).2 (hd k h1)
theorem ORep.form (h : ORep t N w X f v rs) : ∃ a cap, v = .slice a rs.length cap := row_form h.row
theorem ORep.size (h : ORep t N w X f v rs) : N ≤ w.heap.size := Nat.le_trans h.new (Nat.le_of_lt h.lt)

/-- From w to w' the object has come to f', rs. -/
def OTurn (t : TypeId) (N : Nat) (w : World) (X : Nat) (v : Value) (w' : World) (f' : Value → Array Value) (rs : List ARec) : Prop :=
  ∃ v', ORep t N w' X f' v' rs ∧ Kept (powns X v) w w' ∧ ∀ k, k ∈ powns X v' → k ∈ powns X v ∨ w.heap.size ≤ k
theorem OTurn.of_below (h : ORep t N w X f v rs) (hb : Below w.heap.size w w') : OTurn t N w X v w' f rs := ⟨v, h.below hb, Kept.of_below hb, fun k hk => .inl hk⟩
theorem OTurn.before {w0 : World} (hb : Below w.heap.size w w0) (h : OTurn t N w0 X v w' f' rs) : OTurn t N w X v w' f' rs := by
  obtain ⟨v', h1, h2, h3⟩ := h
  refine ⟨v', h1, (Kept.of_below hb).trans h2 (fun x hx => .inl hx), fun k hk => ?_⟩
  rcases h3 k hk with h | h
  · exact .inl h
  · right; have := hb.size; omega
/-- Its own cells alone are others. -/
theorem ORep.reblk (h : ORep t N w X f v rs) (hb : w'.heap[X]? = some (.cells (f' v) t (0, 0))) (hk : Kept [X] w w') : OTurn t N w X v w' f' rs := by
  refine ⟨v, ⟨h.new, hb, ownsRow_same h.row (fun k e => hk.block k (h.row.lt k e).2 (fun hm => ?_)), h.nd⟩, ⟨hk.os, hk.tape, hk.output, hk.size, fun k h1 h2 => hk.block k h1 (fun hm => h2 ?_)⟩, fun k hk => .inl hk⟩
  · simp at hm; subst hm; exact h.nd e
  · simp at hm; subst hm; exact List.mem_cons_self
/-- One record more; then its own cells are others. -/
theorem ORep.push {w3 : World} (h : ORep t N w X f v rs) {g cap n : Nat} {r : ARec} (hg : w.grownBy w3 v.ownBlock) (hn : n = rs.length + 1)
    (hown : w3.ownsRow N 111 8 (.slice (some ⟨g, 0, none⟩) n cap) n (rs.flatMap rcells ++ rcells r)) (hat : v.ownBlock = some g ∨ g = w.heap.size) (hk : Kept [X] w3 w') (hb : w'.heap[X]? = some (.cells (f' (.slice (some ⟨g, 0, none⟩) n cap)) t (0, 0))) :
    OTurn t N w X v w' f' (rs ++ [r]) := by
  have hX := h.lt
  have hgX : g ≠ X := by
    rcases hat with h1 | h1
    · intro e; subst e; exact h.nd h1
    · omega
  refine ⟨.slice (some ⟨g, 0, none⟩) n cap, ⟨h.new, hb, ?_, ?_⟩, ?_, ?_⟩
  · have e1 : (rs ++ [r]).length = n := by simp [hn]
    have e2 : (rs ++ [r]).flatMap rcells = rs.flatMap rcells ++ rcells r := by simp
    rw [e1, e2]
    exact ownsRow_same hown fun k e => hk.block k (hown.lt k e).2 (fun hm => by
      simp at hm; subst hm
      have : g = k := by simpa [Value.ownBlock] using e
      exact hgX this)
  · intro e
    simp [Value.ownBlock] at e
    exact hgX e
  · have k1 : Kept (powns X v) w w3 := ⟨hg.os, hg.tape, hg.output, hg.size, fun k h1 h2 => hg.block k h1 (fun e => h2 (List.mem_cons_of_mem _ (by simp [e])))⟩
    exact k1.trans hk (fun x hx => .inl (by simp at hx; subst hx; exact List.mem_cons_self))
  · intro k hk
    rcases List.mem_cons.1 hk with rfl | hk
    · exact .inl List.mem_cons_self
    · have : k = g := by simpa [Value.ownBlock] using hk
      rcases hat with h1 | h1
      · exact .inl (List.mem_cons_of_mem _ (by rw [this]; simp [h1]))
      · right; omega
end

/-- A client at X; a Guest at X (x: the call that it keeps). -/
structure KRep (N : Nat) (w : World) (X : Nat) (v : Value) (c : ACli) : Prop where
  o : ORep 118 N w X (kcells c) v c.done
  ok : COk c
abbrev KTurn (N : Nat) (w : World) (X : Nat) (v : Value) (w' : World) (c : ACli) : Prop := OTurn 118 N w X v w' (kcells c) c.done
end Go.Proofs.YtffgolanmaenfacGreatDoor

namespace Go.Proofs.YtffgolanmaenfacGreatDoor
open Go.RowKit
set_option linter.unusedSimpArgs false
set_option linter.unusedVariables false

/-- A step of a script. -/
structure AX where
  kind : Int
  n : Int
  keep : Int
  call : ACall
/-- A world. -/
structure AW where
  log : List ARec
  cl : Nat → ACli
  ms : List APkt
def upd (f : Nat → ACli) (n : Nat) (c : ACli) : Nat → ACli := fun k => if k = n then c else f k
theorem upd_at (f : Nat → ACli) (n : Nat) (c : ACli) : upd f n c n = c := by simp [upd]
theorem upd_off (f : Nat → ACli) {n k : Nat} (c : ACli) (h : k ≠ n) : upd f n c k = f k := by simp [upd, h]
def AW.start : AW := ⟨[], fun n => ⟨n, [], zeroCall, false⟩, []⟩
def AW.have (A : AW) (n : Int) (x : ACall) : Int × AW := if n < 0 ∨ 2 < n then (9, A) else ((A.cl n.toNat).ask x, ⟨A.log, upd A.cl n.toNat ((A.cl n.toNat).asked x), A.ms⟩)
def AW.send (A : AW) (n : Int) : Int × AW :=
  if n < 0 ∨ 2 < n then (9, A) else if (A.cl n.toNat).op = false then (6, A) else if A.ms.length < 40 then (0, ⟨A.log, A.cl, aSend A.ms (A.cl n.toNat).pkt⟩) else (7, A)
def AW.dbl (A : AW) (n : Int) : Int × AW := if A.ms.length = 0 then (6, A) else if A.ms.length < 40 then (0, ⟨A.log, A.cl, aDblL A.ms n⟩) else (7, A)
def AW.hear (A : AW) (p : APkt) : AW := if p.client < 0 ∨ 2 < p.client then A else ⟨A.log, upd A.cl p.client.toNat ((A.cl p.client.toNat).heard p), A.ms⟩
def APkt.back (p : APkt) (d : Int) (u : ByteArray) : APkt := ⟨true, p.client, p.no, p.call, d, u⟩
def AW.serve (A : AW) (p : APkt) : AW :=
  ⟨(aCall A.log p.client p.no p.call).log, A.cl, if (aCall A.log p.client p.no p.call).err = 0 then aSend A.ms (p.back (aCall A.log p.client p.no p.call).code (aCall A.log p.client p.no p.call).text) else A.ms⟩
def AW.come (A : AW) (p : APkt) : AW := if p.reply = true then A.hear p else A.serve p
def AW.tear (A : AW) (p : APkt) (keep : Int) : Int × AW := if p.reply = true then (0, A) else ((aTear A.log p.client p.no p.call keep).1, ⟨(aTear A.log p.client p.no p.call keep).2, A.cl, A.ms⟩)
def AW.took (A : AW) (n : Int) : AW := ⟨A.log, A.cl, aTakeL A.ms n⟩
def AW.take (A : AW) (x : AX) : Int × AW :=
  if A.ms.length = 0 then (6, A) else if x.kind = 3 then (0, (A.took x.n).come (aTakeM A.ms x.n)) else if x.kind = 7 then (A.took x.n).tear (aTakeM A.ms x.n) x.keep else (0, A.took x.n)
def AW.step (A : AW) (x : AX) : Int × AW :=
  if x.kind = 1 then A.have x.n x.call else if x.kind = 2 then A.send x.n else if x.kind = 5 then A.dbl x.n
  else if x.kind = 4 ∨ x.kind = 3 ∨ x.kind = 7 then A.take x else if x.kind = 6 then (0, A) else (1, A)
/-- The first packet comes, if there is one. -/
def AW.pop (A : AW) : AW := if A.ms.length = 0 then A else (A.took 0).come (aTakeM A.ms 0)
def AW.pops : Nat → AW → AW
  | 0, A => A
  | k + 1, A => AW.pops k A.pop
/-- How many packets can come, at most. -/
def wght (ms : List APkt) : Nat := (ms.map fun p => if p.reply = true then 1 else 2).sum
def AW.drain (A : AW) : AW := AW.pops (wght A.ms) A
def AW.sends (A : AW) : AW := (((A.send 0).2.send 1).2.send 2).2
def AW.busy (A : AW) : Bool := decide ((A.send 0).1 = 0) || decide (((A.send 0).2.send 1).1 = 0) || decide ((((A.send 0).2.send 1).2.send 2).1 = 0)
/-- f: how often they may send still. -/
def AW.calm : Nat → AW → Int × AW
  | 0, A => (3, A.drain)
  | f + 1, A => if A.drain.busy = true then AW.calm f A.drain.sends else (2 - (f : Int), A.drain)

/-- All that a client was asked. -/
def ACli.calls (c : ACli) : List ACall := c.done.map ARec.call ++ (if c.op = true then [c.call] else [])
theorem calls_len (c : ACli) : c.calls.length = c.done.length + (if c.op = true then 1 else 0) := by
  unfold ACli.calls; split <;> simp
theorem calls_open {c : ACli} (h : c.op = true) : c.calls[c.done.length]? = some c.call := by
  unfold ACli.calls; rw [if_pos h, List.getElem?_append_right (by simp)]; simp
theorem ask_zero {c : ACli} {x : ACall} (h : c.ask x = 0) : checkI x = 0 ∧ c.op = false ∧ c.done.length < 200 := by
  unfold ACli.ask at h
  by_cases h1 : checkI x ≠ 0
  · rw [if_pos h1] at h; exact absurd h h1
  · rw [if_neg h1] at h
    by_cases h2 : c.op = true
    · rw [if_pos h2] at h; omega
    · rw [if_neg h2] at h
      by_cases h3 : 200 ≤ c.done.length
      · rw [if_pos h3] at h; omega
      · exact ⟨by simpa using h1, by simpa using h2, by omega⟩
theorem asked_some {c : ACli} {x : ACall} (h : c.ask x = 0) : c.asked x = ⟨c.me, c.done, x, true⟩ ∧ (c.asked x).calls = c.calls ++ [x] := by
  have e : c.asked x = ⟨c.me, c.done, x, true⟩ := by unfold ACli.asked; rw [if_pos h]
  refine ⟨e, ?_⟩
  rw [e]
  obtain ⟨_, h2, _⟩ := ask_zero h
  unfold ACli.calls
  simp [h2]
theorem asked_none {c : ACli} {x : ACall} (h : c.ask x ≠ 0) : c.asked x = c := by unfold ACli.asked; rw [if_neg h]
theorem hears_iff {c : ACli} {p : APkt} (h : c.hears p = true) : c.op = true ∧ p.reply = true ∧ p.client = c.me ∧ p.no = c.no ∧ p.call = c.call := by
  unfold ACli.hears at h
  simp only [Bool.and_eq_true, beq_iff_eq] at h
  exact ⟨h.1.1.1.1, h.1.1.1.2, h.1.1.2, h.1.2, (callB_iff _ _).1 h.2⟩
theorem heard_some {c : ACli} {p : APkt} (h : c.hears p = true) : c.heard p = ⟨c.me, c.done ++ [c.rcd p], zeroCall, false⟩ := by unfold ACli.heard; rw [if_pos h]
theorem heard_none {c : ACli} {p : APkt} (h : c.hears p ≠ true) : c.heard p = c := by unfold ACli.heard; rw [if_neg h]
theorem heard_calls (c : ACli) (p : APkt) : (c.heard p).calls = c.calls := by
  by_cases h : c.hears p = true
  · rw [heard_some h]
    unfold ACli.calls
    rw [if_pos (hears_iff h).1]
    simp [ACli.rcd]
  · rw [heard_none h]
theorem heard_me (c : ACli) (p : APkt) : (c.heard p).me = c.me := by
  by_cases h : c.hears p = true
  · rw [heard_some h]
  · rw [heard_none h]
theorem asked_me (c : ACli) (x : ACall) : (c.asked x).me = c.me := by
  by_cases h : c.ask x = 0
  · rw [(asked_some h).1]
  · rw [asked_none h]
theorem asked_done (c : ACli) (x : ACall) : (c.asked x).done = c.done := by
  by_cases h : c.ask x = 0
  · rw [(asked_some h).1]
  · rw [asked_none h]

theorem aSend_mem {ms : List APkt} {m p : APkt} (h : p ∈ aSend ms m) : p ∈ ms ∨ p = m := by
  unfold aSend at h
  split at h
  · simpa using h
  · exact .inl h
theorem aSend_few {ms : List APkt} (m : APkt) (h : ms.length ≤ 40) : (aSend ms m).length ≤ 40 := by
  unfold aSend
  split
  · simp; omega
  · exact h
theorem takeM_mem {ms : List APkt} (n : Int) (h : ms.length ≠ 0) : aTakeM ms n ∈ ms := List.mem_of_getElem? (take_some n (by omega))
theorem takeL_mem {ms : List APkt} {n : Int} {p : APkt} (h : p ∈ aTakeL ms n) : p ∈ ms := by unfold aTakeL at h; exact List.mem_of_mem_eraseIdx h
theorem dblL_mem {ms : List APkt} {n : Int} {p : APkt} (h : p ∈ aDblL ms n) : p ∈ ms := by
  unfold aDblL at h
  split at h
  · rename_i h0
    rcases aSend_mem h with h1 | h1
    · exact h1
    · rw [h1]; exact takeM_mem n (by omega)
  · exact h
theorem dblL_few {ms : List APkt} (n : Int) (h : ms.length ≤ 40) : (aDblL ms n).length ≤ 40 := by
  unfold aDblL; split
  · exact aSend_few _ h
  · exact h

/-- A packet may be on its way. -/
structure PkOk (A : AW) (p : APkt) : Prop where
  lo : 0 ≤ p.client
  hi : p.client ≤ 2
  no : 1 ≤ p.no
  is : (A.cl p.client.toNat).calls[(p.no - 1).toNat]? = some p.call
  rp : p.reply = true → changesB p.call.kind = true → (⟨p.client, p.no, p.call, p.code, p.ans⟩ : ARec) ∈ A.log
structure LgOk (A : AW) (r : ARec) : Prop where
  lo : 0 ≤ r.client
  hi : r.client ≤ 2
  no : 1 ≤ r.no
  is : (A.cl r.client.toNat).calls[(r.no - 1).toNat]? = some r.call
  ch : changesB r.call.kind = true
/-- Numbers of a client rise. -/
def Rise (L : List ARec) : Prop := ∀ (i j : Nat) (r q : ARec), i < j → L[i]? = some r → L[j]? = some q → r.client = q.client → r.no < q.no
/-- Each answer is what files tell behind those ahead of it. -/
def Ser (L : List ARec) : Prop := ∀ (i : Nat) (r : ARec), L[i]? = some r → (aDo (behind (L.take i)) r.call).code = r.code ∧ (aDo (behind (L.take i)) r.call).text = r.ans
structure WInv (A : AW) : Prop where
  me : ∀ n, n < 3 → (A.cl n).me = (n : Int)
  cok : ∀ n, n < 3 → COk (A.cl n)
  chk : ∀ n, n < 3 → ∀ c, c ∈ (A.cl n).calls → checkI c = 0
  pk : ∀ p, p ∈ A.ms → PkOk A p
  lg : ∀ r, r ∈ A.log → LgOk A r
  up : Rise A.log
  se : Ser A.log
  dn : ∀ n, n < 3 → ∀ r, r ∈ (A.cl n).done → changesB r.call.kind = true → r ∈ A.log
  few : A.ms.length ≤ 40
  small : ∀ m, m ∈ A.ms → SmallP m
  good : Good A.log
  ss : (logB A.log).length ≤ 2000

theorem WInv.start : WInv AW.start := by
  refine ⟨fun n _ => rfl, fun n _ => COk.start _, fun n _ c hc => ?_, fun p hp => ?_, fun r hr => ?_, fun i j r q _ h => ?_, fun i r h => ?_, fun n _ r hr => ?_, Nat.zero_le _, fun m hm => ?_, fun r hr => ?_, Nat.zero_le _⟩
  · simp [AW.start, ACli.calls] at hc
  · simp [AW.start] at hp
  · simp [AW.start] at hr
  · simp [AW.start] at h
  · simp [AW.start] at h
  · simp [AW.start] at hr
  · simp [AW.start] at hm
  · simp [AW.start] at hr
/-- Only packets have changed. -/
theorem WInv.mail {A : AW} (h : WInv A) {ms : List APkt} (hp : ∀ p, p ∈ ms → PkOk A p ∧ SmallP p) (hf : ms.length ≤ 40) : WInv ⟨A.log, A.cl, ms⟩ :=
  ⟨h.me, h.cok, h.chk, fun p hm => ⟨(hp p hm).1.lo, (hp p hm).1.hi, (hp p hm).1.no, (hp p hm).1.is, (hp p hm).1.rp⟩, fun r hr => ⟨(h.lg r hr).lo, (h.lg r hr).hi, (h.lg r hr).no, (h.lg r hr).is, (h.lg r hr).ch⟩, h.up, h.se, h.dn, hf, fun m hm => (hp m hm).2, h.good, h.ss⟩
theorem WInv.both {A : AW} (h : WInv A) {p : APkt} (hp : p ∈ A.ms) : PkOk A p ∧ SmallP p := ⟨h.pk p hp, h.small p hp⟩
/-- One client has changed, and all that he was asked he was. -/
theorem WInv.client {A : AW} (h : WInv A) {n : Nat} (hn : n < 3) {c : ACli} (hme : c.me = (n : Int)) (hok : COk c) (hchk : ∀ x, x ∈ c.calls → checkI x = 0) (hcs : ∀ (k : Nat) (x : ACall), (A.cl n).calls[k]? = some x → c.calls[k]? = some x) (hdn : ∀ r, r ∈ c.done → changesB r.call.kind = true → r ∈ A.log) :
    WInv ⟨A.log, upd A.cl n c, A.ms⟩ := by
  have hcs' : ∀ (m k : Nat) (x : ACall), (A.cl m).calls[k]? = some x → (upd A.cl n c m).calls[k]? = some x := fun m k x hx => by
    by_cases e : m = n
    · subst e; rw [upd_at]; exact hcs k x hx
    · rw [upd_off _ _ e]; exact hx
  refine ⟨fun m hm => ?_, fun m hm => ?_, fun m hm => ?_, fun p hp => ?_, fun r hr => ?_, h.up, h.se, fun m hm => ?_, h.few, h.small, h.good, h.ss⟩
  · by_cases e : m = n
    · subst e; dsimp only; rw [upd_at]; exact hme
    · dsimp only; rw [upd_off _ _ e]; exact h.me m hm
  · by_cases e : m = n
    · subst e; dsimp only; rw [upd_at]; exact hok
    · dsimp only; rw [upd_off _ _ e]; exact h.cok m hm
  · by_cases e : m = n
    · subst e; dsimp only; rw [upd_at]; exact hchk
    · dsimp only; rw [upd_off _ _ e]; exact h.chk m hm
  · exact ⟨(h.pk p hp).lo, (h.pk p hp).hi, (h.pk p hp).no, hcs' _ _ _ (h.pk p hp).is, (h.pk p hp).rp⟩
  · exact ⟨(h.lg r hr).lo, (h.lg r hr).hi, (h.lg r hr).no, hcs' _ _ _ (h.lg r hr).is, (h.lg r hr).ch⟩
  · by_cases e : m = n
    · subst e; dsimp only; rw [upd_at]; exact hdn
    · dsimp only; rw [upd_off _ _ e]; exact h.dn m hm
theorem WInv.have {A : AW} (h : WInv A) (n : Int) {x : ACall} (hx : SmallC x) : WInv (A.have n x).2 := by
  unfold AW.have
  split
  · exact h
  rename_i hn
  have h3 : n.toNat < 3 := by omega
  dsimp only
  by_cases h0 : (A.cl n.toNat).ask x = 0
  · obtain ⟨e1, e2⟩ := asked_some h0
    refine h.client h3 (by rw [asked_me]; exact h.me _ h3) ((h.cok _ h3).asked hx) (fun y hy => ?_) (fun k y hy => ?_) (fun r hr => ?_)
    · rw [e2] at hy
      rcases List.mem_append.1 hy with hy | hy
      · exact h.chk _ h3 y hy
      · simp at hy; subst hy; exact (ask_zero h0).1
    · rw [e2, List.getElem?_append_left (List.getElem?_eq_some_iff.1 hy).1]; exact hy
    · rw [asked_done] at hr; exact h.dn _ h3 r hr
  · rw [asked_none h0]
    exact h.client h3 (h.me _ h3) (h.cok _ h3) (h.chk _ h3) (fun _ _ hy => hy) (h.dn _ h3)
theorem pkt_ok {A : AW} (h : WInv A) {n : Nat} (hn : n < 3) (hop : (A.cl n).op = true) : PkOk A (A.cl n).pkt ∧ SmallP (A.cl n).pkt := by
  have hm := h.me n hn
  refine ⟨?_, pkt_small (h.cok n hn)⟩
  have e : (A.cl n).pkt = ⟨false, (A.cl n).me, (A.cl n).no, (A.cl n).call, 0, ⟨#[]⟩⟩ := by unfold ACli.pkt; rw [if_pos hop]
  rw [e]
  refine ⟨by dsimp only; omega, by dsimp only; omega, by dsimp only; unfold ACli.no; omega, ?_, fun h => by cases h⟩
  dsimp only
  rw [hm]
  have e2 : ((A.cl n).no - 1).toNat = (A.cl n).done.length := by unfold ACli.no; omega
  rw [Int.toNat_natCast, e2]
  exact calls_open hop
theorem WInv.send {A : AW} (h : WInv A) (n : Int) : WInv (A.send n).2 := by
  unfold AW.send
  split
  · exact h
  split
  · exact h
  rename_i hn hop
  split
  · refine h.mail (fun p hp => ?_) (aSend_few _ h.few)
    rcases aSend_mem hp with h1 | h1
    · exact h.both h1
    · rw [h1]; exact pkt_ok h (by omega) (by simpa using hop)
  · exact h
theorem WInv.dbl {A : AW} (h : WInv A) (n : Int) : WInv (A.dbl n).2 := by
  unfold AW.dbl
  split
  · exact h
  split
  · exact h.mail (fun p hp => h.both (dblL_mem hp)) (dblL_few _ h.few)
  · exact h
theorem WInv.took {A : AW} (h : WInv A) (n : Int) : WInv (A.took n) := by
  refine h.mail (fun p hp => h.both (takeL_mem hp)) ?_
  unfold aTakeL
  have := List.length_eraseIdx_le A.ms (rnd n A.ms.length)
  exact Nat.le_trans this h.few
/-- The packet that he hears is in the log, if it may change something. -/
theorem WInv.hear {A : AW} (h : WInv A) {p : APkt} (hp : PkOk A p) (hs : SmallP p) : WInv (A.hear p) := by
  unfold AW.hear
  split
  · exact h
  rename_i hn
  have h3 : p.client.toNat < 3 := by omega
  refine h.client h3 (by rw [heard_me]; exact h.me _ h3) ((h.cok _ h3).heard hs) (fun y hy => ?_) (fun k y hy => ?_) (fun r hr hc => ?_)
  · rw [heard_calls] at hy; exact h.chk _ h3 y hy
  · rw [heard_calls]; exact hy
  · by_cases hh : (A.cl p.client.toNat).hears p = true
    · rw [heard_some hh] at hr
      rcases List.mem_append.1 hr with hr | hr
      · exact h.dn _ h3 r hr hc
      · simp at hr
        subst hr
        obtain ⟨_, h5, h6, h7, h8⟩ := hears_iff hh
        unfold ACli.rcd at hc ⊢
        rw [← h6, ← h7, ← h8]
        exact hp.rp h5 (by rw [h8]; exact hc)
    · rw [heard_none hh] at hr
      exact h.dn _ h3 r hr hc

/-- The last one has the greatest number. -/
theorem last_most {L : List ARec} (h : Rise L) {r : ARec} (hr : r ∈ L) : r.no ≤ (lastR L r.client).no := by
  induction L using snoc_ind with
  | h0 => simp at hr
  | h1 K q ih =>
    have hK : Rise K := fun i j a b hij ha hb hc => h i j a b hij (by rw [List.getElem?_append_left (List.getElem?_eq_some_iff.1 ha).1]; exact ha) (by rw [List.getElem?_append_left (List.getElem?_eq_some_iff.1 hb).1]; exact hb) hc
    rw [lastR_snoc]
    by_cases hq : q.client = r.client
    · rw [if_pos hq]
      rcases List.mem_append.1 hr with h1 | h1
      · obtain ⟨i, hi⟩ := List.mem_iff_getElem?.1 h1
        have hil := (List.getElem?_eq_some_iff.1 hi).1
        have := h i K.length r q hil (by rw [List.getElem?_append_left hil]; exact hi) (by simp) hq.symm
        omega
      · simp at h1; subst h1; exact Int.le_refl _
    · rw [if_neg hq]
      rcases List.mem_append.1 hr with h1 | h1
      · exact ih hK h1
      · simp at h1; subst h1; exact absurd rfl hq
theorem Rise.snoc {L : List ARec} (h : Rise L) {r : ARec} (hr : (lastR L r.client).no < r.no) : Rise (L ++ [r]) := fun i j a b hij ha hb hc => by
  by_cases hj : j < L.length
  · rw [List.getElem?_append_left (by omega)] at ha
    rw [List.getElem?_append_left hj] at hb
    exact h i j a b hij ha hb hc
  · have hj2 := (List.getElem?_eq_some_iff.1 hb).1
    simp at hj2
    have e : j = L.length := by omega
    subst e
    simp at hb
    subst hb
    rw [List.getElem?_append_left hij] at ha
    have h1 := last_most h (List.mem_of_getElem? ha)
    rw [hc] at h1
    omega
theorem Ser.snoc {L : List ARec} (h : Ser L) {r : ARec} (h1 : (aDo (behind L) r.call).code = r.code) (h2 : (aDo (behind L) r.call).text = r.ans) : Ser (L ++ [r]) := fun i a ha => by
  by_cases hi : i < L.length
  · rw [List.getElem?_append_left hi] at ha
    rw [List.take_append_of_le_length (by omega)]
    exact h i a ha
  · have hi2 := (List.getElem?_eq_some_iff.1 ha).1
    simp at hi2
    have e : i = L.length := by omega
    subst e
    simp at ha
    subst ha
    rw [List.take_left]
    exact ⟨h1, h2⟩

/-- What a call of a packet makes of the log: nothing, or one record more. -/
def Grew (A : AW) (p : APkt) (R : CRes) : Prop :=
  (∃ e : Int, e ≠ 0 ∧ R = ⟨0, ⟨#[]⟩, e, A.log⟩) ∨
  (changesB p.call.kind = false ∧ R = ⟨(aDo (behind A.log) p.call).code, (aDo (behind A.log) p.call).text, 0, A.log⟩) ∨
  (changesB p.call.kind = true ∧ ¬ (p.client < 0 ∨ 2 < p.client ∨ p.no < 1 ∨ 200 < p.no) ∧ checkI p.call = 0 ∧ (lastR A.log p.client).no < p.no ∧ (logB A.log).length + (encL ⟨p.client, p.no, p.call, 0, ⟨#[]⟩⟩).length ≤ 2000 ∧
    R = ⟨(aDo (behind A.log) p.call).code, (aDo (behind A.log) p.call).text, 0, A.log ++ [⟨p.client, p.no, p.call, (aDo (behind A.log) p.call).code, (aDo (behind A.log) p.call).text⟩]⟩) ∨
  (∃ (d : Int) (u : ByteArray), changesB p.call.kind = true ∧ (⟨p.client, p.no, p.call, d, u⟩ : ARec) ∈ A.log ∧ R = ⟨d, u, 0, A.log⟩)
theorem grew_any (A : AW) (p : APkt) (hz : 1 ≤ p.no) : Grew A p (aCall A.log p.client p.no p.call) := by
  unfold aCall
  split
  · exact .inl ⟨9, by decide, rfl⟩
  rename_i h1
  split
  · rename_i h2; exact .inl ⟨_, h2, rfl⟩
  rename_i h2
  split
  · rename_i h3; exact .inr (.inl ⟨h3, rfl⟩)
  rename_i h3
  split
  · rename_i h4
    split
    · exact .inl ⟨7, by decide, rfl⟩
    · rename_i h5
      exact .inr (.inr (.inl ⟨by simpa using h3, h1, by simpa using h2, h4, by omega, rfl⟩))
  · split
    · rename_i h4 h5
      refine .inr (.inr (.inr ⟨_, _, by simpa using h3, ?_, rfl⟩))
      rcases lastR_or A.log p.client with ⟨h6, _⟩ | ⟨h6, h7⟩
      · rw [h6] at h5
        have : (zeroRec).no = 0 := rfl
        omega
      · have e := (callB_iff _ _).1 h5.2
        have e2 : (⟨p.client, p.no, p.call, (lastR A.log p.client).code, (lastR A.log p.client).ans⟩ : ARec) = lastR A.log p.client := by rw [h5.1, e]; generalize lastR A.log p.client = x at h7; cases x; dsimp only at h7; rw [h7]
        rw [e2]
        exact h6
    · exact .inl ⟨10, by decide, rfl⟩
/-- The log has one record more. -/
theorem WInv.snoc {A : AW} (h : WInv A) {p : APkt} (hp : PkOk A p) {d : Int} {u : ByteArray} (hc : changesB p.call.kind = true) (hl : (lastR A.log p.client).no < p.no) (hd : (aDo (behind A.log) p.call).code = d) (hu : (aDo (behind A.log) p.call).text = u)
    (hg : Good (A.log ++ [⟨p.client, p.no, p.call, d, u⟩])) (hs : (logB (A.log ++ [⟨p.client, p.no, p.call, d, u⟩])).length ≤ 2000) : WInv ⟨A.log ++ [⟨p.client, p.no, p.call, d, u⟩], A.cl, A.ms⟩ := by
  refine ⟨h.me, h.cok, h.chk, fun q hq => ?_, fun r hr => ?_, h.up.snoc hl, h.se.snoc hd hu, fun n hn r hr hc' => List.mem_append_left _ (h.dn n hn r hr hc'), h.few, h.small, hg, hs⟩
  · have k := h.pk q hq
    exact ⟨k.lo, k.hi, k.no, k.is, fun h1 h2 => List.mem_append_left _ (k.rp h1 h2)⟩
  · rcases List.mem_append.1 hr with hr | hr
    · have k := h.lg r hr
      exact ⟨k.lo, k.hi, k.no, k.is, k.ch⟩
    · simp at hr
      subst hr
      exact ⟨hp.lo, hp.hi, hp.no, hp.is, hc⟩
theorem WInv.logged {A : AW} (h : WInv A) {p : APkt} (hp : PkOk A p) : WInv ⟨(aCall A.log p.client p.no p.call).log, A.cl, A.ms⟩ := by
  have hg := aCall_good h.good p.client p.no p.call
  have hs := aCall_short h.good h.ss p.client p.no p.call
  have hG := grew_any A p hp.no
  generalize aCall A.log p.client p.no p.call = R at hg hs hG
  rcases hG with ⟨e, he, rfl⟩ | ⟨hc, rfl⟩ | ⟨hc, hr, hk, hl, h5, rfl⟩ | ⟨d, u, hc, hm, rfl⟩
  · exact h
  · exact h
  · exact h.snoc hp hc hl rfl rfl hg hs
  · exact h
theorem back_ok {A : AW} (h : WInv A) {p : APkt} (hp : PkOk A p) (hs : SmallP p) (h0 : (aCall A.log p.client p.no p.call).err = 0) :
    PkOk ⟨(aCall A.log p.client p.no p.call).log, A.cl, A.ms⟩ (p.back (aCall A.log p.client p.no p.call).code (aCall A.log p.client p.no p.call).text) ∧ SmallP (p.back (aCall A.log p.client p.no p.call).code (aCall A.log p.client p.no p.call).text) := by
  have hG := grew_any A p hp.no
  have hsm := aDo_small A.log p.call
  generalize aCall A.log p.client p.no p.call = R at h0 hG
  rcases hG with ⟨e, he, rfl⟩ | ⟨hc, rfl⟩ | ⟨hc, hr, hk, hl, h5, rfl⟩ | ⟨d, u, hc, hm, rfl⟩
  · exact absurd h0 he
  · exact ⟨⟨hp.lo, hp.hi, hp.no, hp.is, fun _ h2 => by dsimp only [APkt.back] at h2; rw [hc] at h2; cases h2⟩, hs.1, hs.2.1, hs.2.2.1, by dsimp only [APkt.back]; omega⟩
  · exact ⟨⟨hp.lo, hp.hi, hp.no, hp.is, fun _ _ => List.mem_append_right _ (by simp [APkt.back])⟩, hs.1, hs.2.1, hs.2.2.1, by dsimp only [APkt.back]; omega⟩
  · have := (enc_small (h.good _ hm)).2
    exact ⟨⟨hp.lo, hp.hi, hp.no, hp.is, fun _ _ => hm⟩, hs.1, hs.2.1, hs.2.2.1, by dsimp only [APkt.back] at this ⊢; omega⟩
theorem WInv.serve {A : AW} (h : WInv A) {p : APkt} (hp : PkOk A p) (hs : SmallP p) : WInv (A.serve p) := by
  have h1 := h.logged hp
  have h2 := fun h0 => back_ok h hp hs h0
  unfold AW.serve
  split
  · rename_i h0
    refine h1.mail (ms := aSend A.ms _) (fun q hq => ?_) (aSend_few _ h.few)
    rcases aSend_mem hq with h3 | h3
    · exact h1.both h3
    · rw [h3]; exact h2 h0
  · exact h1
theorem PkOk.same {A : AW} {p : APkt} (h : PkOk A p) (ms : List APkt) : PkOk ⟨A.log, A.cl, ms⟩ p := ⟨h.lo, h.hi, h.no, h.is, h.rp⟩
theorem WInv.come {A : AW} (h : WInv A) {p : APkt} (hp : PkOk A p) (hs : SmallP p) : WInv (A.come p) := by
  unfold AW.come
  split
  · exact h.hear hp hs
  · exact h.serve hp hs
theorem WInv.tear {A : AW} (h : WInv A) {p : APkt} (hp : PkOk A p) (hs : SmallP p) (keep : Int) : WInv (A.tear p keep).2 := by
  unfold AW.tear
  split
  · exact h
  · dsimp only
    rcases aTear_log A.log p.client p.no p.call keep with h1 | h1
    · rw [h1]; exact h
    · rw [h1]; exact h.logged hp
theorem WInv.take {A : AW} (h : WInv A) (x : AX) : WInv (A.take x).2 := by
  unfold AW.take
  split
  · exact h
  rename_i h0
  obtain ⟨h1, h2⟩ := h.both (takeM_mem x.n h0)
  split
  · exact (h.took x.n).come (h1.same _) h2
  split
  · exact (h.took x.n).tear (h1.same _) h2 x.keep
  · exact h.took x.n
theorem WInv.step {A : AW} (h : WInv A) {x : AX} (hx : SmallC x.call) : WInv (A.step x).2 := by
  unfold AW.step
  split
  · exact h.have _ hx
  split
  · exact h.send _
  split
  · exact h.dbl _
  split
  · exact h.take x
  split
  · exact h
  · exact h
theorem WInv.pop {A : AW} (h : WInv A) : WInv A.pop := by
  unfold AW.pop
  split
  · exact h
  rename_i h0
  obtain ⟨h1, h2⟩ := h.both (takeM_mem 0 h0)
  exact (h.took 0).come (h1.same _) h2
theorem WInv.pops {A : AW} (h : WInv A) (k : Nat) : WInv (AW.pops k A) := by
  induction k generalizing A with
  | zero => exact h
  | succ k ih => exact ih h.pop
theorem WInv.drain {A : AW} (h : WInv A) : WInv A.drain := h.pops _
theorem WInv.sends {A : AW} (h : WInv A) : WInv A.sends := ((h.send 0).send 1).send 2
theorem WInv.calm {A : AW} (h : WInv A) (f : Nat) : WInv (AW.calm f A).2 := by
  induction f generalizing A with
  | zero => exact h.drain
  | succ f ih =>
    unfold AW.calm
    split
    · exact ih h.drain.sends
    · exact h.drain

end Go.Proofs.YtffgolanmaenfacGreatDoor

namespace Go.Proofs.YtffgolanmaenfacGreatDoor
open Go.RowKit
set_option linter.unusedSimpArgs false
set_option linter.unusedVariables false

def SmallA (d : Int) (u : ByteArray) : Prop := 0 ≤ d ∧ d ≤ 99 ∧ u.size ≤ 100
theorem SmallA.zero : SmallA 0 ⟨#[]⟩ := ⟨by decide, by decide, Nat.zero_le _⟩
theorem aDo_SmallA (L : List ARec) (c : ACall) : SmallA (aDo (behind L) c).code (aDo (behind L) c).text := ⟨(aDo_code _ c).1, (aDo_code _ c).2, by have := aDo_small L c; omega⟩
theorem WInv.logA {A : AW} (h : WInv A) {r : ARec} (hr : r ∈ A.log) : SmallA r.code r.ans := by
  obtain ⟨i, hi⟩ := List.mem_iff_getElem?.1 hr
  obtain ⟨h1, h2⟩ := h.se i r hi
  rw [← h1, ← h2]
  exact aDo_SmallA _ _
structure TInv (A : AW) : Prop where
  ms : ∀ p, p ∈ A.ms → SmallA p.code p.ans
  dn : ∀ n, n < 3 → ∀ r, r ∈ (A.cl n).done → SmallA r.code r.ans
theorem TInv.start : TInv AW.start := ⟨by simp [AW.start], fun n _ r hr => by simp [AW.start] at hr⟩
theorem TInv.mail {A : AW} (h : TInv A) {L : List ARec} {ms : List APkt} (hm : ∀ p, p ∈ ms → SmallA p.code p.ans) : TInv ⟨L, A.cl, ms⟩ := ⟨hm, h.dn⟩
theorem TInv.have {A : AW} (h : TInv A) (n : Int) (x : ACall) : TInv (A.have n x).2 := by
  unfold AW.have
  split
  · exact h
  · refine ⟨h.ms, fun k hk r hr => ?_⟩
    dsimp only [upd] at hr
    split at hr
    · rw [asked_done] at hr
      rename_i e
      exact h.dn _ (by rw [← e]; exact hk) r hr
    · exact h.dn k hk r hr
theorem pkt_SmallA (c : ACli) : SmallA c.pkt.code c.pkt.ans := by
  unfold ACli.pkt
  split
  · exact SmallA.zero
  · exact SmallA.zero
theorem TInv.send {A : AW} (h : TInv A) (n : Int) : TInv (A.send n).2 := by
  unfold AW.send
  repeat' split
  · exact h
  · exact h
  · refine h.mail fun p hp => ?_
    rcases aSend_mem hp with hp | rfl
    · exact h.ms p hp
    · exact pkt_SmallA _
  · exact h
theorem TInv.dbl {A : AW} (h : TInv A) (n : Int) : TInv (A.dbl n).2 := by
  unfold AW.dbl
  repeat' split
  · exact h
  · exact h.mail fun p hp => h.ms p (dblL_mem hp)
  · exact h
theorem TInv.took {A : AW} (h : TInv A) (n : Int) : TInv (A.took n) := h.mail fun p hp => h.ms p (takeL_mem hp)
theorem TInv.hear {A : AW} (h : TInv A) {p : APkt} (hp : SmallA p.code p.ans) : TInv (A.hear p) := by
  unfold AW.hear
  split
  · exact h
  · refine ⟨h.ms, fun k hk r hr => ?_⟩
    dsimp only [upd] at hr
    split at hr
    · rename_i e
      by_cases hh : (A.cl p.client.toNat).hears p = true
      · rw [heard_some hh] at hr
        rcases List.mem_append.1 hr with hr | hr
        · exact h.dn _ (by rw [← e]; exact hk) r hr
        · rw [List.mem_singleton.1 hr]; exact hp
      · rw [heard_none hh] at hr
        exact h.dn _ (by rw [← e]; exact hk) r hr
    · exact h.dn k hk r hr
theorem call_SmallA {A : AW} (hw : WInv A) {p : APkt} (hp : PkOk A p) : SmallA (aCall A.log p.client p.no p.call).code (aCall A.log p.client p.no p.call).text ∨ (aCall A.log p.client p.no p.call).err ≠ 0 := by
  have hG := grew_any A p hp.no
  have hd := aDo_SmallA A.log p.call
  generalize aCall A.log p.client p.no p.call = R at hG ⊢
  rcases hG with ⟨e, he, rfl⟩ | ⟨hc, rfl⟩ | ⟨hc, hr, hk, hl, h5, rfl⟩ | ⟨d, u, hc, hm, rfl⟩
  · exact Or.inr he
  · exact Or.inl hd
  · exact Or.inl hd
  · exact Or.inl (hw.logA hm)
theorem TInv.serve {A : AW} (h : TInv A) (hw : WInv A) {p : APkt} (hp : PkOk A p) : TInv (A.serve p) := by
  have h2 := call_SmallA hw hp
  unfold AW.serve
  split
  · rename_i h0
    refine h.mail fun q hq => ?_
    rcases aSend_mem hq with hq | rfl
    · exact h.ms q hq
    · rcases h2 with h2 | h2
      · exact h2
      · exact absurd h0 h2
  · exact h.mail h.ms
theorem TInv.come {A : AW} (h : TInv A) (hw : WInv A) {p : APkt} (hp : PkOk A p) (hs : SmallA p.code p.ans) : TInv (A.come p) := by
  unfold AW.come
  split
  · exact h.hear hs
  · exact h.serve hw hp
theorem TInv.tear {A : AW} (h : TInv A) (p : APkt) (keep : Int) : TInv (A.tear p keep).2 := by
  unfold AW.tear
  split
  · exact h
  · exact h.mail h.ms
theorem TInv.take {A : AW} (h : TInv A) (hw : WInv A) (x : AX) : TInv (A.take x).2 := by
  unfold AW.take
  split
  · exact h
  · rename_i h0
    have hm := takeM_mem x.n h0
    split
    · exact (h.took x.n).come (hw.took x.n) ((hw.pk _ hm).same _) (h.ms _ hm)
    · split
      · exact (h.took x.n).tear _ _
      · exact h.took x.n
theorem TInv.step {A : AW} (h : TInv A) (hw : WInv A) (x : AX) : TInv (A.step x).2 := by
  unfold AW.step
  repeat' split
  · exact h.have _ _
  · exact h.send _
  · exact h.dbl _
  · exact h.take hw x
  · exact h
  · exact h
theorem TInv.pop {A : AW} (h : TInv A) (hw : WInv A) : TInv A.pop := by
  unfold AW.pop
  split
  · exact h
  · rename_i h0
    have hm := takeM_mem 0 h0
    exact (h.took 0).come (hw.took 0) ((hw.pk _ hm).same _) (h.ms _ hm)
theorem TInv.pops {A : AW} (h : TInv A) (hw : WInv A) (k : Nat) : TInv (AW.pops k A) := by
  induction k generalizing A with
  | zero => exact h
  | succ k ih => exact ih (h.pop hw) hw.pop
theorem TInv.calm {A : AW} (h : TInv A) (hw : WInv A) (f : Nat) : TInv (AW.calm f A).2 := by
  induction f generalizing A with
  | zero => exact h.pops hw _
  | succ f ih =>
    unfold AW.calm
    split
    · exact ih (((((h.pops hw _).send 0).send 1).send 2)) hw.drain.sends
    · exact h.pops hw _

end Go.Proofs.YtffgolanmaenfacGreatDoor

namespace Go.Proofs.YtffgolanmaenfacGreatDoor
open Go.RowKit
set_option linter.unusedSimpArgs false
set_option linter.unusedVariables false

theorem take_cons (p : APkt) (ms : List APkt) : aTakeM (p :: ms) 0 = p ∧ aTakeL (p :: ms) 0 = ms := by
  have h : rnd 0 (p :: ms).length = 0 := rnd0 (by simp)
  unfold aTakeM aTakeL
  rw [h]
  simp
theorem pop_nil {A : AW} (h : A.ms = []) : A.pop = A := by unfold AW.pop; rw [if_pos (by rw [h]; rfl)]
theorem pop_cons {A : AW} {p : APkt} {ms : List APkt} (h : A.ms = p :: ms) : A.pop = (⟨A.log, A.cl, ms⟩ : AW).come p := by
  unfold AW.pop AW.took
  rw [if_neg (by rw [h]; simp), h, (take_cons p ms).1, (take_cons p ms).2]
theorem wght_cons (p : APkt) (ms : List APkt) : wght (p :: ms) = (if p.reply = true then 1 else 2) + wght ms := by simp [wght]
theorem wght_snoc (p : APkt) (ms : List APkt) : wght (ms ++ [p]) = wght ms + (if p.reply = true then 1 else 2) := by simp [wght]
theorem wght_send (p : APkt) (ms : List APkt) (h : p.reply = true) : wght (aSend ms p) ≤ wght ms + 1 := by
  unfold aSend
  split
  · rw [wght_snoc, if_pos h]; omega
  · omega
theorem come_wght (A : AW) (p : APkt) : wght (A.come p).ms + 1 ≤ wght A.ms + (if p.reply = true then 1 else 2) := by
  unfold AW.come
  split
  · unfold AW.hear; split <;> exact Nat.le_refl _
  · unfold AW.serve
    dsimp only
    split
    · have := wght_send (p.back (aCall A.log p.client p.no p.call).code (aCall A.log p.client p.no p.call).text) A.ms rfl
      omega
    · omega
theorem pop_wght {A : AW} (h : A.ms.length ≠ 0) : wght A.pop.ms < wght A.ms := by
  cases hm : A.ms with
  | nil => rw [hm] at h; exact absurd rfl h
  | cons p ms =>
    rw [pop_cons hm, wght_cons]
    have := come_wght ⟨A.log, A.cl, ms⟩ p
    dsimp only at this
    omega
theorem pops_nil {A : AW} (h : A.ms = []) (k : Nat) : AW.pops k A = A := by
  induction k with
  | zero => rfl
  | succ k ih => show AW.pops k A.pop = A; rw [pop_nil h]; exact ih
theorem pops_add (j k : Nat) (A : AW) : AW.pops (j + k) A = AW.pops k (AW.pops j A) := by
  induction j generalizing A with
  | zero => rw [Nat.zero_add]; rfl
  | succ j ih => rw [Nat.succ_add]; exact ih A.pop
theorem pops_succ (k : Nat) (A : AW) : AW.pops (k + 1) A = (AW.pops k A).pop := pops_add k 1 A
theorem pops_empty (k : Nat) (A : AW) (h : wght A.ms ≤ k) : (AW.pops k A).ms = [] := by
  induction k generalizing A with
  | zero =>
    show A.ms = []
    cases hm : A.ms with
    | nil => rfl
    | cons p ms => rw [hm, wght_cons] at h; split at h <;> omega
  | succ k ih =>
    by_cases h0 : A.ms.length = 0
    · have e : A.ms = [] := List.length_eq_zero_iff.1 h0
      rw [pops_nil e]; exact e
    · have := pop_wght h0
      exact ih A.pop (by omega)
theorem drain_empty (A : AW) : A.drain.ms = [] := pops_empty _ _ (Nat.le_refl _)
theorem drain_of {A : AW} {j : Nat} (h : (AW.pops j A).ms = []) : AW.pops j A = A.drain := by
  have h1 : AW.pops (j + wght A.ms) A = AW.pops j A := by rw [pops_add, pops_nil h]
  have h2 : AW.pops (wght A.ms + j) A = A.drain := by rw [pops_add]; exact pops_nil (drain_empty A) j
  rw [Nat.add_comm] at h1
  rw [← h1, h2]
/-- A call that may change something, is open, and is not in the log yet. -/
def pendC (l : Int) (c : ACli) : Nat := if c.op = true ∧ changesB c.call.kind = true ∧ l < c.no then 1 else 0
def pend (A : AW) (n : Nat) : Nat := pendC (lastR A.log n).no (A.cl n)
/-- The log has room for all that are open. -/
def Room (A : AW) : Prop := (logB A.log).length + 28 * (pend A 0 + pend A 1 + pend A 2) ≤ 2000
/-- The server answers what a client waits for. -/
theorem answers {A : AW} (h : WInv A) (hR : Room A) {n : Nat} (hn : n < 3) (hop : (A.cl n).op = true) : (aCall A.log n (A.cl n).no (A.cl n).call).err = 0 := by
  have hro := (h.cok n hn).room hop
  have hchk := h.chk n hn (A.cl n).call (by unfold ACli.calls; rw [if_pos hop]; simp)
  unfold aCall
  rw [if_neg (by unfold ACli.no; omega), if_neg (by simp [hchk])]
  split
  · rfl
  rename_i h3
  have hch : changesB (A.cl n).call.kind = true := by simpa using h3
  split
  · rename_i h4
    have e1 : pend A n = 1 := by unfold pend pendC; rw [if_pos ⟨hop, hch, h4⟩]
    have hlen := enc_new (client := (n : Int)) (no := (A.cl n).no) (by unfold ACli.no; omega) hchk hch 0 ⟨#[]⟩
    have hs : 1 ≤ pend A 0 + pend A 1 + pend A 2 := by
      match n, hn with
      | 0, _ => omega
      | 1, _ => omega
      | 2, _ => omega
    unfold Room at hR
    rw [if_neg (by omega)]
  · rename_i h4
    rcases lastR_or A.log n with ⟨h5, _⟩ | ⟨h5, h6⟩
    · rw [h5] at h4
      have : (zeroRec).no = 0 := rfl
      unfold ACli.no at h4
      omega
    · have k := h.lg _ h5
      have hi := k.is
      rw [h6, Int.toNat_natCast] at hi
      have hlen := (List.getElem?_eq_some_iff.1 hi).1
      rw [calls_len, if_pos hop] at hlen
      have hno : (A.cl n).no = (lastR A.log n).no := by unfold ACli.no at h4 ⊢; have := k.no; omega
      have e : ((lastR A.log n).no - 1).toNat = (A.cl n).done.length := by unfold ACli.no at hno; omega
      rw [e, calls_open hop] at hi
      rw [if_pos ⟨hno, by rw [Option.some.inj hi]; exact callB_self _⟩]
end Go.Proofs.YtffgolanmaenfacGreatDoor

namespace Go.Proofs.YtffgolanmaenfacGreatDoor
open Go.RowKit
set_option linter.unusedSimpArgs false
set_option linter.unusedVariables false

/-- A file's line. -/
def lineB (st : List AFile) (x : ByteArray) : List UInt8 := x.data.toList ++ [61] ++ (fileAt st (fIdx x st)).text.data.toList ++ [10]
/-- The lines of some names. -/
def linesB (st : List AFile) (xs : List ByteArray) : List UInt8 := xs.flatMap (lineB st)
def textL (st : List AFile) : List UInt8 := linesB st (sNames st)
theorem linesB_snoc (st : List AFile) (xs : List ByteArray) (x : ByteArray) : linesB st (xs ++ [x]) = linesB st xs ++ lineB st x := by simp [linesB]

theorem sNames_mem {st : List AFile} {x : ByteArray} (h : x ∈ sNames st) : ∃ f, f ∈ st ∧ f.name = x := by
  have : x ∈ st.map AFile.name := sortB_mem.1 h
  simpa using this
theorem ySN_named {st : List AFile} (hi : Inv st) {x : ByteArray} (h : x ∈ sNames st) : nameB x = true := by
  obtain ⟨f, hf, rfl⟩ := sNames_mem h
  exact hi.named f hf
theorem sNames_found {st : List AFile} {x : ByteArray} (h : x ∈ sNames st) : 0 ≤ fInt x st := by
  rcases Int.lt_or_le (fInt x st) 0 with h1 | h1
  · obtain ⟨f, hf, rfl⟩ := sNames_mem h
    exact absurd (List.mem_map.2 ⟨f, hf, rfl⟩) (fInt_neg h1)
  · exact h1
theorem emptyB_nil : emptyB ⟨#[]⟩ = true := by kernel_rfl
theorem read_check {x : ByteArray} (h : nameB x = true) : checkI ⟨5, x, ⟨#[]⟩, ⟨#[]⟩⟩ = 0 := by
  simp [checkI, formedB, namedB, emptyB_nil, h]
theorem sNames_len (st : List AFile) : (sNames st).length = st.length := by unfold sNames; rw [sortB_length]; simp
theorem lineB_len {st : List AFile} (hi : Inv st) {x : ByteArray} (h : x ∈ sNames st) : (lineB st x).length ≤ 23 := by
  have h1 := nameB_size (ySN_named hi h)
  have h2 := hi.short _ (fileAt_mem (fIdx_spec x st (sNames_found h)).1)
  unfold lineB
  simp only [List.length_append, List.length_cons, List.length_nil, bsize]
  omega
theorem linesB_len {st : List AFile} (hi : Inv st) : ∀ (xs : List ByteArray), (∀ x, x ∈ xs → x ∈ sNames st) → (linesB st xs).length ≤ 23 * xs.length
  | [], _ => by simp [linesB]
  | x :: xs, h => by
    have h1 := lineB_len hi (h x (by simp))
    have h2 := linesB_len hi xs (fun y hy => h y (by simp [hy]))
    unfold linesB at h2 ⊢
    rw [List.flatMap_cons, List.length_append, List.length_cons]
    omega
theorem linesB_take {st : List AFile} (hi : Inv st) (k : Nat) : (linesB st ((sNames st).take k)).length ≤ 138 := by
  have h1 := linesB_len hi ((sNames st).take k) (fun x hx => List.mem_of_mem_take hx)
  have h2 := hi.few
  have h3 := sNames_len st
  rw [List.length_take] at h1
  omega
theorem textL_len {st : List AFile} (hi : Inv st) : (textL st).length ≤ 138 := by
  have := linesB_take hi (sNames st).length
  rwa [List.take_length] at this

/-- Behind one record more. -/
theorem behind_next {L : List ARec} {n : Nat} {r : ARec} (h : L[n]? = some r) : behind (L.take (n + 1)) = (aDo (behind (L.take n)) r.call).st := by
  rw [List.take_add_one, h]; exact behind_snoc _ _

end Go.Proofs.YtffgolanmaenfacGreatDoor

namespace Go.Proofs.YtffgolanmaenfacGreatDoor
open Go.RowKit
set_option linter.unusedSimpArgs false
set_option linter.unusedVariables false

/-- What stands ahead of the first blank, and behind it; false: there is none. -/
def cutB : List UInt8 → List UInt8 × List UInt8 × Bool
  | [] => ([], [], false)
  | x :: xs => if x = 32 then ([], xs, true) else (x :: (cutB xs).1, (cutB xs).2.1, (cutB xs).2.2)
theorem cutB_back : ∀ (s : List UInt8), ((cutB s).2.2 = true → s = (cutB s).1 ++ 32 :: (cutB s).2.1) ∧ ((cutB s).2.2 = false → s = (cutB s).1 ∧ (cutB s).2.1 = []) ∧ 32 ∉ (cutB s).1
  | [] => by simp [cutB]
  | x :: xs => by
    obtain ⟨h1, h2, h3⟩ := cutB_back xs
    rw [cutB]
    by_cases hx : x = 32
    · rw [if_pos hx]; simp [hx]
    · rw [if_neg hx]
      refine ⟨fun h => ?_, fun h => ?_, ?_⟩
      · have := h1 h; rw [List.cons_append, ← this]
      · have := h2 h; exact ⟨by rw [← this.1], this.2⟩
      · intro hm
        rcases List.mem_cons.1 hm with h | h
        · exact hx h.symm
        · exact h3 h

def wList : List UInt8 := [108, 105, 115, 116]
def wMake : List UInt8 := [109, 97, 107, 101]
def wRemove : List UInt8 := [114, 101, 109, 111, 118, 101]
def wRename : List UInt8 := [114, 101, 110, 97, 109, 101]
def wAppend : List UInt8 := [97, 112, 112, 101, 110, 100]
def wRead : List UInt8 := [114, 101, 97, 100]

def B (l : List UInt8) : ByteArray := ⟨l.toArray⟩
theorem B_data (l : List UInt8) : (B l).data.toList = l := by simp [B]
theorem data_B (s : ByteArray) : B s.data.toList = s := by cases s; simp [B]

/-- The line of a call. -/
def lineL (c : ACall) : List UInt8 :=
  if c.kind = 1 then wMake ++ 32 :: c.name.data.toList
  else if c.kind = 2 then wRemove ++ 32 :: c.name.data.toList
  else if c.kind = 3 then wRename ++ 32 :: (c.name.data.toList ++ 32 :: c.dst.data.toList)
  else if c.kind = 4 then wAppend ++ 32 :: (c.name.data.toList ++ 32 :: c.text.data.toList)
  else if c.kind = 5 then wRead ++ 32 :: c.name.data.toList
  else wList
def noCall : ACall := ⟨0, ⟨#[]⟩, ⟨#[]⟩, ⟨#[]⟩⟩
/-- Call's answer: the line, the code. -/
def aLine (c : ACall) : List UInt8 × Int := if checkI c ≠ 0 then ([], checkI c) else (lineL c, 0)
/-- The call of a line, and whether it has such words. -/
def wordsC (s : List UInt8) : ACall × Bool :=
  let w := (cutB s).1; let more := (cutB s).2.2
  let name := (cutB (cutB s).2.1).1; let last := (cutB (cutB s).2.1).2.1; let third := (cutB (cutB s).2.1).2.2
  if w = wList then (⟨6, B name, ⟨#[]⟩, ⟨#[]⟩⟩, !more)
  else if w = wMake then (⟨1, B name, ⟨#[]⟩, ⟨#[]⟩⟩, more && !third)
  else if w = wRemove then (⟨2, B name, ⟨#[]⟩, ⟨#[]⟩⟩, more && !third)
  else if w = wRead then (⟨5, B name, ⟨#[]⟩, ⟨#[]⟩⟩, more && !third)
  else if w = wRename then (⟨3, B name, B last, ⟨#[]⟩⟩, third)
  else if w = wAppend then (⟨4, B name, ⟨#[]⟩, B last⟩, third)
  else (⟨0, B name, ⟨#[]⟩, ⟨#[]⟩⟩, false)
def aParse (s : List UInt8) : ACall × Int :=
  if (wordsC s).2 = false then (noCall, 12) else if checkI (wordsC s).1 ≠ 0 then (noCall, checkI (wordsC s).1) else ((wordsC s).1, 0)

theorem empty_of {s : ByteArray} (h : emptyB s = true) : s = ⟨#[]⟩ := by
  unfold emptyB at h
  rw [toList_data] at h
  have : s.data.toList = [] := by simpa using h
  rw [← data_B s, this]; rfl
theorem formed_parts {c : ACall} (h : formedB c = true) : (c.kind = 6 → c.name = ⟨#[]⟩) ∧ (c.kind ≠ 3 → c.dst = ⟨#[]⟩) ∧ (c.kind ≠ 4 → c.text = ⟨#[]⟩) := by
  unfold formedB at h
  simp only [Bool.and_eq_true, Bool.or_eq_true] at h
  refine ⟨fun h1 => ?_, fun h1 => ?_, fun h1 => ?_⟩
  · rcases h.1.1 with h2 | h2
    · exact empty_of h2
    · simp [h1] at h2
  · rcases h.1.2 with h2 | h2
    · exact empty_of h2
    · simp at h2; exact absurd h2 h1
  · rcases h.2 with h2 | h2
    · exact empty_of h2
    · simp at h2; exact absurd h2 h1

theorem kinds6 {c : ACall} (h : checkI c = 0) : c.kind = 1 ∨ c.kind = 2 ∨ c.kind = 3 ∨ c.kind = 4 ∨ c.kind = 5 ∨ c.kind = 6 := by
  obtain ⟨h1, h2, _⟩ := check_zero h
  omega
end Go.Proofs.YtffgolanmaenfacGreatDoor

namespace Go.Proofs.YtffgolanmaenfacGreatDoor
open Go.RowKit
set_option linter.unusedSimpArgs false
set_option linter.unusedVariables false

/-- What is behind an answer's first words. -/
def tailL (u : List UInt8) : List UInt8 := if u = [] then [] else 32 :: u
/-- An answer's line. -/
def ansL (d : Int) (u : List UInt8) : List UInt8 := (if d = 0 then [111, 107] else [110, 111, 32] ++ Lib.itoa d) ++ tailL u
end Go.Proofs.YtffgolanmaenfacGreatDoor
