/- Texts joined: Sb Sc Sd Se Sf Sg Sh. -/
import Derived.Test.YtlndphpidkacgaaJ1
import Derived.Test.YtlndphpidkacgaaRl
import Derived.BigRegion
/- The reference's Behind: files behind records. -/
namespace Go.Proofs.Ytlndphpidkacgaa
open Go.RowKit
set_option linter.unusedSimpArgs false
set_option linter.unusedVariables false

/-- The texts of records are no longer than may be. -/
def Small (L : List ARec) : Prop := ∀ r, r ∈ L → r.call.name.size ≤ maxLen ∧ r.call.dst.size ≤ maxLen ∧ r.call.text.size ≤ maxLen
theorem Good.small {L : List ARec} (h : Good L) : Small L := fun r hr => by
  have := rec_ok (h r hr)
  have h1 := this.name; have h2 := this.dst; have h3 := this.text
  unfold maxLen
  exact ⟨by omega, by omega, by omega⟩

set_option maxRecDepth 100000 in
set_option maxHeartbeats 4000000 in
theorem Behind_any (a : Option Addr) (n cap : Nat) (L : List ARec) (w : World) (hL : RecsAt w a n L) (hs : Small L) (hn : n ≤ 1000000) :
    Calls Try.prog 46 #[.slice a n cap] w fun e w' => ∃ D v, e = .returned (.pointer (some ⟨D, 0, none⟩)) ∧ DRep w' w.heap.size D v (behind L) ∧ Below w.heap.size w w' := by
  have HL := hide hL
  have HS := hide hs
  clear hL hs
  have HD0 : Hid (DRep ((w.alloc (.cells #[] 104)).alloc (.cells #[.slice (some ⟨w.heap.size, 0, none⟩) 0 0] 29)) w.heap.size (w.heap.size + 1) (.slice (some ⟨w.heap.size, 0, none⟩) 0 0) []) := by
    refine ⟨by omega, ?_, ?_, by simp [Value.ownBlock]⟩
    · have h := heap_alloc_new (w.alloc (.cells #[] 104)) (.cells #[.slice (some ⟨w.heap.size, 0, none⟩) 0 0] 29)
      rw [show (w.alloc (.cells #[] 104)).heap.size = w.heap.size + 1 by simp] at h
      exact h
    · exact (World.ownsRow_lit w #[] (base := w.heap.size) (e := 104) (size := 2) 0 (Nat.le_refl _) (by unfold maxLen; omega) rfl).alloc _
  have HB0 := hide (((Below.refl w.heap.size w).alloc (Nat.le_refl _) (.cells #[] 104)).alloc (by simp) (.cells #[.slice (some ⟨w.heap.size, 0, none⟩) 0 0] 29))
  go_enter Try.func46, Try.ntmps46
  go_wp2
  go_loopw [4] (fun i wr => ∃ (k : Nat) (v : Value), k ≤ n ∧ i = .int .i64 (k : Int) ∧ Hid (DRep wr w.heap.size (w.heap.size + 1) v (behind (L.take k))) ∧ Hid (Below w.heap.size w wr)) (fun i _ => n - (intOf i).toNat)
  case atStart => exact ⟨0, _, Nat.zero_le _, rfl, unhide HD0, unhide HB0⟩
  case round =>
    obtain ⟨k, v, hk, rfl, HD, HB⟩ := hrel
    by_cases hlt : (k : Int) < (n : Int)
    · obtain ⟨r, hr⟩ : ∃ r, L[k]? = some r := ⟨_, List.getElem?_eq_getElem (by rw [(unhide HL).1]; omega)⟩
      obtain ⟨b, off, rfl, hx⟩ := ((unhide HL).below (unhide HB)).2 (by omega)
      obtain ⟨x0, x1, x2, x3, x4, x5, x6, x7⟩ := hx k r hr
      have hsz := (unhide HS) r (List.mem_of_getElem? hr)
      have HDo := hide (dDo_any r.call w.heap.size (w.heap.size + 1) v (behind (L.take k)) wr (unhide HD) (behind_inv _) hsz.1 hsz.2.1 hsz.2.2)
      have hst : (aDo (behind (L.take k)) r.call).st = behind (L.take (k + 1)) := by rw [List.take_add_one, hr]; exact (behind_snoc _ _).symm
      rw [hst] at HDo
      generalize aDo (behind (L.take k)) r.call = ad at HDo
      clear hx hr hst hsz
      obtain ⟨rc, rn, ⟨rk, ra, rb, rt⟩, rd, ru⟩ := r
      dsimp only at *
      go_wp2_with fail
      refine (unhide HDo).mono ?_
      rintro e w2 ⟨rfl, v2, hr2, hk2, _⟩
      have HD2 := hide hr2
      have HB2 := hide ((unhide HB).trans (hk2.below (unhide HB).size (fun j hj => by
        rcases List.mem_cons.1 hj with rfl | hj
        · omega
        · exact ((unhide HD).row.lt j (by simpa using hj)).1)))
      clear hr2 hk2
      go_wp2
      go_roundw
      case rel => exact ⟨k + 1, v2, by omega, by go_num, unhide HD2, unhide HB2⟩
      case measure => simp [intOf]; omega
    · obtain rfl : k = n := by omega
      have hfull : L.take k = L := List.take_of_length_le (by rw [(unhide HL).1]; omega)
      rw [hfull] at HD
      clear hfull
      go_wp2
      go_ret
      exact ⟨_, rfl, ⟨v, unhide HD⟩, unhide HB⟩

end Go.Proofs.Ytlndphpidkacgaa

/- The reference's Chest in memory: Bytes, Last. -/
namespace Go.Proofs.Ytlndphpidkacgaa
open Go.RowKit
set_option linter.unusedSimpArgs false
set_option linter.unusedVariables false

/-- A Chest at block K, with a row of records of its own. -/
structure CRep (w : World) (N K : Nat) (rv : Value) (L : List ARec) : Prop where
  new : N ≤ K
  blk : w.heap[K]? = some (.cells #[rv] 78 (0, 0))
  row : w.ownsRow N 47 8 rv L.length (L.flatMap rcells)
  nd : rv.ownBlock ≠ some K
theorem CRep.ltK {w : World} {N K : Nat} {rv : Value} {L : List ARec} (h : CRep w N K rv L) : K < w.heap.size := (Array.getElem?_eq_some_iff.1 h.blk).1
theorem CRep.can {w : World} {N K : Nat} {rv : Value} {L : List ARec} (h : CRep w N K rv L) : Can w K 0 rv := ⟨by simp [World.cell?, h.blk], by simp [World.frozen?, h.blk]⟩
theorem CRep.kept {w w' : World} {N K : Nat} {rv : Value} {L : List ARec} {own : List Nat} (h : CRep w N K rv L) (hk : Kept own w w') (hK : K ∉ own) (hv : ∀ k, rv.ownBlock = some k → k ∉ own) : CRep w' N K rv L :=
  ⟨h.new, by rw [hk.block K h.ltK hK]; exact h.blk, ownsRow_same h.row fun k e => hk.block k (h.row.lt k e).2 (hv k e), h.nd⟩
theorem CRep.below {w w' : World} {N K : Nat} {rv : Value} {L : List ARec} (h : CRep w N K rv L) (hb : Below w.heap.size w w') : CRep w' N K rv L :=
  h.kept (own := []) (Kept.of_below hb) (by simp) (by simp)

theorem logB_take_le (L : List ARec) (k : Nat) : (logB (L.take k)).length ≤ (logB L).length := by
  have h : logB L = logB (L.take k) ++ logB (L.drop k) := by unfold logB; rw [← List.flatMap_append, List.take_append_drop]
  rw [h, List.length_append]
  omega

set_option maxRecDepth 100000 in
set_option maxHeartbeats 4000000 in
theorem Bytes_any (N K : Nat) (rv : Value) (L : List ARec) (w : World) (h : CRep w N K rv L) (hg : Good L) (hs : (logB L).length ≤ 100000) (hn : L.length ≤ 100000) :
    Calls Try.prog 49 #[.pointer (some ⟨K, 0, none⟩)] w fun e w' => ∃ a c, e = .returned (.slice a (logB L).length c) ∧ BRow w' w.heap.size (.slice a (logB L).length c) (logB L) ∧ Below w.heap.size w w' := by
  obtain ⟨n, hnl⟩ : ∃ n, L.length = n := ⟨_, rfl⟩
  obtain ⟨ra, rcap, rfl⟩ := row_form h.row
  have HL := hide (recs_row h.row rfl)
  have hcan := h.can.1
  have hKl := h.ltK
  rw [hnl] at hcan hn HL
  have HNL := hide hnl
  have HG := hide hg
  have HLE := hide (fun k => Nat.le_trans (logB_take_le L k) hs)
  have HE : Hid (∀ r, r ∈ L → ∀ W n E, encL r = E → E.length = n → Calls Try.prog 35 #[r.val] W fun e w' => ∃ g cap, e = .returned (.slice (some ⟨g, 0, none⟩) n cap) ∧ BRow w' W.heap.size (.slice (some ⟨g, 0, none⟩) n cap) E ∧ Below W.heap.size W w') := fun r hr W n E h1 h2 => BytesOf_any r W n E h1 h2 (hg r hr)
  clear h hg hs hnl
  go_enter Try.func49, Try.ntmps49
  go_wp2
  go_loopw [3, 4] (fun v i wr => ∃ (k nb : Nat) (a1 : Option Addr) (c1 : Nat), k ≤ n ∧ i = .int .i64 (k : Int) ∧ v = .slice a1 nb c1 ∧ Hid ((logB (L.take k)).length = nb) ∧ Hid (BRow wr w.heap.size (.slice a1 nb c1) (logB (L.take k))) ∧ Hid (Below w.heap.size w wr)) (fun _ i _ => n - (intOf i).toNat)
  case atStart => exact ⟨0, 0, none, 0, Nat.zero_le _, rfl, rfl, hide (by simp [logB]), BRow.nil _ _, Below.refl _ _⟩
  case round =>
    obtain ⟨k, nb, a1, c1, hk, rfl, rfl, HNB, HO, HB⟩ := hrel
    have hcan2 := ((unhide HB).cell (p := ⟨K, 0, none⟩) hKl).trans hcan
    by_cases hlt : (k : Int) < (n : Int)
    · obtain ⟨r, hr⟩ : ∃ r, L[k]? = some r := ⟨_, List.getElem?_eq_getElem (by rw [(unhide HL).1]; omega)⟩
      obtain ⟨b, off, rfl, hx⟩ := ((unhide HL).below (unhide HB)).2 (by omega)
      obtain ⟨x0, x1, x2, x3, x4, x5, x6, x7⟩ := hx k r hr
      obtain ⟨E, hE⟩ : ∃ E, encL r = E := ⟨_, rfl⟩
      obtain ⟨m, hm⟩ : ∃ m, E.length = m := ⟨_, rfl⟩
      have HBY := hide ((unhide HE) r (List.mem_of_getElem? hr) wr m E hE hm)
      have HT : Hid (logB (L.take (k + 1)) = logB (L.take k) ++ E) := by show _ = _; rw [List.take_add_one, hr, ← hE]; exact logB_snoc _ _
      have hnb2 : nb + m ≤ 100000 := by
        have := (unhide HLE) (k + 1)
        rw [unhide HT, List.length_append, unhide HNB, hm] at this
        exact this
      clear hx hr hE
      obtain ⟨rc, rn, ⟨rk, rra, rb, rt⟩, rd, ru⟩ := r
      dsimp only [ARec.val] at *
      go_wp2_with fail
      refine (unhide HBY).mono ?_
      rintro e w2 ⟨gx, cx, rfl, ox, b2⟩
      have HX := hide ox
      have HO2 := hide ((unhide HO).below b2)
      have HB2 := hide ((unhide HB).trans (b2.mono (unhide HB).size))
      have hnb := unhide HNB
      clear ox b2 x0 x1 x2 x3 x4 x5 x6 x7
      go_wp2_with (at_builtin; refine wpList_bytes _ rfl _ _ rfl w.heap.size (.slice a1 nb c1) (logB (L.take k)) rfl (unhide HO2) (.slice (some ⟨gx, 0, none⟩) m cx) m E rfl hm (unhide HX).lies (by rw [hnb]; omega) (unhide HB2).size ?_; intro ad3 c3 w3 ho3 hg3; rw [hnb, ← unhide HT] at ho3)
      have HB3 := hide ((unhide HB2).grown hg3 (unhide HB2).size (fun j hj => ((unhide HO2).lt j hj).1))
      have HO3 := hide ho3
      clear ho3 hg3
      go_roundw
      case rel => exact ⟨k + 1, nb + m, ad3, c3, by omega, by go_num, rfl, hide (by rw [unhide HT, List.length_append, hnb, hm]), unhide HO3, unhide HB3⟩
      case measure => simp [intOf]; omega
    · obtain rfl : k = n := by omega
      have hfull : L.take k = L := List.take_of_length_le (by rw [(unhide HL).1]; omega)
      rw [hfull] at HO HNB
      clear hfull
      go_wp2
      go_ret
      exact ⟨a1, c1, by rw [unhide HNB]; rfl, by rw [unhide HNB]; exact unhide HO, unhide HB⟩

/-- Has a client a record? -/
def hasR (L : List ARec) (c : Int) : Bool := L.any fun r => r.client == c
theorem hasR_yes {L : List ARec} {c : Int} {k : Nat} {r : ARec} (h : L[k]? = some r) (hc : r.client = c) : hasR L c = true := List.any_eq_true.2 ⟨r, List.mem_of_getElem? h, by simp [hc]⟩
theorem hasR_no {L : List ARec} {c : Int} (h : ∀ (j : Nat) (q : ARec), L[j]? = some q → q.client ≠ c) : hasR L c = false ∧ lastR L c = zeroRec := by
  have h1 : ∀ r, r ∈ L → r.client ≠ c := fun r hr => by
    obtain ⟨j, hj⟩ := List.getElem?_of_mem hr
    exact h j r hj
  constructor
  · cases hx : hasR L c
    · rfl
    · obtain ⟨r, hr, he⟩ := List.any_eq_true.1 hx
      exact absurd (by simpa using he) (h1 r hr)
  · rcases lastR_or L c with ⟨h2, _⟩ | ⟨h2, h3⟩
    · exact h2
    · exact absurd h3 (h1 _ h2)

set_option maxRecDepth 100000 in
set_option maxHeartbeats 4000000 in
theorem CLast_any (N K : Nat) (rv : Value) (L : List ARec) (c : Int) (w : World) (h : CRep w N K rv L) (hn : L.length ≤ 100000) :
    Calls Try.prog 50 #[.pointer (some ⟨K, 0, none⟩), .int .i64 c] w fun e w' => e = .returned (.tuple #[(lastR L c).val, .bool (hasR L c)]) ∧ Below w.heap.size w w' := by
  obtain ⟨n, hnl⟩ : ∃ n, L.length = n := ⟨_, rfl⟩
  obtain ⟨ra, rcap, rfl⟩ := row_form h.row
  have HL := hide (recs_row h.row rfl)
  have hcan := h.can.1
  have hKl := h.ltK
  rw [hnl] at hcan hn HL
  have HAT := hide (fun k r h1 h2 h3 => lastR_at L c k r h1 h2 h3)
  have HYES := hide (fun k r (h1 : L[k]? = some r) h2 => hasR_yes (c := c) h1 h2)
  have HNO := hide (hasR_no (L := L) (c := c))
  obtain ⟨lr, hlr⟩ : ∃ r, r = lastR L c := ⟨_, rfl⟩
  obtain ⟨hr, hhr⟩ : ∃ r, r = hasR L c := ⟨_, rfl⟩
  rw [← hlr] at HAT HNO ⊢
  rw [← hhr] at HYES HNO ⊢
  have HR0 : Hid ((w.alloc (.cells #[.int .i64 0, .int .i64 0, .int .i64 0, .string ⟨#[]⟩, .string ⟨#[]⟩, .string ⟨#[]⟩, .int .i64 0, .string ⟨#[]⟩] 47)).heap[w.heap.size]? = some (.cells #[.int .i64 0, .int .i64 0, .int .i64 0, .string ⟨#[]⟩, .string ⟨#[]⟩, .string ⟨#[]⟩, .int .i64 0, .string ⟨#[]⟩] 47 (0, 0))) := heap_alloc_new w _
  have HB0 := hide ((Below.refl w.heap.size w).alloc (Nat.le_refl _) (.cells #[.int .i64 0, .int .i64 0, .int .i64 0, .string ⟨#[]⟩, .string ⟨#[]⟩, .string ⟨#[]⟩, .int .i64 0, .string ⟨#[]⟩] 47))
  obtain ⟨W0, hW0⟩ : ∃ W0, W0 = w.alloc (.cells #[.int .i64 0, .int .i64 0, .int .i64 0, .string ⟨#[]⟩, .string ⟨#[]⟩, .string ⟨#[]⟩, .int .i64 0, .string ⟨#[]⟩] 47) := ⟨_, rfl⟩
  rw [← hW0] at HR0 HB0
  clear h hlr hhr hnl
  go_enter Try.func50, Try.ntmps50
  go_wp2
  rw [← hW0]
  clear hW0
  go_loopw [6] (fun i wr => ∃ k : Nat, k ≤ n ∧ i = .int .i64 ((k : Int) - 1) ∧ wr = W0 ∧ Hid (∀ (j : Nat) (q : ARec), k ≤ j → L[j]? = some q → q.client ≠ c)) (fun i _ => (intOf i + 1).toNat)
  case atStart => exact ⟨n, Nat.le_refl _, rfl, rfl, hide (fun j q hj hq => by have := (List.getElem?_eq_some_iff.1 hq).1; rw [(unhide HL).1] at this; omega)⟩
  case round =>
    obtain ⟨k, hk, rfl, rfl, HJ⟩ := hrel
    have hcan2 := ((unhide HB0).cell (p := ⟨K, 0, none⟩) hKl).trans hcan
    by_cases hk0 : k = 0
    · subst hk0
      have HE := hide ((unhide HNO) (fun j q hq => (unhide HJ) j q (Nat.zero_le _) hq))
      obtain ⟨⟨z0, z1, z2, z3⟩, ⟨z4, z5, z6, z7⟩, fz⟩ := eight (unhide HR0)
      have hzz : w.heap.size < wr.heap.size := (Array.getElem?_eq_some_iff.1 (unhide HR0)).1
      go_wp2
      have hb8 := set8_blk (unhide HR0) (.int .i64 0) (.int .i64 0) (.int .i64 0) (.string ⟨#[]⟩) (.string ⟨#[]⟩) (.string ⟨#[]⟩) (.int .i64 0) (.string ⟨#[]⟩)
      have hk8 := set8_kept wr w.heap.size (.int .i64 0) (.int .i64 0) (.int .i64 0) (.string ⟨#[]⟩) (.string ⟨#[]⟩) (.string ⟨#[]⟩) (.int .i64 0) (.string ⟨#[]⟩)
      unfold set8 at hb8 hk8
      generalize hw8 : ((((((((wr.setCell ⟨w.heap.size, 0, none⟩ (.int .i64 0)).setCell ⟨w.heap.size, 1, none⟩ (.int .i64 0)).setCell ⟨w.heap.size, 2, none⟩ (.int .i64 0)).setCell ⟨w.heap.size, 3, none⟩ (.string ⟨#[]⟩)).setCell ⟨w.heap.size, 4, none⟩ (.string ⟨#[]⟩)).setCell ⟨w.heap.size, 5, none⟩ (.string ⟨#[]⟩)).setCell ⟨w.heap.size, 6, none⟩ (.int .i64 0)).setCell ⟨w.heap.size, 7, none⟩ (.string ⟨#[]⟩)) = w8 at hb8 hk8 ⊢
      obtain ⟨⟨q0, q1, q2, q3⟩, ⟨q4, q5, q6, q7⟩, _⟩ := eight hb8
      have bel : Below w.heap.size w w8 := (unhide HB0).trans (hk8.below (by have := (unhide HB0).size; omega) (by simp))
      refine bodyPost_ret (v := .tuple #[.agg #[.int .i64 0, .int .i64 0, .int .i64 0, .string ⟨#[]⟩, .string ⟨#[]⟩, .string ⟨#[]⟩, .int .i64 0, .string ⟨#[]⟩], .bool false]) (by simp [results, Try.results50, go_sem, q0, q1, q2, q3, q4, q5, q6, q7]) rfl ?_
      rw [(unhide HE).1, (unhide HE).2]
      exact ⟨rfl, bel⟩

    · obtain ⟨m, rfl⟩ : ∃ m, k = m + 1 := ⟨k - 1, by omega⟩
      have hm1 : (((m + 1 : Nat) : Int) - 1) = (m : Int) := by omega
      rw [hm1]
      have hmn : (m : Int) < (n : Int) := by omega
      obtain ⟨r, hr'⟩ : ∃ r, L[m]? = some r := ⟨_, List.getElem?_eq_getElem (by rw [(unhide HL).1]; omega)⟩
      obtain ⟨b, off, rfl, hx⟩ := ((unhide HL).below (unhide HB0)).2 (by omega)
      have hbl := (hx m r hr').lt
      obtain ⟨x0, x1, x2, x3, x4, x5, x6, x7⟩ := hx m r hr'
      have HRR := hide hr'
      clear hx hr' hm1
      by_cases hc : r.client = c
      · have HE1 := hide ((unhide HAT) m r (unhide HRR) hc (fun j q hj hq => (unhide HJ) j q (by omega) hq))
        have HE2 := hide ((unhide HYES) m r (unhide HRR) hc)
        have hbn : b ≠ w.heap.size := by
          obtain ⟨b', o', e, hx'⟩ := (unhide HL).2 (by omega)
          cases e
          have := (hx' m r (unhide HRR)).lt
          omega
        clear HRR
        obtain ⟨rc, rn, ⟨rk, ra, rb, rt⟩, rd, ru⟩ := r
        dsimp only at *
        subst hc
        obtain ⟨⟨z0, z1, z2, z3⟩, ⟨z4, z5, z6, z7⟩, fz⟩ := eight (unhide HR0)
        have hzz : w.heap.size < wr.heap.size := (Array.getElem?_eq_some_iff.1 (unhide HR0)).1
        go_wp2
        have hb8 := set8_blk (unhide HR0) (.int .i64 rc) (.int .i64 rn) (.int .i64 rk) (.string ra) (.string rb) (.string rt) (.int .i64 rd) (.string ru)
        have hk8 := set8_kept wr w.heap.size (.int .i64 rc) (.int .i64 rn) (.int .i64 rk) (.string ra) (.string rb) (.string rt) (.int .i64 rd) (.string ru)
        unfold set8 at hb8 hk8
        generalize hw8 : ((((((((wr.setCell ⟨w.heap.size, 0, none⟩ (.int .i64 rc)).setCell ⟨w.heap.size, 1, none⟩ (.int .i64 rn)).setCell ⟨w.heap.size, 2, none⟩ (.int .i64 rk)).setCell ⟨w.heap.size, 3, none⟩ (.string ra)).setCell ⟨w.heap.size, 4, none⟩ (.string rb)).setCell ⟨w.heap.size, 5, none⟩ (.string rt)).setCell ⟨w.heap.size, 6, none⟩ (.int .i64 rd)).setCell ⟨w.heap.size, 7, none⟩ (.string ru)) = w8 at hb8 hk8 ⊢
        obtain ⟨⟨q0, q1, q2, q3⟩, ⟨q4, q5, q6, q7⟩, _⟩ := eight hb8
        have bel : Below w.heap.size w w8 := (unhide HB0).trans (hk8.below (by have := (unhide HB0).size; omega) (by simp))
        refine bodyPost_ret (v := .tuple #[.agg #[.int .i64 rc, .int .i64 rn, .int .i64 rk, .string ra, .string rb, .string rt, .int .i64 rd, .string ru], .bool true]) (by simp [results, Try.results50, go_sem, q0, q1, q2, q3, q4, q5, q6, q7]) rfl ?_
        rw [HE1.out, HE2.out]
        exact ⟨rfl, bel⟩

      · have hcb : (r.client == c) = false := by simpa using hc
        go_wp2
        go_roundw
        case rel => exact ⟨m, by omega, by first | rfl | go_num, by trivial, hide (fun j q hj hq => by
          by_cases h1 : j = m
          · subst h1
            rw [unhide HRR] at hq
            cases hq
            exact hc
          · exact (unhide HJ) j q (by omega) hq)⟩
        case measure => simp [intOf]

end Go.Proofs.Ytlndphpidkacgaa

/- The Chest turned; its Call: the cases in which it stands. -/
namespace Go.Proofs.Ytlndphpidkacgaa
open Go.RowKit
set_option linter.unusedSimpArgs false
set_option linter.unusedVariables false

/-- Two cells written, one behind the other. -/
def set2 (w : World) (b : Nat) (y0 y1 : Value) : World := (w.setCell ⟨b, 0, none⟩ y0).setCell ⟨b, 1, none⟩ y1
theorem set2_blk {w : World} {b : Nat} {x0 x1 : Value} {e : TypeId} (h : w.heap[b]? = some (.cells #[x0, x1] e (0, 0))) (y0 y1 : Value) : (set2 w b y0 y1).heap[b]? = some (.cells #[y0, y1] e (0, 0)) := by
  have h0 := heap_setCell_same h (o := 0) y0
  simp only [List.setIfInBounds_toArray, List.set_cons_zero, List.set_cons_succ] at h0
  have h1 := heap_setCell_same h0 (o := 1) y1
  simp only [List.setIfInBounds_toArray, List.set_cons_zero, List.set_cons_succ] at h1
  exact h1
theorem set2_kept (w : World) (b : Nat) (y0 y1 : Value) : Kept [b] w (set2 w b y0 y1) := by
  have k : ∀ (w : World) (o : Nat) (y : Value), Kept [b] w (w.setCell ⟨b, o, none⟩ y) := fun w o y => kept_setCell [b] w b o y (by simp)
  exact (k _ _ _).trans (k _ _ _) (fun x hx => .inl hx)
theorem two {w : World} {b : Nat} {x0 x1 : Value} {e : TypeId} (h : w.heap[b]? = some (.cells #[x0, x1] e (0, 0))) :
    (w.cell? ⟨b, 0, none⟩ = some x0 ∧ w.cell? ⟨b, 1, none⟩ = some x1) ∧ ∀ j, w.frozen? ⟨b, j, none⟩ = false := by
  refine ⟨⟨?_, ?_⟩, fun j => frozen_of_row w b j _ _ h⟩ <;> rw [cell_of_row w b _ _ _ _ h] <;> rfl
theorem four {w : World} {b : Nat} {x0 x1 x2 x3 : Value} {e : TypeId} (h : w.heap[b]? = some (.cells #[x0, x1, x2, x3] e (0, 0))) :
    (w.cell? ⟨b, 0, none⟩ = some x0 ∧ w.cell? ⟨b, 1, none⟩ = some x1 ∧ w.cell? ⟨b, 2, none⟩ = some x2 ∧ w.cell? ⟨b, 3, none⟩ = some x3) ∧ ∀ j, w.frozen? ⟨b, j, none⟩ = false := by
  refine ⟨⟨?_, ?_, ?_, ?_⟩, fun j => frozen_of_row w b j _ _ h⟩ <;> rw [cell_of_row w b _ _ _ _ h] <;> rfl

/-- From w to w' the Chest at K has come to L'. -/
def CTurned (w : World) (N K : Nat) (rv : Value) (w' : World) (L' : List ARec) : Prop :=
  ∃ rv', CRep w' N K rv' L' ∧ Kept (K :: rv.ownBlock.toList) w w' ∧ ∀ k, rv'.ownBlock = some k → rv.ownBlock = some k ∨ w.heap.size ≤ k
theorem CTurned.of_below {w w' : World} {N K : Nat} {rv : Value} {L : List ARec} (h : CRep w N K rv L) (hb : Below w.heap.size w w') : CTurned w N K rv w' L :=
  ⟨rv, h.below hb, Kept.of_below hb, fun k hk => .inl hk⟩

theorem Good.few {L : List ARec} (h : Good L) : L.length * 5 ≤ (logB L).length := by
  induction L with
  | nil => simp
  | cons r L ih =>
    have h1 := (encL_le (h r (by simp))).1
    have h2 := ih (fun q hq => h q (by simp [hq]))
    unfold logB at h2 ⊢
    rw [List.flatMap_cons, List.length_append, List.length_cons]
    omega

/-- What the Chest's Call answers. -/
def CCRes (w : World) (N K : Nat) (rv : Value) (L : List ARec) (R : CRes) (e : Ending) (w' : World) : Prop :=
  e = .returned (.tuple #[.agg #[.int .i64 R.code, .string R.text], .int .i64 (((logB R.log).length : Int) - ((logB L).length : Int)), .int .i64 R.err]) ∧ CTurned w N K rv w' R.log

theorem CCRes.stay {w w' : World} {N K : Nat} {rv : Value} {L : List ARec} (h : CRep w N K rv L) (hb : Below w.heap.size w w') (code : Int) (text : ByteArray) (err : Int) :
    CCRes w N K rv L ⟨code, text, err, L⟩ (.returned (.tuple #[.agg #[.int .i64 code, .string text], .int .i64 0, .int .i64 err])) w' :=
  ⟨by rw [Int.sub_self], CTurned.of_below h hb⟩

set_option maxRecDepth 100000 in
set_option maxHeartbeats 4000000 in
theorem CCall_range (N K : Nat) (rv : Value) (L : List ARec) (client no k : Int) (a b t : ByteArray) (w : World) (h : CRep w N K rv L) (hr : client < 0 ∨ 2 < client ∨ no < 1 ∨ 200 < no) :
    Calls Try.prog 71 #[.pointer (some ⟨K, 0, none⟩), .int .i64 client, .int .i64 no, .agg #[.int .i64 k, .string a, .string b, .string t]] w (CCRes w N K rv L (aCall L client no ⟨k, a, b, t⟩)) := by
  rw [aCall, if_pos hr]
  have HST := hide (fun w' hb => CCRes.stay (w' := w') h hb 0 ⟨#[]⟩ 9)
  have HBL := hide (((Below.refl w.heap.size w).alloc (Nat.le_refl _) (.cells #[.int .i64 k, .string a, .string b, .string t] 32)).alloc (by simp) (.cells #[.int .i64 0, .string ⟨#[]⟩] 34))
  clear h
  by_cases q1 : client < 0
  · go_enter Try.func71, Try.ntmps71
    go_wp2
    refine bodyPost_ret (v := .tuple #[.agg #[.int .i64 0, .string ⟨#[]⟩], .int .i64 0, .int .i64 9]) (by simp [results, Try.results71, go_sem]) rfl ?_
    exact (unhide HST) _ (unhide HBL)
  by_cases q2 : 3 ≤ client
  · go_enter Try.func71, Try.ntmps71
    go_wp2
    refine bodyPost_ret (v := .tuple #[.agg #[.int .i64 0, .string ⟨#[]⟩], .int .i64 0, .int .i64 9]) (by simp [results, Try.results71, go_sem]) rfl ?_
    exact (unhide HST) _ (unhide HBL)
  by_cases q3 : no < 1
  · go_enter Try.func71, Try.ntmps71
    go_wp2
    refine bodyPost_ret (v := .tuple #[.agg #[.int .i64 0, .string ⟨#[]⟩], .int .i64 0, .int .i64 9]) (by simp [results, Try.results71, go_sem]) rfl ?_
    exact (unhide HST) _ (unhide HBL)
  have q4 : 200 < no := by omega
  go_enter Try.func71, Try.ntmps71
  go_wp2
  refine bodyPost_ret (v := .tuple #[.agg #[.int .i64 0, .string ⟨#[]⟩], .int .i64 0, .int .i64 9]) (by simp [results, Try.results71, go_sem]) rfl ?_
  exact (unhide HST) _ (unhide HBL)

set_option maxRecDepth 100000 in
set_option maxHeartbeats 4000000 in
theorem CCall_code (N K : Nat) (rv : Value) (L : List ARec) (client no k : Int) (a b t : ByteArray) (w : World) (h : CRep w N K rv L) (hr : ¬ (client < 0 ∨ 2 < client ∨ no < 1 ∨ 200 < no)) (hc : checkI ⟨k, a, b, t⟩ ≠ 0) (ha : a.size ≤ maxLen) (hb : b.size ≤ maxLen) (ht : t.size ≤ maxLen) :
    Calls Try.prog 71 #[.pointer (some ⟨K, 0, none⟩), .int .i64 client, .int .i64 no, .agg #[.int .i64 k, .string a, .string b, .string t]] w (CCRes w N K rv L (aCall L client no ⟨k, a, b, t⟩)) := by
  rw [aCall, if_neg hr, if_pos hc]
  have HCF := hide (fun W => CallFault_any k a b t W ha hb ht)
  generalize checkI ⟨k, a, b, t⟩ = code at hc HCF ⊢
  have HST := hide (fun w' hb => CCRes.stay (w' := w') h hb 0 ⟨#[]⟩ code)
  have HBL := hide (((Below.refl w.heap.size w).alloc (Nat.le_refl _) (.cells #[.int .i64 k, .string a, .string b, .string t] 32)).alloc (by simp) (.cells #[.int .i64 0, .string ⟨#[]⟩] 34))
  have q1 : ¬ (client < 0) := by omega
  have q2 : ¬ (3 ≤ client) := by omega
  have q3 : ¬ (no < 1) := by omega
  have q4 : ¬ (200 < no) := by omega
  have hA : ((w.alloc (.cells #[.int .i64 k, .string a, .string b, .string t] 32)).alloc (.cells #[.int .i64 0, .string ⟨#[]⟩] 34)).heap[w.heap.size + 1]? = some (.cells #[.int .i64 0, .string ⟨#[]⟩] 34 (0, 0)) := by
    have h := heap_alloc_new (w.alloc (.cells #[.int .i64 k, .string a, .string b, .string t] 32)) (.cells #[.int .i64 0, .string ⟨#[]⟩] 34)
    rw [show (w.alloc (.cells #[.int .i64 k, .string a, .string b, .string t] 32)).heap.size = w.heap.size + 1 by simp] at h
    exact h
  have HA := hide hA
  clear h hA hr
  go_enter Try.func71, Try.ntmps71
  go_wp2_with fail
  refine ((unhide HCF) _).mono ?_
  rintro e w1 ⟨rfl, b1⟩
  have HB1 := hide ((unhide HBL).trans (b1.mono (by simp; omega)))
  have HA1 := hide ((b1.block (w.heap.size + 1) (by simp)).trans (unhide HA))
  obtain ⟨⟨z0, z1⟩, fz⟩ := two (unhide HA1)
  have hzz : w.heap.size + 1 < w1.heap.size := (Array.getElem?_eq_some_iff.1 (unhide HA1)).1
  clear b1
  go_wp2
  have hb2 := set2_blk (unhide HA1) (.int .i64 0) (.string ⟨#[]⟩)
  have hk2 := set2_kept w1 (w.heap.size + 1) (.int .i64 0) (.string ⟨#[]⟩)
  unfold set2 at hb2 hk2
  generalize hw8 : ((w1.setCell ⟨w.heap.size + 1, 0, none⟩ (.int .i64 0)).setCell ⟨w.heap.size + 1, 1, none⟩ (.string ⟨#[]⟩)) = w8 at hb2 hk2 ⊢
  obtain ⟨⟨q0, q1'⟩, _⟩ := two hb2
  have bel : Below w.heap.size w w8 := (unhide HB1).trans (hk2.below (unhide HB1).size (by simp))
  refine bodyPost_ret (v := .tuple #[.agg #[.int .i64 0, .string ⟨#[]⟩], .int .i64 0, .int .i64 code]) (by simp [results, Try.results71, go_sem, q0, q1']) rfl ?_
  exact (unhide HST) _ bel

end Go.Proofs.Ytlndphpidkacgaa

/- The Chest's Call: a call that only asks. -/
namespace Go.Proofs.Ytlndphpidkacgaa
open Go.RowKit
set_option linter.unusedSimpArgs false
set_option linter.unusedVariables false

theorem DRep.base {w : World} {N M D : Nat} {v : Value} {st : List AFile} (h : DRep w M D v st) (hN : N ≤ M) : DRep w N D v st := ⟨Nat.le_trans hN h.new, h.blk, ownsRow_base h.row hN, h.nd⟩
/-- Behind a Drawer's turning what lies below is as it was. -/
theorem DTurned.below {w w' : World} {N D : Nat} {v : Value} {st st' : List AFile} (h0 : DRep w N D v st) (h : DTurned w N D v w' st') (hN : N ≤ w.heap.size) : Below N w w' := by
  obtain ⟨v', _, hk, _⟩ := h
  refine hk.below hN (fun j hj => ?_)
  rcases List.mem_cons.1 hj with rfl | hj
  · exact h0.new
  · exact (h0.row.lt j (by simpa using hj)).1

set_option maxRecDepth 100000 in
set_option maxHeartbeats 4000000 in
theorem CCall_ask (N K : Nat) (rv : Value) (L : List ARec) (client no k : Int) (a b t : ByteArray) (w : World) (h : CRep w N K rv L) (hg : Good L) (hs : (logB L).length ≤ 2000) (hr : ¬ (client < 0 ∨ 2 < client ∨ no < 1 ∨ 200 < no)) (hc : checkI ⟨k, a, b, t⟩ = 0) (hch : changesB k = false) (ha : a.size ≤ maxLen) (hb : b.size ≤ maxLen) (ht : t.size ≤ maxLen) :
    Calls Try.prog 71 #[.pointer (some ⟨K, 0, none⟩), .int .i64 client, .int .i64 no, .agg #[.int .i64 k, .string a, .string b, .string t]] w (CCRes w N K rv L (aCall L client no ⟨k, a, b, t⟩)) := by
  rw [aCall, if_neg hr, if_neg (by simp [hc]), if_pos hch]
  have HCF := hide (fun W => CallFault_any k a b t W ha hb ht)
  rw [hc] at HCF
  have HIC := hide (fun W => IsChange_any k W)
  rw [hch] at HIC
  obtain ⟨n, hnl⟩ : ∃ n, L.length = n := ⟨_, rfl⟩
  obtain ⟨ra, rcap, rfl⟩ := row_form h.row
  have hRA := recs_row h.row rfl
  have hn : L.length ≤ 1000000 := by have := hg.few; omega
  have HBE : Hid (∀ W, Below w.heap.size w W → Calls Try.prog 46 #[.slice ra n rcap] W fun e w' => ∃ D v, e = .returned (.pointer (some ⟨D, 0, none⟩)) ∧ DRep w' W.heap.size D v (behind L) ∧ Below W.heap.size W w') := fun W hW => by
    rw [← hnl]
    exact Behind_any ra L.length rcap L W (hRA.below hW) hg.small hn
  have HDo : Hid (∀ D v W, DRep W (w.heap.size + 2) D v (behind L) → Calls Try.prog 21 #[.pointer (some ⟨D, 0, none⟩), .agg #[.int .i64 k, .string a, .string b, .string t]] W fun e w' => e = .returned (.agg #[.int .i64 (aDo (behind L) ⟨k, a, b, t⟩).code, .string (aDo (behind L) ⟨k, a, b, t⟩).text]) ∧ DTurned W (w.heap.size + 2) D v w' (aDo (behind L) ⟨k, a, b, t⟩).st) := fun D v W hW => dDo_any ⟨k, a, b, t⟩ (w.heap.size + 2) D v (behind L) W hW (behind_inv _) ha hb ht
  have hcan := h.can.1
  have hKl := h.ltK
  rw [hnl] at hcan
  have HST := hide (fun w' hb d u => CCRes.stay (w' := w') h hb d u 0)
  rw [hnl] at HST ⊢
  generalize aDo (behind L) ⟨k, a, b, t⟩ = ad at HDo ⊢
  obtain ⟨dcode, dtext, dst⟩ := ad
  dsimp only at HDo ⊢
  have hCA : ∀ W, Below (w.heap.size + 2) ((w.alloc (.cells #[.int .i64 k, .string a, .string b, .string t] 32)).alloc (.cells #[.int .i64 0, .string ⟨#[]⟩] 34)) W → W.heap[w.heap.size]? = some (.cells #[.int .i64 k, .string a, .string b, .string t] 32 (0, 0)) ∧ W.heap[w.heap.size + 1]? = some (.cells #[.int .i64 0, .string ⟨#[]⟩] 34 (0, 0)) ∧ w.heap.size + 2 ≤ W.heap.size ∧ Below w.heap.size w W := fun W hW => by
    have h1 := heap_alloc_new (w.alloc (.cells #[.int .i64 k, .string a, .string b, .string t] 32)) (.cells #[.int .i64 0, .string ⟨#[]⟩] 34)
    rw [show (w.alloc (.cells #[.int .i64 k, .string a, .string b, .string t] 32)).heap.size = w.heap.size + 1 by simp] at h1
    refine ⟨(hW.block w.heap.size (by omega)).trans ((Below.heap_alloc _ _ _ (by simp)).trans (heap_alloc_new w _)), (hW.block (w.heap.size + 1) (by omega)).trans h1, ?_, ?_⟩
    · have := hW.size; simp at this; omega
    · exact (((Below.refl w.heap.size w).alloc (Nat.le_refl _) _).alloc (by simp) _).trans (hW.mono (by omega))
  have HCA := hide hCA
  have q1 : ¬ (client < 0) := by omega
  have q2 : ¬ (3 ≤ client) := by omega
  have q3 : ¬ (no < 1) := by omega
  have q4 : ¬ (200 < no) := by omega
  clear h hr hCA hRA hg hs hn hc hch ha hb ht hnl
  go_enter Try.func71, Try.ntmps71
  go_wp2_with fail
  refine ((unhide HCF) _).mono ?_
  rintro e w1 ⟨rfl, b1⟩
  have hb0 : Below (w.heap.size + 2) ((w.alloc (.cells #[.int .i64 k, .string a, .string b, .string t] 32)).alloc (.cells #[.int .i64 0, .string ⟨#[]⟩] 34)) w1 := b1.mono (by simp)
  have HB1 := hide hb0
  obtain ⟨g1, g2, g3, g4⟩ := (unhide HCA) w1 hb0
  obtain ⟨⟨x0, x1, x2, x3⟩, _⟩ := four g1
  have HB1w := hide g4
  clear b1 hb0 g1 g2 g4
  go_wp2_with fail
  refine ((unhide HIC) _).mono ?_
  rintro e w2 ⟨rfl, rfl⟩
  have hcan1 := ((unhide HB1w).cell (p := ⟨K, 0, none⟩) hKl).trans hcan
  obtain ⟨g1, g2, _, _⟩ := (unhide HCA) w2 (unhide HB1)
  obtain ⟨⟨z0, z1⟩, fz⟩ := two g2
  clear g1 g2
  go_wp2_with fail
  go_region_law (first | (go_simp; go_at_call 46; refine ((unhide HBE) _ (unhide HB1w).drew).mono ?_; rintro e w3 ⟨D, v, rfl, hd3, b3⟩; have HD3 := hide (hd3.base (N := w.heap.size + 2) g3); have HB3 := hide ((unhide HB1).drew.trans (b3.mono g3)); clear hd3 b3; have h3 := (unhide HCA) w3 (unhide HB3); obtain ⟨⟨x0', x1', x2', x3'⟩, _⟩ := four h3.1; have hz3 := h3.2.2.1; clear h3) | (go_simp; go_at_call 21; refine ((unhide HDo) D v _ (unhide HD3)).mono ?_; rintro e w4 ⟨rfl, hT⟩; have HB4 := hide ((unhide HB3).trans ((hT.below (unhide HD3) hz3))); clear hT; have h4 := (unhide HCA) w4 (unhide HB4); have HA4 := hide h4.2.1; have HW4 := hide h4.2.2.2; obtain ⟨⟨y0, y1⟩, fy⟩ := two h4.2.1; clear h4) | fail)
  all_goals
    go_wp2
    have hb2 := set2_blk (unhide HA4) (.int .i64 dcode) (.string dtext)
    have hk2 := set2_kept w4 (w.heap.size + 1) (.int .i64 dcode) (.string dtext)
    unfold set2 at hb2 hk2
    generalize hw8 : ((w4.setCell ⟨w.heap.size + 1, 0, none⟩ (.int .i64 dcode)).setCell ⟨w.heap.size + 1, 1, none⟩ (.string dtext)) = w8 at hb2 hk2 ⊢
    obtain ⟨⟨p0, p1⟩, _⟩ := two hb2
    have bel : Below w.heap.size w w8 := (unhide HW4).trans (hk2.below (unhide HW4).size (by simp))
    refine bodyPost_ret (v := .tuple #[.agg #[.int .i64 dcode, .string dtext], .int .i64 0, .int .i64 0]) (by simp [results, Try.results71, go_sem, p0, p1]) rfl ?_
    exact (unhide HST) _ bel _ _

end Go.Proofs.Ytlndphpidkacgaa

/- The Chest's Call: the same one again; an old one. -/
namespace Go.Proofs.Ytlndphpidkacgaa
open Go.RowKit
set_option linter.unusedSimpArgs false
set_option linter.unusedVariables false

theorem eql32 (c c' : ACall) (w : World) : (binOp .eql 32 (.agg (callCells c)) (.agg (callCells c'))).run Try.prog w = .ok (.bool (callB c c')) w := by
  have h := equal32 9998 c c' w
  rw [run_eql_struct, h]
  rfl

set_option maxRecDepth 100000 in
set_option maxHeartbeats 8000000 in
theorem CCall_again (N K : Nat) (rv : Value) (L : List ARec) (client no k : Int) (a b t : ByteArray) (w : World) (h : CRep w N K rv L) (hg : Good L) (hs : (logB L).length ≤ 2000) (hr : ¬ (client < 0 ∨ 2 < client ∨ no < 1 ∨ 200 < no)) (hc : checkI ⟨k, a, b, t⟩ = 0) (hch : changesB k = true) (ha : a.size ≤ maxLen) (hb : b.size ≤ maxLen) (ht : t.size ≤ maxLen) (hh : hasR L client = true) (hno : no = (lastR L client).no) (hcb : callB ⟨k, a, b, t⟩ (lastR L client).call = true) :
    Calls Try.prog 71 #[.pointer (some ⟨K, 0, none⟩), .int .i64 client, .int .i64 no, .agg #[.int .i64 k, .string a, .string b, .string t]] w (CCRes w N K rv L (aCall L client no ⟨k, a, b, t⟩)) := by
  have hnlt : ¬ (lastR L client).no < no := by omega
  rw [aCall, if_neg hr, if_neg (by simp [hc]), if_neg (by simp [hch]), if_neg hnlt, if_pos ⟨hno, hcb⟩]

  have HCF := hide (fun W => CallFault_any k a b t W ha hb ht)
  rw [hc] at HCF
  have HIC := hide (fun W => IsChange_any k W)
  rw [hch] at HIC
  have hnn : L.length ≤ 100000 := by have := hg.few; omega
  have HLA : Hid (∀ W, Below w.heap.size w W → Calls Try.prog 50 #[.pointer (some ⟨K, 0, none⟩), .int .i64 client] W fun e w' => e = .returned (.tuple #[(lastR L client).val, .bool (hasR L client)]) ∧ Below W.heap.size W w') := fun W hW => CLast_any N K rv L client W (h.below hW) hnn

  rw [hh] at HLA
  have HE := hide (fun W => eql32 ⟨k, a, b, t⟩ (lastR L client).call W)
  rw [hcb] at HE
  have HST := hide (fun w' hb => CCRes.stay (w' := w') h hb (lastR L client).code (lastR L client).ans 0)
  clear hcb hnlt
  generalize lastR L client = lr at *
  obtain ⟨lc, ln, ⟨lk, la, lb, lt⟩, ld, lu⟩ := lr
  dsimp only [ARec.val, callCells] at *
  have heqb : (no == ln) = true := by simpa using hno

  have hCA : ∀ W, Below (w.heap.size + 2) ((w.alloc (.cells #[.int .i64 k, .string a, .string b, .string t] 32)).alloc (.cells #[.int .i64 0, .string ⟨#[]⟩] 34)) W → W.heap[w.heap.size]? = some (.cells #[.int .i64 k, .string a, .string b, .string t] 32 (0, 0)) ∧ W.heap[w.heap.size + 1]? = some (.cells #[.int .i64 0, .string ⟨#[]⟩] 34 (0, 0)) ∧ w.heap.size + 2 ≤ W.heap.size ∧ Below w.heap.size w W := fun W hW => by
    have h1 := heap_alloc_new (w.alloc (.cells #[.int .i64 k, .string a, .string b, .string t] 32)) (.cells #[.int .i64 0, .string ⟨#[]⟩] 34)
    rw [show (w.alloc (.cells #[.int .i64 k, .string a, .string b, .string t] 32)).heap.size = w.heap.size + 1 by simp] at h1
    refine ⟨(hW.block w.heap.size (by omega)).trans ((Below.heap_alloc _ _ _ (by simp)).trans (heap_alloc_new w _)), (hW.block (w.heap.size + 1) (by omega)).trans h1, ?_, ?_⟩
    · have := hW.size; simp at this; omega
    · exact (((Below.refl w.heap.size w).alloc (Nat.le_refl _) _).alloc (by simp) _).trans (hW.mono (by omega))
  have HCA := hide hCA
  have q1 : ¬ (client < 0) := by omega
  have q2 : ¬ (3 ≤ client) := by omega
  have q3 : ¬ (no < 1) := by omega
  have q4 : ¬ (200 < no) := by omega

  clear h hr hCA hg hs hc hch ha hb ht hh hno

  go_enter Try.func71, Try.ntmps71
  go_wp2_with fail
  refine ((unhide HCF) _).mono ?_
  rintro e w1 ⟨rfl, b1⟩
  have hb0 : Below (w.heap.size + 2) ((w.alloc (.cells #[.int .i64 k, .string a, .string b, .string t] 32)).alloc (.cells #[.int .i64 0, .string ⟨#[]⟩] 34)) w1 := b1.mono (by simp)
  have HB1 := hide hb0
  obtain ⟨g1, g2, g3, g4⟩ := (unhide HCA) w1 hb0
  obtain ⟨⟨x0, x1, x2, x3⟩, _⟩ := four g1
  have HB1w := hide g4
  clear b1 hb0 g1 g2 g4
  go_wp2_with fail
  refine ((unhide HIC) _).mono ?_
  rintro e w2 ⟨rfl, rfl⟩
  go_wp2_with fail
  refine ((unhide HLA) _ (unhide HB1w)).mono ?_
  rintro e w3 ⟨rfl, b3⟩
  clear x0 x1 x2 x3
  have HB3 := hide ((unhide HB1).trans (b3.mono g3))
  clear b3
  obtain ⟨g1, g2, g3', g4⟩ := (unhide HCA) w3 (unhide HB3)
  have HC3 := hide g1
  have HA3 := hide g2
  have HB3w := hide g4
  clear g1 g2 g4

  have HBV : Hid (Below w.heap.size w (w3.alloc (.cells #[.int .i64 lc, .int .i64 ln, .int .i64 lk, .string la, .string lb, .string lt, .int .i64 ld, .string lu] 47))) := (unhide HB3w).alloc (unhide HB3w).size _
  have HAV : Hid ((w3.alloc (.cells #[.int .i64 lc, .int .i64 ln, .int .i64 lk, .string la, .string lb, .string lt, .int .i64 ld, .string lu] 47)).heap[w.heap.size + 1]? = some (.cells #[.int .i64 0, .string ⟨#[]⟩] 34 (0, 0))) := (Below.heap_alloc _ _ _ (by omega)).trans (unhide HA3)
  obtain ⟨⟨x0, x1, x2, x3⟩, _⟩ := four (unhide HC3)
  obtain ⟨⟨z0, z1⟩, fz⟩ := two (unhide HA3)
  have hzw : w.heap.size < w3.heap.size := by omega
  have hzw1 : w.heap.size + 1 < w3.heap.size := by omega

  have e32 := unhide HE
  go_wp2
  have hb2 := set2_blk (unhide HA3) (.int .i64 ld) (.string lu)
  have hk2 := set2_kept w3 (w.heap.size + 1) (.int .i64 ld) (.string lu)
  unfold set2 at hb2 hk2

  replace hb2 := (Below.heap_alloc _ (.cells #[.int .i64 lc, .int .i64 ln, .int .i64 lk, .string la, .string lb, .string lt, .int .i64 ld, .string lu] 47) (w.heap.size + 1) (Array.getElem?_eq_some_iff.1 hb2).1).trans hb2
  replace hk2 := hk2.trans (Kept.of_below (own := []) ((Below.refl _ _).alloc (Nat.le_refl _) (.cells #[.int .i64 lc, .int .i64 ln, .int .i64 lk, .string la, .string lb, .string lt, .int .i64 ld, .string lu] 47))) (by simp)

  generalize hw8 : (((w3.setCell ⟨w.heap.size + 1, 0, none⟩ (.int .i64 ld)).setCell ⟨w.heap.size + 1, 1, none⟩ (.string lu)).alloc (.cells #[.int .i64 lc, .int .i64 ln, .int .i64 lk, .string la, .string lb, .string lt, .int .i64 ld, .string lu] 47)) = w99 at hb2 hk2 ⊢
  obtain ⟨⟨p0, p1⟩, _⟩ := two hb2
  have bel : Below w.heap.size w w99 := (unhide HB3w).trans (hk2.below (unhide HB3w).size (by simp))
  refine bodyPost_ret (v := .tuple #[.agg #[.int .i64 ld, .string lu], .int .i64 0, .int .i64 0]) (by simp [results, Try.results71, go_sem, p0, p1]) rfl ?_
  exact (unhide HST) _ bel

set_option maxRecDepth 100000 in
set_option maxHeartbeats 8000000 in
theorem CCall_old (N K : Nat) (rv : Value) (L : List ARec) (client no k : Int) (a b t : ByteArray) (w : World) (h : CRep w N K rv L) (hg : Good L) (hs : (logB L).length ≤ 2000) (hr : ¬ (client < 0 ∨ 2 < client ∨ no < 1 ∨ 200 < no)) (hc : checkI ⟨k, a, b, t⟩ = 0) (hch : changesB k = true) (ha : a.size ≤ maxLen) (hb : b.size ≤ maxLen) (ht : t.size ≤ maxLen) (hh : hasR L client = true) (hno : no ≤ (lastR L client).no) (hcb : ¬ (no = (lastR L client).no ∧ callB ⟨k, a, b, t⟩ (lastR L client).call = true)) :
    Calls Try.prog 71 #[.pointer (some ⟨K, 0, none⟩), .int .i64 client, .int .i64 no, .agg #[.int .i64 k, .string a, .string b, .string t]] w (CCRes w N K rv L (aCall L client no ⟨k, a, b, t⟩)) := by
  have hnlt : ¬ (lastR L client).no < no := by omega
  rw [aCall, if_neg hr, if_neg (by simp [hc]), if_neg (by simp [hch]), if_neg hnlt, if_neg hcb]

  have HCF := hide (fun W => CallFault_any k a b t W ha hb ht)
  rw [hc] at HCF
  have HIC := hide (fun W => IsChange_any k W)
  rw [hch] at HIC
  have hnn : L.length ≤ 100000 := by have := hg.few; omega
  have HLA : Hid (∀ W, Below w.heap.size w W → Calls Try.prog 50 #[.pointer (some ⟨K, 0, none⟩), .int .i64 client] W fun e w' => e = .returned (.tuple #[(lastR L client).val, .bool (hasR L client)]) ∧ Below W.heap.size W w') := fun W hW => CLast_any N K rv L client W (h.below hW) hnn

  rw [hh] at HLA
  have HE := hide (fun W => eql32 ⟨k, a, b, t⟩ (lastR L client).call W)
  have HST := hide (fun w' hb => CCRes.stay (w' := w') h hb 0 ⟨#[]⟩ 10)
  generalize hcbe : callB ⟨k, a, b, t⟩ (lastR L client).call = cb at hcb HE
  generalize lastR L client = lr at *
  obtain ⟨lc, ln, ⟨lk, la, lb, lt⟩, ld, lu⟩ := lr
  dsimp only [ARec.val, callCells] at *

  have hCA : ∀ W, Below (w.heap.size + 2) ((w.alloc (.cells #[.int .i64 k, .string a, .string b, .string t] 32)).alloc (.cells #[.int .i64 0, .string ⟨#[]⟩] 34)) W → W.heap[w.heap.size]? = some (.cells #[.int .i64 k, .string a, .string b, .string t] 32 (0, 0)) ∧ W.heap[w.heap.size + 1]? = some (.cells #[.int .i64 0, .string ⟨#[]⟩] 34 (0, 0)) ∧ w.heap.size + 2 ≤ W.heap.size ∧ Below w.heap.size w W := fun W hW => by
    have h1 := heap_alloc_new (w.alloc (.cells #[.int .i64 k, .string a, .string b, .string t] 32)) (.cells #[.int .i64 0, .string ⟨#[]⟩] 34)
    rw [show (w.alloc (.cells #[.int .i64 k, .string a, .string b, .string t] 32)).heap.size = w.heap.size + 1 by simp] at h1
    refine ⟨(hW.block w.heap.size (by omega)).trans ((Below.heap_alloc _ _ _ (by simp)).trans (heap_alloc_new w _)), (hW.block (w.heap.size + 1) (by omega)).trans h1, ?_, ?_⟩
    · have := hW.size; simp at this; omega
    · exact (((Below.refl w.heap.size w).alloc (Nat.le_refl _) _).alloc (by simp) _).trans (hW.mono (by omega))
  have HCA := hide hCA
  have q1 : ¬ (client < 0) := by omega
  have q2 : ¬ (3 ≤ client) := by omega
  have q3 : ¬ (no < 1) := by omega
  have q4 : ¬ (200 < no) := by omega

  clear h hr hCA hg hs hc hch ha hb ht hh hcbe

  go_enter Try.func71, Try.ntmps71
  go_wp2_with fail
  refine ((unhide HCF) _).mono ?_
  rintro e w1 ⟨rfl, b1⟩
  have hb0 : Below (w.heap.size + 2) ((w.alloc (.cells #[.int .i64 k, .string a, .string b, .string t] 32)).alloc (.cells #[.int .i64 0, .string ⟨#[]⟩] 34)) w1 := b1.mono (by simp)
  have HB1 := hide hb0
  obtain ⟨g1, g2, g3, g4⟩ := (unhide HCA) w1 hb0
  obtain ⟨⟨x0, x1, x2, x3⟩, _⟩ := four g1
  have HB1w := hide g4
  clear b1 hb0 g1 g2 g4
  go_wp2_with fail
  refine ((unhide HIC) _).mono ?_
  rintro e w2 ⟨rfl, rfl⟩
  go_wp2_with fail
  refine ((unhide HLA) _ (unhide HB1w)).mono ?_
  rintro e w3 ⟨rfl, b3⟩
  clear x0 x1 x2 x3
  have HB3 := hide ((unhide HB1).trans (b3.mono g3))
  clear b3
  obtain ⟨g1, g2, g3', g4⟩ := (unhide HCA) w3 (unhide HB3)
  have HC3 := hide g1
  have HA3 := hide g2
  have HB3w := hide g4
  clear g1 g2 g4

  have HBV : Hid (Below w.heap.size w (w3.alloc (.cells #[.int .i64 lc, .int .i64 ln, .int .i64 lk, .string la, .string lb, .string lt, .int .i64 ld, .string lu] 47))) := (unhide HB3w).alloc (unhide HB3w).size _
  have HAV : Hid ((w3.alloc (.cells #[.int .i64 lc, .int .i64 ln, .int .i64 lk, .string la, .string lb, .string lt, .int .i64 ld, .string lu] 47)).heap[w.heap.size + 1]? = some (.cells #[.int .i64 0, .string ⟨#[]⟩] 34 (0, 0))) := (Below.heap_alloc _ _ _ (by omega)).trans (unhide HA3)
  obtain ⟨⟨x0, x1, x2, x3⟩, _⟩ := four (unhide HC3)
  obtain ⟨⟨z0, z1⟩, fz⟩ := two (unhide HA3)
  have hzw : w.heap.size < w3.heap.size := by omega
  have hzw1 : w.heap.size + 1 < w3.heap.size := by omega

  by_cases heq : no = ln
  · have hcf : cb = false := by cases cb <;> simp_all
    subst hcf
    have heqb : (no == ln) = true := by simpa using heq
    have e32 := unhide HE
    have hle : no ≤ ln := hno
    clear hcb hnlt heq hno
    go_wp2
    have hb2 := set2_blk (unhide HA3) (.int .i64 0) (.string ⟨#[]⟩)
    have hk2 := set2_kept w3 (w.heap.size + 1) (.int .i64 0) (.string ⟨#[]⟩)
    unfold set2 at hb2 hk2

    replace hb2 := (Below.heap_alloc _ (.cells #[.int .i64 lc, .int .i64 ln, .int .i64 lk, .string la, .string lb, .string lt, .int .i64 ld, .string lu] 47) (w.heap.size + 1) (Array.getElem?_eq_some_iff.1 hb2).1).trans hb2
    replace hk2 := hk2.trans (Kept.of_below (own := []) ((Below.refl _ _).alloc (Nat.le_refl _) (.cells #[.int .i64 lc, .int .i64 ln, .int .i64 lk, .string la, .string lb, .string lt, .int .i64 ld, .string lu] 47))) (by simp)

    generalize hw8 : (((w3.setCell ⟨w.heap.size + 1, 0, none⟩ (.int .i64 0)).setCell ⟨w.heap.size + 1, 1, none⟩ (.string ⟨#[]⟩)).alloc (.cells #[.int .i64 lc, .int .i64 ln, .int .i64 lk, .string la, .string lb, .string lt, .int .i64 ld, .string lu] 47)) = w99 at hb2 hk2 ⊢
    obtain ⟨⟨p0, p1⟩, _⟩ := two hb2
    have bel : Below w.heap.size w w99 := (unhide HB3w).trans (hk2.below (unhide HB3w).size (by simp))
    refine bodyPost_ret (v := .tuple #[.agg #[.int .i64 0, .string ⟨#[]⟩], .int .i64 0, .int .i64 10]) (by simp [results, Try.results71, go_sem, p0, p1]) rfl ?_
    exact (unhide HST) _ bel

  · have hneq : (no == ln) = false := by simpa using heq
    have hle : no ≤ ln := hno
    clear hcb hnlt heq hno
    go_wp2
    have hb2 := set2_blk (unhide HA3) (.int .i64 0) (.string ⟨#[]⟩)
    have hk2 := set2_kept w3 (w.heap.size + 1) (.int .i64 0) (.string ⟨#[]⟩)
    unfold set2 at hb2 hk2

    replace hb2 := (Below.heap_alloc _ (.cells #[.int .i64 lc, .int .i64 ln, .int .i64 lk, .string la, .string lb, .string lt, .int .i64 ld, .string lu] 47) (w.heap.size + 1) (Array.getElem?_eq_some_iff.1 hb2).1).trans hb2
    replace hk2 := hk2.trans (Kept.of_below (own := []) ((Below.refl _ _).alloc (Nat.le_refl _) (.cells #[.int .i64 lc, .int .i64 ln, .int .i64 lk, .string la, .string lb, .string lt, .int .i64 ld, .string lu] 47))) (by simp)

    generalize hw8 : (((w3.setCell ⟨w.heap.size + 1, 0, none⟩ (.int .i64 0)).setCell ⟨w.heap.size + 1, 1, none⟩ (.string ⟨#[]⟩)).alloc (.cells #[.int .i64 lc, .int .i64 ln, .int .i64 lk, .string la, .string lb, .string lt, .int .i64 ld, .string lu] 47)) = w99 at hb2 hk2 ⊢
    obtain ⟨⟨p0, p1⟩, _⟩ := two hb2
    have bel : Below w.heap.size w w99 := (unhide HB3w).trans (hk2.below (unhide HB3w).size (by simp))
    refine bodyPost_ret (v := .tuple #[.agg #[.int .i64 0, .string ⟨#[]⟩], .int .i64 0, .int .i64 10]) (by simp [results, Try.results71, go_sem, p0, p1]) rfl ?_
    exact (unhide HST) _ bel

end Go.Proofs.Ytlndphpidkacgaa

/- The Chest's Call: a new one: there is no room; it is done. -/
namespace Go.Proofs.Ytlndphpidkacgaa
open Go.RowKit
set_option linter.unusedSimpArgs false
set_option linter.unusedVariables false

theorem Kept.mono_own {own own' : List Nat} {w w' : World} (h : Kept own w w') (hs : ∀ x, x ∈ own → x ∈ own') : Kept own' w w' := ⟨h.os, h.tape, h.output, h.size, fun k hk hn => h.block k hk (fun hm => hn (hs k hm))⟩
theorem CTurned.can {w w' : World} {N K : Nat} {rv : Value} {L' : List ARec} (h : CTurned w N K rv w' L') {b o : Nat} {u : Value} (hc : Can w b o u) (h1 : b ≠ K) (h2 : rv.ownBlock ≠ some b) : Can w' b o u := by
  obtain ⟨v', _, hk, _⟩ := h
  have hn : b ∉ K :: rv.ownBlock.toList := by simp [h1, h2]
  exact ⟨(hk.cell hc.lt hn).trans hc.1, (hk.frozen hc.lt hn).trans hc.2⟩
theorem CTurned.blk {w w' : World} {N K : Nat} {rv : Value} {L' : List ARec} (h : CTurned w N K rv w' L') {b : Nat} {o : Obj} (hc : w.heap[b]? = some o) (h1 : b ≠ K) (h2 : rv.ownBlock ≠ some b) : w'.heap[b]? = some o := by
  obtain ⟨v', _, hk, _⟩ := h
  have hn : b ∉ K :: rv.ownBlock.toList := by simp [h1, h2]
  exact (hk.block b (Array.getElem?_eq_some_iff.1 hc).1 hn).trans hc
theorem CTurned.store {w W w1 w2 : World} {N K : Nat} {rv : Value} {L L' : List ARec} (h0 : CRep w N K rv L) (hb0 : Below w.heap.size w W) (hT : CTurned W N K rv w1 L') {b : Nat} (hb : w.heap.size ≤ b) (hb2 : b < W.heap.size) (hk : Kept [b] w1 w2) :
    CTurned w N K rv w2 L' := by
  obtain ⟨v', hr, hk1, hn⟩ := hT
  have hlt : ∀ k, rv.ownBlock = some k → k < w.heap.size := fun k e => (h0.row.lt k e).2
  have hD := h0.ltK
  refine ⟨v', hr.kept hk (by simp; omega) (fun k e hm => ?_), ?_, fun k e => ?_⟩
  · have hkb : k = b := by simpa using hm
    rcases hn k e with h | h
    · have := hlt k h; omega
    · omega
  · exact ((Kept.of_below hb0).trans hk1 (fun x hx => .inl hx)).trans hk (fun x hx => .inr (by rw [List.mem_singleton.1 hx]; exact hb))
  · rcases hn k e with h | h
    · exact .inl h
    · right; have := hb0.size; omega
theorem CRep.lay {w2 w4 : World} {N K : Nat} {v v' : Value} {L L' : List ARec} (h : CRep w2 N K v L) (hk : Kept v.ownBlock.toList w2 w4) (hrow : w4.ownsRow N 47 8 v' L'.length (L'.flatMap rcells)) (hat : ∀ k, v'.ownBlock = some k → v.ownBlock = some k ∨ w2.heap.size ≤ k) : CTurned w2 N K v (w4.setCell ⟨K, 0, none⟩ v') L' := by
  have hK : K ∉ v.ownBlock.toList := by simpa using h.nd
  have hb4 : w4.heap[K]? = some (.cells #[v] 78 (0, 0)) := (hk.block K h.ltK hK).trans h.blk
  have hne : v'.ownBlock ≠ some K := fun e => by
    rcases hat K e with h1 | h1
    · exact h.nd h1
    · have := h.ltK; omega
  have hs := heap_setCell_same hb4 (o := 0) v'
  simp only [List.setIfInBounds_toArray, List.set_cons_zero] at hs
  have hk2 := kept_setCell [K] w4 K 0 v' (by simp)
  refine ⟨v', ⟨h.new, hs, ownsRow_same hrow (fun j hj => hk2.block j (hrow.lt j hj).2 (fun hm => hne (by rw [List.mem_singleton.1 hm] at hj; exact hj))), hne⟩, ?_, hat⟩
  exact (hk.mono_own (fun x hx => List.mem_cons_of_mem _ hx)).trans (hk2.mono_own (fun x hx => by rw [List.mem_singleton.1 hx]; exact List.mem_cons_self)) (fun x hx => .inl hx)

set_option maxRecDepth 100000 in
set_option maxHeartbeats 8000000 in
theorem CCall_new (N K : Nat) (rv : Value) (L : List ARec) (client no k : Int) (a b t : ByteArray) (w : World) (h : CRep w N K rv L) (hg : Good L) (hs : (logB L).length ≤ 2000) (hr : ¬ (client < 0 ∨ 2 < client ∨ no < 1 ∨ 200 < no)) (hc : checkI ⟨k, a, b, t⟩ = 0) (hch : changesB k = true) (ha : a.size ≤ maxLen) (hb : b.size ≤ maxLen) (ht : t.size ≤ maxLen) (hnew : hasR L client = false ∨ hasR L client = true ∧ (lastR L client).no < no) :
    Calls Try.prog 71 #[.pointer (some ⟨K, 0, none⟩), .int .i64 client, .int .i64 no, .agg #[.int .i64 k, .string a, .string b, .string t]] w (CCRes w N K rv L (aCall L client no ⟨k, a, b, t⟩)) := by
  have hlt : (lastR L client).no < no := by
    rcases hnew with h1 | ⟨_, h1⟩
    · have h2 : lastR L client = zeroRec := by
        rcases lastR_or L client with ⟨h2, _⟩ | ⟨h2, h3⟩
        · exact h2
        · have : hasR L client = true := List.any_eq_true.2 ⟨_, h2, by simp [h3]⟩
          rw [h1] at this; cases this
      rw [h2]
      show (0 : Int) < no
      omega
    · exact h1
  rw [aCall, if_neg hr, if_neg (by simp [hc]), if_neg (by simp [hch]), if_pos hlt]
  obtain ⟨ok0, ok1, ok2⟩ := new_ok hr hc hch (behind L)

  have HCF := hide (fun W => CallFault_any k a b t W ha hb ht)
  rw [hc] at HCF
  have HIC := hide (fun W => IsChange_any k W)
  rw [hch] at HIC
  have hnn : L.length ≤ 100000 := by have := hg.few; omega
  have HLA : Hid (∀ W, Below w.heap.size w W → Calls Try.prog 50 #[.pointer (some ⟨K, 0, none⟩), .int .i64 client] W fun e w' => e = .returned (.tuple #[(lastR L client).val, .bool (hasR L client)]) ∧ Below W.heap.size W w') := fun W hW => CLast_any N K rv L client W (h.below hW) hnn

  obtain ⟨nE, hnE⟩ : ∃ n, (encL ⟨client, no, ⟨k, a, b, t⟩, 0, ⟨#[]⟩⟩).length = n := ⟨_, rfl⟩
  obtain ⟨T, hT⟩ : ∃ n, (logB L).length = n := ⟨_, rfl⟩
  have hnE255 : nE ≤ 255 := by rw [← hnE]; exact (encL_le ok0).2
  have HBY : Hid (∀ W, Calls Try.prog 35 #[.agg #[.int .i64 client, .int .i64 no, .int .i64 k, .string a, .string b, .string t, .int .i64 0, .string ⟨#[]⟩]] W fun e w' => ∃ g cap, e = .returned (.slice (some ⟨g, 0, none⟩) nE cap) ∧ Below W.heap.size W w') := fun W => by
    refine (BytesOf_any ⟨client, no, ⟨k, a, b, t⟩, 0, ⟨#[]⟩⟩ W nE _ rfl hnE ok0).mono ?_
    rintro e w' ⟨g, cap, rfl, _, hb⟩
    exact ⟨g, cap, rfl, hb⟩
  have HBS : Hid (∀ W, Below w.heap.size w W → Calls Try.prog 49 #[.pointer (some ⟨K, 0, none⟩)] W fun e w' => ∃ a c, e = .returned (.slice a T c) ∧ Below W.heap.size W w') := fun W hW => by
    refine (Bytes_any N K rv L W (h.below hW) hg (by omega) hnn).mono ?_
    rintro e w' ⟨a, c, rfl, _, hb⟩
    exact ⟨a, c, by rw [hT], hb⟩
  obtain ⟨n, hnl⟩ : ∃ n, L.length = n := ⟨_, rfl⟩
  obtain ⟨ra, rcap, rfl⟩ := row_form h.row
  have hRA := recs_row h.row rfl
  have HBE : Hid (∀ W, Below w.heap.size w W → Calls Try.prog 46 #[.slice ra n rcap] W fun e w' => ∃ D v, e = .returned (.pointer (some ⟨D, 0, none⟩)) ∧ DRep w' W.heap.size D v (behind L) ∧ Below W.heap.size W w') := fun W hW => by
    rw [← hnl]
    exact Behind_any ra L.length rcap L W (hRA.below hW) hg.small (by omega)
  have HDo : Hid (∀ M D v W, DRep W M D v (behind L) → Calls Try.prog 21 #[.pointer (some ⟨D, 0, none⟩), .agg #[.int .i64 k, .string a, .string b, .string t]] W fun e w' => e = .returned (.agg #[.int .i64 (aDo (behind L) ⟨k, a, b, t⟩).code, .string (aDo (behind L) ⟨k, a, b, t⟩).text]) ∧ DTurned W M D v w' (aDo (behind L) ⟨k, a, b, t⟩).st) := fun M D v W hW => dDo_any ⟨k, a, b, t⟩ M D v (behind L) W hW (behind_inv _) ha hb ht
  have HCR := hide h
  rw [hnl] at HCR
  have HNL := hide hnl
  obtain ⟨i0, hi0, hz0, hz1, hz2⟩ := info_parts info47
  have hKl := h.ltK
  have HST := hide (fun w' hb => CCRes.stay (w' := w') h hb 0 ⟨#[]⟩ 7)
  rw [hnl] at HST ⊢
  rw [hnE, hT]
  generalize hadd : aDo (behind L) ⟨k, a, b, t⟩ = ad at HDo ok1 ok2 ⊢
  obtain ⟨dcode, dtext, dst⟩ := ad
  dsimp only at HDo ok1 ok2 ⊢
  have HCM : Hid (((logB (L ++ [⟨client, no, ⟨k, a, b, t⟩, dcode, dtext⟩])).length : Int) - ((logB L).length : Int) = (nE : Int)) := by
    show _ = _
    rw [logB_snoc, List.length_append, ok2, hnE]
    omega
  obtain ⟨RR, hRR⟩ : ∃ R : CRes, R = (if 2000 < T + nE then ⟨0, ⟨#[]⟩, 7, L⟩ else ⟨dcode, dtext, 0, L ++ [⟨client, no, ⟨k, a, b, t⟩, dcode, dtext⟩]⟩) := ⟨_, rfl⟩
  rw [← hRR]
  have HRR := hide hRR
  clear hRR
  generalize hasR L client = hR at HLA hnew
  generalize lastR L client = lr at *
  obtain ⟨lc, ln, ⟨lk, la, lb, lt⟩, ld, lu⟩ := lr
  dsimp only [ARec.val] at *

  have hCA : ∀ W, Below (w.heap.size + 2) ((w.alloc (.cells #[.int .i64 k, .string a, .string b, .string t] 32)).alloc (.cells #[.int .i64 0, .string ⟨#[]⟩] 34)) W → W.heap[w.heap.size]? = some (.cells #[.int .i64 k, .string a, .string b, .string t] 32 (0, 0)) ∧ W.heap[w.heap.size + 1]? = some (.cells #[.int .i64 0, .string ⟨#[]⟩] 34 (0, 0)) ∧ w.heap.size + 2 ≤ W.heap.size ∧ Below w.heap.size w W := fun W hW => by
    have h1 := heap_alloc_new (w.alloc (.cells #[.int .i64 k, .string a, .string b, .string t] 32)) (.cells #[.int .i64 0, .string ⟨#[]⟩] 34)
    rw [show (w.alloc (.cells #[.int .i64 k, .string a, .string b, .string t] 32)).heap.size = w.heap.size + 1 by simp] at h1
    refine ⟨(hW.block w.heap.size (by omega)).trans ((Below.heap_alloc _ _ _ (by simp)).trans (heap_alloc_new w _)), (hW.block (w.heap.size + 1) (by omega)).trans h1, ?_, ?_⟩
    · have := hW.size; simp at this; omega
    · exact (((Below.refl w.heap.size w).alloc (Nat.le_refl _) _).alloc (by simp) _).trans (hW.mono (by omega))
  have HCA := hide hCA
  have q1 : ¬ (client < 0) := by omega
  have q2 : ¬ (3 ≤ client) := by omega
  have q3 : ¬ (no < 1) := by omega
  have q4 : ¬ (200 < no) := by omega

  have hneq : (no == ln) = false := by simp; omega
  have hnle : ¬ (no ≤ ln) := by omega
  have hTn : T ≤ 2000 := by omega
  have hn5 : n ≤ 100000 := by omega
  clear h hr hCA hg hs hc hch ha hb ht hRA hnn hnl ok0 ok1 ok2 hadd hT hnE hlt

  go_enter Try.func71, Try.ntmps71
  go_wp2_with fail
  refine ((unhide HCF) _).mono ?_
  rintro e w1 ⟨rfl, b1⟩
  have hb0 : Below (w.heap.size + 2) ((w.alloc (.cells #[.int .i64 k, .string a, .string b, .string t] 32)).alloc (.cells #[.int .i64 0, .string ⟨#[]⟩] 34)) w1 := b1.mono (by simp)
  have HB1 := hide hb0
  obtain ⟨g1, g2, g3, g4⟩ := (unhide HCA) w1 hb0
  obtain ⟨⟨x0, x1, x2, x3⟩, _⟩ := four g1
  have HB1w := hide g4
  clear b1 hb0 g1 g2 g4
  go_wp2_with fail
  refine ((unhide HIC) _).mono ?_
  rintro e w2 ⟨rfl, rfl⟩
  go_wp2_with fail
  refine ((unhide HLA) _ (unhide HB1w)).mono ?_
  rintro e w3 ⟨rfl, b3⟩
  clear x0 x1 x2 x3
  have HB3 := hide ((unhide HB1).trans (b3.mono g3))
  clear b3
  obtain ⟨g1, g2, g3', g4⟩ := (unhide HCA) w3 (unhide HB3)
  have HC3 := hide g1
  have HA3 := hide g2
  have HB3w := hide g4
  clear g1 g2 g4

  obtain ⟨⟨x0, x1, x2, x3⟩, _⟩ := four (unhide HC3)
  have hzw : w.heap.size < w3.heap.size := by omega
  obtain ⟨V, hV⟩ : ∃ V, V = ((w3.alloc (.cells #[.int .i64 lc, .int .i64 ln, .int .i64 lk, .string la, .string lb, .string lt, .int .i64 ld, .string lu] 47)).alloc (.cells #[.int .i64 client, .int .i64 no, .int .i64 k, .string a, .string b, .string t, .int .i64 0, .string ⟨#[]⟩] 47)) := ⟨_, rfl⟩
  have hVK : ∀ W, Below V.heap.size V W → W.heap[w.heap.size]? = some (.cells #[.int .i64 k, .string a, .string b, .string t] 32 (0, 0)) ∧ W.heap[w.heap.size + 1]? = some (.cells #[.int .i64 0, .string ⟨#[]⟩] 34 (0, 0)) ∧ W.heap[w3.heap.size + 1]? = some (.cells #[.int .i64 client, .int .i64 no, .int .i64 k, .string a, .string b, .string t, .int .i64 0, .string ⟨#[]⟩] 47 (0, 0)) ∧ Below w.heap.size w W ∧ w3.heap.size + 2 ≤ W.heap.size := fun W hW => by
    have hzV : V.heap.size = w3.heap.size + 2 := by rw [hV]; simp
    have c1 : V.heap[w.heap.size]? = some (.cells #[.int .i64 k, .string a, .string b, .string t] 32 (0, 0)) := by rw [hV]; exact (Below.heap_alloc _ _ _ (by simp; omega)).trans ((Below.heap_alloc _ _ _ (by omega)).trans (unhide HC3))
    have c2 : V.heap[w.heap.size + 1]? = some (.cells #[.int .i64 0, .string ⟨#[]⟩] 34 (0, 0)) := by rw [hV]; exact (Below.heap_alloc _ _ _ (by simp; omega)).trans ((Below.heap_alloc _ _ _ (by omega)).trans (unhide HA3))
    have c3 : V.heap[w3.heap.size + 1]? = some (.cells #[.int .i64 client, .int .i64 no, .int .i64 k, .string a, .string b, .string t, .int .i64 0, .string ⟨#[]⟩] 47 (0, 0)) := by
      rw [hV]
      have h := heap_alloc_new (w3.alloc (.cells #[.int .i64 lc, .int .i64 ln, .int .i64 lk, .string la, .string lb, .string lt, .int .i64 ld, .string lu] 47)) (.cells #[.int .i64 client, .int .i64 no, .int .i64 k, .string a, .string b, .string t, .int .i64 0, .string ⟨#[]⟩] 47)
      rw [show (w3.alloc (.cells #[.int .i64 lc, .int .i64 ln, .int .i64 lk, .string la, .string lb, .string lt, .int .i64 ld, .string lu] 47)).heap.size = w3.heap.size + 1 by simp] at h
      exact h
    have c4 : Below w.heap.size w V := by rw [hV]; exact ((unhide HB3w).alloc (unhide HB3w).size _).alloc (by have := (unhide HB3w).size; simp; omega) _
    exact ⟨(hW.block _ (by omega)).trans c1, (hW.block _ (by omega)).trans c2, (hW.block _ (by omega)).trans c3, c4.trans (hW.mono (by omega)), by have := hW.size; omega⟩
  have HVK := hide hVK
  have HV := hide hV
  clear hVK hV
  have key : Calls Try.prog 35 #[.agg #[.int .i64 client, .int .i64 no, .int .i64 k, .string a, .string b, .string t, .int .i64 0, .string ⟨#[]⟩]] V fun e w' => ∃ g cap, e = .returned (.slice (some ⟨g, 0, none⟩) nE cap) ∧ Below V.heap.size V w' := (unhide HBY) V
  have HKEY := hide key
  clear key
  rcases hnew with rfl | ⟨rfl, _⟩
  all_goals
    go_wp2_with fail
    rw [← unhide HV]
    refine (unhide HKEY).mono ?_
    rintro e w5 ⟨gx, cx, rfl, b5⟩
    have HB5 := hide b5
    clear b5
    have h5 := (unhide HVK) w5 (unhide HB5)
    have HB5w := hide h5.2.2.2.1
    have hz5 := h5.2.2.2.2
    clear h5
    go_wp2_with fail
    refine ((unhide HBS) _ (unhide HB5w)).mono ?_
    rintro e w6 ⟨ga, ca, rfl, b6⟩
    have HB6 := hide ((unhide HB5).trans (b6.mono (unhide HB5).size))
    clear b6
    have h6 := (unhide HVK) w6 (unhide HB6)
    have HA6 := hide h6.2.1
    have HB6w := hide h6.2.2.2.1
    have hz6 := h6.2.2.2.2
    obtain ⟨⟨z0, z1⟩, fz⟩ := two h6.2.1
    obtain ⟨⟨v0, v1, v2, v3⟩, _⟩ := four h6.1
    clear h6 x0 x1 x2 x3
    by_cases hfull : (2000 : Int) < (T : Int) + (nE : Int)
    · have HRF := hide ((unhide HRR).trans (if_pos (by omega)))
      go_wp2
      have hb2 := set2_blk (unhide HA6) (.int .i64 0) (.string ⟨#[]⟩)
      have hk2 := set2_kept w6 (w.heap.size + 1) (.int .i64 0) (.string ⟨#[]⟩)
      unfold set2 at hb2 hk2

      generalize hw8 : ((w6.setCell ⟨w.heap.size + 1, 0, none⟩ (.int .i64 0)).setCell ⟨w.heap.size + 1, 1, none⟩ (.string ⟨#[]⟩)) = w99 at hb2 hk2 ⊢
      obtain ⟨⟨p0, p1⟩, _⟩ := two hb2
      have bel : Below w.heap.size w w99 := (unhide HB6w).trans (hk2.below (unhide HB6w).size (by simp))
      refine bodyPost_ret (v := .tuple #[.agg #[.int .i64 0, .string ⟨#[]⟩], .int .i64 0, .int .i64 7]) (by simp [results, Try.results71, go_sem, p0, p1]) rfl ?_
      rw [HRF.out]
      exact (unhide HST) _ bel

    · have HRF := hide ((unhide HRR).trans (if_neg (by omega)))
      have hcan6 := ((unhide HB6w).cell (p := ⟨K, 0, none⟩) hKl).trans (unhide HCR).can.1
      go_wp2_with fail
      go_region_law (first | (go_simp; go_at_call 46; refine ((unhide HBE) _ (unhide HB6w).drew).mono ?_; rintro e w7 ⟨D, v, rfl, hd7, b7⟩; have HD7 := hide (hd7.base (N := V.heap.size) (unhide HB6).size); have HB7 := hide ((unhide HB6).drew.trans (b7.mono (unhide HB6).size)); clear hd7 b7; have h7 := (unhide HVK) w7 (unhide HB7); obtain ⟨⟨u0, u1, u2, u3⟩, _⟩ := four h7.1; clear h7) | (go_simp; go_at_call 21; refine ((unhide HDo) V.heap.size D v _ (unhide HD7)).mono ?_; rintro e w8 ⟨rfl, hT8⟩; have HB8 := hide ((unhide HB7).trans ((hT8.below (unhide HD7) (unhide HB7).size))); clear hT8; have h8 := (unhide HVK) w8 (unhide HB8); have HR8 := hide h8.2.2.1; have HA8 := hide h8.2.1; have HB8w := hide h8.2.2.2.1; have hz8 := h8.2.2.2.2; obtain ⟨⟨r0, r1, r2, r3⟩, ⟨r4, r5, r6, r7⟩, fr⟩ := eight h8.2.2.1; clear h8) | fail)
      all_goals
        have s6 := heap_setCell_same (unhide HR8) (o := 6) (.int .i64 dcode)
        simp only [List.setIfInBounds_toArray, List.set_cons_zero, List.set_cons_succ] at s6
        have s7 := heap_setCell_same s6 (o := 7) (.string dtext)
        simp only [List.setIfInBounds_toArray, List.set_cons_zero, List.set_cons_succ] at s7
        have k6 := kept_setCell [w3.heap.size + 1] w8 (w3.heap.size + 1) 6 (.int .i64 dcode) (by simp)
        have k7 := kept_setCell [w3.heap.size + 1] (w8.setCell ⟨w3.heap.size + 1, 6, none⟩ (.int .i64 dcode)) (w3.heap.size + 1) 7 (.string dtext) (by simp)
        have hk9 := k6.trans k7 (fun x hx => .inl hx)
        clear s6 k6 k7 r0 r1 r2 r3 r4 r5 r6 r7
        generalize hw9 : ((w8.setCell ⟨w3.heap.size + 1, 6, none⟩ (.int .i64 dcode)).setCell ⟨w3.heap.size + 1, 7, none⟩ (.string dtext)) = w9 at s7 hk9 ⊢
        have hb9 : Below w.heap.size w w9 := (unhide HB8w).trans (hk9.below (unhide HB8w).size (by simp; omega))
        have hc9 := (unhide HCR).below hb9
        have HA9 := hide ((hk9.block (w.heap.size + 1) (by omega) (by simp; omega)).trans (unhide HA8))
        have HR9 := hide s7
        have HB9 := hide hb9
        have HC9 := hide hc9
        have hz9 : w3.heap.size + 2 ≤ w9.heap.size := by have := hk9.size; omega
        obtain ⟨⟨r0, r1, r2, r3⟩, ⟨r4, r5, r6, r7⟩, fr'⟩ := eight s7
        have cD2 := hc9.can.1
        have cDa := (hc9.can.alloc (.cells #[.int .i64 client, .int .i64 no, .int .i64 k, .string a, .string b, .string t, .int .i64 dcode, .string dtext] 47)).1
        have hrow9 := hc9.row
        rw [unhide HNL] at hrow9
        have HRow : Hid ((w9.alloc (.cells #[.int .i64 client, .int .i64 no, .int .i64 k, .string a, .string b, .string t, .int .i64 dcode, .string dtext] 47)).drew.ownsRow N 47 8 (.slice ra n rcap) n (L.flatMap rcells)) := (hrow9.alloc _).drew
        have HLs : Hid (Lies (w9.alloc (.cells #[.int .i64 client, .int .i64 no, .int .i64 k, .string a, .string b, .string t, .int .i64 dcode, .string dtext] 47)).drew (.slice (some ⟨w9.heap.size, 0, none⟩) 1 1) 1 [.int .i64 client, .int .i64 no, .int .i64 k, .string a, .string b, .string t, .int .i64 dcode, .string dtext]) := lies_block (alloc_drew_new w9 _) 1 1
        have HNs : Hid (N ≤ (w9.alloc (.cells #[.int .i64 client, .int .i64 no, .int .i64 k, .string a, .string b, .string t, .int .i64 dcode, .string dtext] 47)).drew.heap.size) := by have := hc9.ltK; have := hc9.new; show N ≤ (w9.alloc _).heap.size; rw [al_size]; omega
        have HCa : Hid (Can (w9.alloc (.cells #[.int .i64 client, .int .i64 no, .int .i64 k, .string a, .string b, .string t, .int .i64 dcode, .string dtext] 47)).drew K 0 (.slice ra n rcap)) := (hc9.can.alloc _).drew
        have hnd := hc9.nd
        have hK9 := hc9.ltK
        clear hk9 hb9 hc9 s7 hrow9 hw9
        go_wp2_with fail
        go_region_law (first | (refine step_app (by rfl) (.tmp 98) (.tmp 100) 56 (by rfl) N 47 i0 _ 8 96 Try.underlying56 hi0 hz0 hz1 hz2 rfl (by omega) (.slice ra n rcap) n (L.flatMap rcells) (by simp [Act.eval, Act.put]) (unhide HRow) (.slice (some ⟨w9.heap.size, 0, none⟩) 1 1) 1 [.int .i64 client, .int .i64 no, .int .i64 k, .string a, .string b, .string t, .int .i64 dcode, .string dtext] (by simp [Act.eval, Act.put]) (unhide HLs) (by rfl) (by simp [Value.oneCell']) (by unfold maxLen; omega) (by omega) (unhide HNs) ?_; intro ad c10 w10 hown10 hgrow10 hat10; have hD := (unhide HCa).grown hgrow10 hnd; have hD0 := hD.1; have hD1 := hD.2; have HO10 := hide hown10; have HG10 := hide hgrow10; have HAT := hide hat10; clear hown10 hgrow10 hat10 hD) | fail)
        all_goals
          have bA : Below w9.heap.size w9 (w9.alloc (.cells #[.int .i64 client, .int .i64 no, .int .i64 k, .string a, .string b, .string t, .int .i64 dcode, .string dtext] 47)).drew := below_alloc_drew w9 _
          have hk4 : Kept (Value.slice ra n rcap).ownBlock.toList w9 w10 := by
            have hg := unhide HG10
            refine ⟨hg.os.trans bA.os, hg.tape.trans bA.tape, hg.output.trans bA.output, Nat.le_trans bA.size hg.size, fun j hlt hn => ?_⟩
            rw [hg.block j (Nat.lt_of_lt_of_le hlt bA.size) (fun e => hn (by rw [← e]; simp)), bA.block j hlt]
          obtain ⟨w11, hw11⟩ : ∃ w11, w11 = w10.setCell ⟨K, 0, none⟩ (.slice ad (n + 1) c10) := ⟨_, rfl⟩
          rw [← hw11]
          have hT : CTurned w9 N K (.slice ra n rcap) w11 (L ++ [⟨client, no, ⟨k, a, b, t⟩, dcode, dtext⟩]) := by
            rw [hw11]
            refine (unhide HC9).lay hk4 ?_ (fun j e => ?_)
            · rw [flat_snoc, List.length_append, unhide HNL]
              exact unhide HO10
            · rcases unhide HAT with h | h
              · exact .inl (by rw [← h]; exact e)
              · right
                rw [h] at e
                have : (w9.alloc (.cells #[.int .i64 client, .int .i64 no, .int .i64 k, .string a, .string b, .string t, .int .i64 dcode, .string dtext] 47)).drew.heap.size = j := by simpa using e
                rw [← this]
                exact bA.size
          have hrl : ∀ j, w.heap.size ≤ j → (Value.slice ra n rcap).ownBlock ≠ some j := fun j hj e => by have := ((unhide HCR).row.lt j e).2; omega
          have HR11 := hide (hT.blk (unhide HR9) (by omega) (hrl _ (by omega)))
          have HA11 := hide (hT.blk (unhide HA9) (by omega) (hrl _ (by omega)))
          have HT11 := hide hT
          clear bA hk4 hw11 hT hrl r0 r1 r2 r3 r4 r5 r6 r7 hD0 hD1 cD2 cDa
          obtain ⟨⟨r0, r1, r2, r3⟩, ⟨r4, r5, r6, r7⟩, _⟩ := eight (unhide HR11)
          obtain ⟨⟨y0, y1⟩, fy⟩ := two (unhide HA11)
          have hzR : w3.heap.size + 1 < w11.heap.size := (Array.getElem?_eq_some_iff.1 (unhide HR11)).1
          go_wp2
          have hb2 := set2_blk (unhide HA11) (.int .i64 dcode) (.string dtext)
          have hk2 := set2_kept w11 (w.heap.size + 1) (.int .i64 dcode) (.string dtext)
          unfold set2 at hb2 hk2
          generalize hw8 : ((w11.setCell ⟨w.heap.size + 1, 0, none⟩ (.int .i64 dcode)).setCell ⟨w.heap.size + 1, 1, none⟩ (.string dtext)) = w99 at hb2 hk2 ⊢
          obtain ⟨⟨p0, p1⟩, _⟩ := two hb2
          refine bodyPost_ret (v := .tuple #[.agg #[.int .i64 dcode, .string dtext], .int .i64 (nE : Int), .int .i64 0]) (by simp [results, Try.results71, go_sem, p0, p1]) rfl ?_
          rw [HRF.out]
          exact ⟨by rw [unhide HCM], (unhide HT11).store (unhide HCR) (unhide HB9) (by omega) (by omega) hk2⟩

end Go.Proofs.Ytlndphpidkacgaa

/- The Chest's Call, whole; its Tear. -/
namespace Go.Proofs.Ytlndphpidkacgaa
open Go.RowKit
set_option linter.unusedSimpArgs false
set_option linter.unusedVariables false

theorem CCall_any (N K : Nat) (rv : Value) (L : List ARec) (client no : Int) (c : ACall) (w : World) (h : CRep w N K rv L) (hg : Good L) (hs : (logB L).length ≤ 2000) (ha : c.name.size ≤ maxLen) (hb : c.dst.size ≤ maxLen) (ht : c.text.size ≤ maxLen) :
    Calls Try.prog 71 #[.pointer (some ⟨K, 0, none⟩), .int .i64 client, .int .i64 no, .agg #[.int .i64 c.kind, .string c.name, .string c.dst, .string c.text]] w (CCRes w N K rv L (aCall L client no c)) := by
  obtain ⟨k, a, b, t⟩ := c
  dsimp only at ha hb ht ⊢
  by_cases hr : client < 0 ∨ 2 < client ∨ no < 1 ∨ 200 < no
  · exact CCall_range N K rv L client no k a b t w h hr
  by_cases hc : checkI ⟨k, a, b, t⟩ = 0
  · by_cases hch : changesB k = false
    · exact CCall_ask N K rv L client no k a b t w h hg hs hr hc hch ha hb ht
    have hch : changesB k = true := by simpa using hch
    cases hh : hasR L client
    · exact CCall_new N K rv L client no k a b t w h hg hs hr hc hch ha hb ht (.inl hh)
    by_cases hlt : (lastR L client).no < no
    · exact CCall_new N K rv L client no k a b t w h hg hs hr hc hch ha hb ht (.inr ⟨hh, hlt⟩)
    by_cases hcb : no = (lastR L client).no ∧ callB ⟨k, a, b, t⟩ (lastR L client).call = true
    · exact CCall_again N K rv L client no k a b t w h hg hs hr hc hch ha hb ht hh hcb.1 hcb.2
    · exact CCall_old N K rv L client no k a b t w h hg hs hr hc hch ha hb ht hh (by omega) hcb
  · exact CCall_code N K rv L client no k a b t w h hr hc ha hb ht

/-- A row's first elements. -/
theorem ownsRow_take {w : World} {N s n m c : Nat} {e : TypeId} {a : Option Addr} {xs : List Value} (h : w.ownsRow N e s (.slice a n c) n xs) (hm : m ≤ n) : w.ownsRow N e s (.slice a m c) m (xs.take (m * s)) := by
  have hl := h.1
  rcases h.2 with ⟨e1, _⟩ | ⟨g, c', cur, e1, hb, hg, h1, h2, h3, h4⟩
  · cases e1
    obtain rfl : m = 0 := by omega
    simp only [Nat.zero_mul, List.take_zero]
    exact World.ownsRow_nil _ _ _ _
  · cases e1
    refine ⟨?_, .inr ⟨g, c, cur, rfl, hb, hg, by omega, h2, h3, ?_⟩⟩
    · rw [List.length_take, hl]
      exact Nat.min_eq_left (Nat.mul_le_mul_right _ hm)
    · rw [← h4, List.take_take]
      congr 1
      exact (Nat.min_eq_left (Nat.mul_le_mul_right _ hm)).symm

theorem flat_take (L : List ARec) (r : ARec) : ((L ++ [r]).flatMap rcells).take (L.length * 8) = L.flatMap rcells := by
  have hl : (L.flatMap rcells).length = L.length * 8 := by
    induction L with
    | nil => rfl
    | cons q L ih => rw [List.flatMap_cons, List.length_append, ih, List.length_cons]; show 8 + _ = _; omega
  rw [flat_snoc, ← hl, List.take_left]

theorem aCall_came {L : List ARec} (hL : Good L) (client no : Int) (c : ACall) :
    (aCall L client no c).log = L ∧ ((logB (aCall L client no c).log).length : Int) - ((logB L).length : Int) = 0 ∨
    (aCall L client no c).err = 0 ∧ ∃ r, (aCall L client no c).log = L ++ [r] ∧ recI r = 0 ∧ ((logB (aCall L client no c).log).length : Int) - ((logB L).length : Int) = ((encL r).length : Int) ∧ 5 ≤ (encL r).length := by
  rcases aCall_log L client no c with h | ⟨h0, _, r, h1, h2⟩
  · exact .inl ⟨h, by rw [h]; omega⟩
  · have hg := aCall_good hL client no c
    have hr : recI r = 0 := hg r (by rw [h1]; simp)
    refine .inr ⟨h0, r, h1, hr, ?_, (encL_le hr).1⟩
    rw [h1, logB_snoc, List.length_append]
    omega

theorem CTurned.before {w W w' : World} {N K : Nat} {rv : Value} {L' : List ARec} (h : CTurned W N K rv w' L') (hb : Below w.heap.size w W) : CTurned w N K rv w' L' := by
  obtain ⟨v', hr, hk, hn⟩ := h
  refine ⟨v', hr, (Kept.of_below hb).trans hk (fun x hx => .inl hx), fun k e => ?_⟩
  rcases hn k e with h1 | h1
  · exact .inl h1
  · exact .inr (Nat.le_trans hb.size h1)
theorem CTurned.after {w W w' : World} {N K : Nat} {rv : Value} {L' : List ARec} (h : CTurned w N K rv W L') (hb : Below W.heap.size W w') : CTurned w N K rv w' L' := by
  obtain ⟨v', hr, hk, hn⟩ := h
  exact ⟨v', hr.below hb, hk.trans (Kept.of_below (own := []) hb) (by simp), hn⟩

set_option maxRecDepth 100000 in
set_option maxHeartbeats 4000000 in
theorem CTear_any (N K : Nat) (rv : Value) (L : List ARec) (client no keep : Int) (c : ACall) (w : World) (h : CRep w N K rv L) (hg : Good L) (hs : (logB L).length ≤ 2000) (ha : c.name.size ≤ maxLen) (hb : c.dst.size ≤ maxLen) (ht : c.text.size ≤ maxLen) :
    Calls Try.prog 72 #[.pointer (some ⟨K, 0, none⟩), .int .i64 client, .int .i64 no, .agg #[.int .i64 c.kind, .string c.name, .string c.dst, .string c.text], .int .i64 keep] w fun e w' => e = .returned (.int .i64 (aTear L client no c keep).1) ∧ CTurned w N K rv w' (aTear L client no c keep).2 := by
  have HCC := hide (fun W (hW : Below w.heap.size w W) => CCall_any N K rv L client no c W (h.below hW) hg hs ha hb ht)
  have HCM := hide (aCall_came hg client no c)
  have hB : Below w.heap.size w (w.alloc (.cells #[.int .i64 c.kind, .string c.name, .string c.dst, .string c.text] 32)) := (Below.refl _ _).alloc (Nat.le_refl _) _
  have HB := hide hB
  have HH := hide h
  obtain ⟨T, hT⟩ : ∃ T, aTear L client no c keep = T := ⟨_, rfl⟩
  have HT := hide hT
  rw [hT]
  unfold aTear at HT
  have hL5 : L.length ≤ 1000 := by have := hg.few; omega
  generalize aCall L client no c = R at HCC HCM HT
  obtain ⟨code, text, err, log⟩ := R
  obtain ⟨k, a, b, t⟩ := c
  dsimp only at *
  clear hT hB h hg hs ha hb ht
  go_enter Try.func72, Try.ntmps72
  go_wp2_with fail
  refine ((unhide HCC) _ (unhide HB)).mono ?_
  rintro e w1 ⟨rfl, hT1⟩
  dsimp only at hT1 ⊢
  have HT1 := hide hT1
  clear hT1
  rcases unhide HCM with ⟨h1, h2⟩ | ⟨h1, r, h2, h3, h4, h5⟩
  · rw [h2]
    have HTT : Hid (T = (err, log)) := by
      have h := unhide HT
      rw [if_neg (by rw [h1]; omega)] at h
      exact h.symm
    clear h1 h2 HCM
    cases he : (err == 0)
    · go_wp2
      go_ret
      rw [HTT.out]
      exact ⟨rfl, ((unhide HT1).before (unhide HB)).after ((Below.refl _ _).alloc (Nat.le_refl _) _)⟩
    · go_wp2
      go_ret
      rw [HTT.out]
      exact ⟨rfl, ((unhide HT1).before (unhide HB)).after ((Below.refl _ _).alloc (Nat.le_refl _) _)⟩
  · rw [h4]
    subst h1 h2
    obtain ⟨nE, hnE⟩ : ∃ n, (encL r).length = n := ⟨_, rfl⟩
    have HT2 : Hid (T = if keep < (nE : Int) then (0, L) else (0, L ++ [r])) := by
      have h := (unhide HT).symm
      rw [h4, hnE] at h
      rw [h]
      by_cases hk : keep < (nE : Int)
      · rw [if_pos ⟨rfl, by simp, hk⟩, if_pos hk]; exact rfl
      · rw [if_neg (fun h => hk h.2.2), if_neg hk]; exact rfl
    rw [hnE] at h5 ⊢
    have hn0 : (0 : Int) < (nE : Int) := by omega
    clear h4 h3 HT HCM hnE
    by_cases hk : keep < (nE : Int)
    · obtain ⟨rv', hr1, hk1, hn1⟩ := (unhide HT1).before (unhide HB)
      obtain ⟨n, hn⟩ : ∃ n, L.length = n := ⟨_, rfl⟩
      have hlen : (L ++ [r]).length = n + 1 := by simp [hn]
      obtain ⟨a', c', rfl⟩ := row_form hr1.row
      rw [hlen] at hr1 hn1
      have hrow := hr1.row
      rw [hlen] at hrow
      have hrow2 := ownsRow_take hrow (m := n) (by omega)
      rw [← hn, flat_take] at hrow2
      have hcan := (hr1.can.alloc (.cells #[.int .i64 code, .string text] 34))
      have hc1 := hcan.1
      have hc2 := hcan.2
      have hcap := row_cap hrow
      have hb1 : (n : Int) ≤ (c' : Int) := by omega
      have HR1 := hide hr1
      have HK1 := hide hk1
      have HN1 := hide hn1
      have HRW := hide hrow2
      have HTT : Hid (T = (0, L)) := by rw [unhide HT2, if_pos hk]; exact rfl
      have HNL := hide hn
      have hKl : K < w1.heap.size := hr1.ltK
      clear hr1 hk1 hn1 hrow hrow2 hcan hlen hn HT2
      have hwn : IntKind.i64.wrap (n : Int) = (n : Int) := by rw [IntKind.wrap_i64]; rw [unhide HNL] at hL5; omega
      go_wp2_with fail
      go_region
      go_wp2
      go_ret
      rw [HTT.out]
      refine ⟨rfl, ?_⟩
      have ho : (Value.slice a' n c').ownBlock = (Value.slice a' (n + 1) c').ownBlock := by rcases a' with _ | ⟨_, _, _⟩ <;> rfl
      have hs := heap_setCell_same (unhide HR1).blk (o := 0) (.slice a' n c')
      simp only [List.setIfInBounds_toArray, List.set_cons_zero] at hs
      have hkA := kept_setCell [K] w1 K 0 (.slice a' n c') (by simp)
      have hrw := unhide HRW
      have hnl := unhide HNL
      have hT : CTurned w N K rv (w1.setCell ⟨K, 0, none⟩ (.slice a' n c')) L := by
        refine ⟨.slice a' n c', ⟨(unhide HR1).new, hs, ?_, by rw [ho]; exact (unhide HR1).nd⟩, ?_, by rw [ho]; exact unhide HN1⟩
        · rw [hnl] at hrw ⊢
          exact ownsRow_same hrw (fun j hj => hkA.block j (hrw.lt j hj).2 (fun hm => (unhide HR1).nd (by rw [List.mem_singleton.1 hm, ho] at hj; exact hj)))
        · exact (unhide HK1).trans hkA (fun x hx => .inl (by rw [List.mem_singleton.1 hx]; exact List.mem_cons_self))
      exact hT.after (((Below.refl _ _).alloc (Nat.le_refl _) _).drew)
    · have HTT : Hid (T = (0, L ++ [r])) := by rw [unhide HT2, if_neg hk]; exact rfl
      clear HT2
      go_wp2
      go_ret
      rw [HTT.out]
      exact ⟨rfl, ((unhide HT1).before (unhide HB)).after ((Below.refl _ _).alloc (Nat.le_refl _) _)⟩

end Go.Proofs.Ytlndphpidkacgaa

