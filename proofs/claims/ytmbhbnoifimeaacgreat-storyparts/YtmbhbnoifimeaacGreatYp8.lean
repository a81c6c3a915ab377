/- StoryParts: the walk. -/
import Derived.Test.YtmbhbnoifimeaacGreatYp7
namespace Go.Proofs.YtmbhbnoifimeaacGreat
open Go.RowKit
set_option linter.unusedSimpArgs false
set_option linter.unusedVariables false

theorem eq34t (d : Int) (u : ByteArray) (w : World) : (binOp .eql 34 (.agg #[.int .i64 d, .string u]) (.agg #[.int .i64 d, .string u])).run Tryz.prog w = .ok (.bool true) w := by
  rw [eql34]; simp
/-- A number of so many, and one more. -/
theorem rnd_val9 (n : Int) {k : Nat} (hk : 0 < k) (h40 : k ≤ 1000000) : wrap64 (Int.tmod (IntKind.u64.wrap n) (k : Int)) = (rnd n k : Int) := by
  have h0 : 0 ≤ IntKind.u64.wrap n := by rw [wrap_u]; omega
  have hm : Int.tmod (IntKind.u64.wrap n) (k : Int) = (rnd n k : Int) := by
    rw [Int.tmod_eq_emod_of_nonneg h0]
    unfold rnd
    have : (0 : Int) ≤ IntKind.u64.wrap n % (k : Int) := Int.emod_nonneg _ (by omega)
    omega
  have hlt := rnd_lt n hk
  rw [hm]
  unfold wrap64
  omega
theorem take_min {α : Type} (L : List α) {k q : Nat} (h : q ≤ k) : (L.take k).take q = L.take q := by rw [List.take_take, Nat.min_eq_left h]

set_option maxRecDepth 100000 in
set_option maxHeartbeats 8000000 in
theorem parts_walk (a0 : Option Addr) (n0 c0 : Nat) (bs : List UInt8) (k0 : Int) (w : World) (hb : ByAt w a0 bs) (hL : bs.length = n0) (hcap : n0 ≤ c0) (hm : n0 ≤ maxLen) (hnil : a0 = none → n0 = 0 ∧ c0 = 0) :
    Calls Tryz.prog 5 #[.slice a0 n0 c0, .int .i64 k0] w fun e w' => e = .returned (.bool true) ∧ Below w.heap.size w w' := by
  have HSB := hide storyBegun_any
  have HG := hide (allR_good bs).1
  have hfew := allR_few bs
  have HOF : Hid (n0 ≤ 3000 → ∀ W, Below w.heap.size w W → Calls Tryz.prog 8 #[.slice a0 n0 c0] W fun e w' => ∃ S a m c, e = .returned (.pointer (some ⟨S, 0, none⟩)) ∧ YRep w' S a m c (allR bs).1 ∧ W.heap.size ≤ S ∧ Below W.heap.size W w') := fun h3 W hW => Of_y a0 n0 c0 bs W (hb.below hW) hL hcap (by omega) hnil
  have HRO : Hid (n0 ≤ 3000 → ∀ W, Below w.heap.size w W → Calls Tryz.prog 9 #[.slice a0 n0 c0] W (AllRes W (allR bs))) := fun h3 W hW => RecordsOf_by a0 n0 c0 bs W (hb.below hW) hL hcap (by omega) hnil
  generalize allR bs = al at *
  obtain ⟨L, kb⟩ := al
  dsimp only at HG hfew HOF
  obtain ⟨m, hmm⟩ : ∃ m, L.length = m := ⟨_, rfl⟩
  have hmn : m ≤ n0 := by omega
  clear hb hL hcap hnil hfew hm
  go_enter Tryz.func5, Tryz.ntmps5
  go_wp2_with fail
  refine ((unhide HSB) _).mono ?_
  rintro e w1 ⟨rfl, b1⟩
  have HB1 := hide b1
  clear b1 HSB
  by_cases h3 : (3000 : Int) < (n0 : Int)
  · go_wp2
    go_ret
    exact ⟨rfl, unhide HB1⟩
  go_wp2_with fail
  refine ((unhide HOF) (by omega) w1 (unhide HB1)).mono ?_
  rintro e w2 ⟨S, sa, m', sc, rfl, hy2, _, b2⟩
  obtain rfl : m' = m := by rw [← hy2.len, hmm]
  have HY2 := hide hy2
  have HB2 := hide ((unhide HB1).trans (b2.mono (unhide HB1).size))
  clear hy2 b2 HOF
  go_wp2_with fail
  refine ((unhide HRO) (by omega) w2 (unhide HB2)).mono ?_
  rintro e w3 ⟨ra, rcp, rfl, ro, b3⟩
  dsimp only at ro ⊢
  rw [hmm] at ro ⊢
  have HRS := hide (recs_row ro hmm)
  have hrc := row_cap ro
  have HY3 := hide ((unhide HY2).below b3)
  have HB3 := hide ((unhide HB2).trans (b3.mono (unhide HB2).size))
  have hm5 : m' ≤ 3000 := by omega
  have hcs := cast_succ m'
  have hv := rnd_val9 k0 (k := m' + 1) (by omega) (by omega)
  have hne : ¬ ((m' : Int) + 1 = 0) := by omega
  have hw1 : wrap64 ((m' : Int) + 1) = (m' : Int) + 1 := by unfold wrap64; omega
  have hlt := rnd_lt k0 (k := m' + 1) (by omega)
  rw [hcs] at hv
  generalize rnd k0 (m' + 1) = kk at hv hlt
  have hkm : kk ≤ m' := by omega
  clear ro b3 HRO HY2 HB1 HB2 hcs hlt
  have HMM := hide hmm
  clear hmm
  go_wp2_with fail
  rw [hv]
  clear hv hne hw1
  have HE : Hid (∀ r, r ∈ L → ∀ W n E, encL r = E → E.length = n → Calls Tryz.prog 22 #[r.val] W fun e w' => ∃ g cap, e = .returned (.slice (some ⟨g, 0, none⟩) n cap) ∧ BRow w' W.heap.size (.slice (some ⟨g, 0, none⟩) n cap) E ∧ Below W.heap.size W w') := fun r hr W n E h1 h2 => BytesOf_any r W n E h1 h2 ((unhide HG) r hr)
  have HLE : Hid (∀ k, (logB (L.take k)).length ≤ 1000000) := fun k => by
    have h1 := flat_le (L.take k) ((unhide HG).take k)
    have h2 : (L.take k).length ≤ L.length := by rw [List.length_take]; omega
    have h4 := unhide HMM
    unfold logB
    omega
  go_loopw [9, 8] (fun i v wr => ∃ (q nb : Nat) (a1 : Option Addr) (c1 : Nat), q ≤ kk ∧ i = .int .i64 (q : Int) ∧ v = .slice a1 nb c1 ∧ Hid ((logB (L.take q)).length = nb) ∧ Hid (BRow wr w3.heap.size (.slice a1 nb c1) (logB (L.take q))) ∧ Hid (Below w3.heap.size w3 wr)) (fun i _ _ => kk - (intOf i).toNat)
  case atStart => exact ⟨0, 0, none, 0, Nat.zero_le _, rfl, rfl, hide (by simp [logB]), BRow.nil _ _, Below.refl _ _⟩
  case round =>
    obtain ⟨q, nb, a1, c1, hq, rfl, rfl, HNB, HO, HB⟩ := hrel
    by_cases hlt : (q : Int) < (kk : Int)
    · obtain ⟨r, hr⟩ : ∃ r, L[q]? = some r := ⟨_, List.getElem?_eq_getElem (by rw [unhide HMM]; omega)⟩
      obtain ⟨b, off, rfl, hx⟩ := ((unhide HRS).below (unhide HB)).2 (by omega)
      obtain ⟨x0, x1, x2, x3, x4, x5, x6, x7⟩ := hx q r hr
      obtain ⟨E, hE⟩ : ∃ E, encL r = E := ⟨_, rfl⟩
      obtain ⟨m, hm⟩ : ∃ m, E.length = m := ⟨_, rfl⟩
      have HBY := hide ((unhide HE) r (List.mem_of_getElem? hr) wr m E hE hm)
      have HT : Hid (logB (L.take (q + 1)) = logB (L.take q) ++ E) := by show _ = _; rw [List.take_add_one, hr, ← hE]; exact logB_snoc _ _
      have hnb2 : nb + m ≤ 1000000 := by
        have := (unhide HLE) (q + 1)
        rw [unhide HT, List.length_append, unhide HNB, hm] at this
        exact this
      have hqi : (0 : Int) ≤ (q : Int) := by omega
      have hqm : (q : Int) < (m' : Int) := by omega
      clear hx hr hE
      obtain ⟨rc, rn, ⟨rk, rra, rb, rt⟩, rd, ru⟩ := r
      dsimp only [ARec.val] at *
      go_wp2_with fail
      refine (unhide HBY).mono ?_
      rintro e w4 ⟨gx, cx, rfl, ox, b2⟩
      have HX := hide ox
      have HO2 := hide ((unhide HO).below b2)
      have HB4 := hide ((unhide HB).trans (b2.mono (unhide HB).size))
      have hnb := unhide HNB
      clear ox b2 x0 x1 x2 x3 x4 x5 x6 x7
      go_wp2_with (at_builtin; refine wpList_bytes _ rfl _ _ rfl w3.heap.size (.slice a1 nb c1) (logB (L.take q)) rfl (unhide HO2) (.slice (some ⟨gx, 0, none⟩) m cx) m E rfl hm (unhide HX).lies (by rw [hnb]; omega) (unhide HB4).size ?_; intro ad3 c3 w5 ho3 hg3; rw [hnb, ← unhide HT] at ho3)
      have HB5 := hide ((unhide HB4).grown hg3 (unhide HB4).size (fun j hj => ((unhide HO2).lt j hj).1))
      have HO3 := hide ho3
      clear ho3 hg3
      go_roundw
      case rel => exact ⟨q + 1, nb + m, ad3, c3, by omega, by go_num, rfl, hide (by rw [unhide HT, List.length_append, hnb, hm]), unhide HO3, unhide HB5⟩
      case measure => simp [intOf]; omega
    · obtain rfl : q = kk := by omega
      have HOF := hide (Of_log (unhide HO) (unhide HNB) (by have := (unhide HLE) q; rw [unhide HNB] at this; exact this) ((unhide HG).take q))
      have HY4 := hide ((unhide HY3).below (unhide HB))
      have HRS4 := hide ((unhide HRS).below (unhide HB))
      have HB4 := hide ((unhide HB3).trans ((unhide HB).mono (unhide HB3).size))
      clear HE HLE HY3 HRS HB3 hlt
      go_wp2_with fail
      refine (unhide HOF).mono ?_
      rintro e w5 ⟨T, ta, tm, tc, rfl, ht5, _, b5⟩
      obtain rfl : tm = q := by rw [← ht5.len, List.length_take, unhide HMM]; omega
      have HT5 := hide ht5
      have HY5 := hide ((unhide HY4).below b5)
      have HRS5 := hide ((unhide HRS4).below b5)
      have HB5 := hide ((unhide HB4).trans (b5.mono (unhide HB4).size))
      have HLT := hide (Len_y ht5)
      have HLS := hide (Len_y (unhide HY5))
      clear ht5 b5 HOF HO HNB HB HY4 HRS4 HB4
      go_wp2_with fail
      refine (unhide HLT).mono ?_
      rintro e w6 ⟨rfl, hw⟩
      subst hw
      go_wp2_with fail
      refine (unhide HLS).mono ?_
      rintro e w6 ⟨rfl, hw⟩
      subst hw
      obtain ⟨w5, hw5⟩ : ∃ w5, w5 = w6 := ⟨_, rfl⟩
      subst hw5
      clear HLT HLS
      go_wp2_with fail
      go_loopw [11, 12, 13, 14, 15] (fun i _ _ _ _ wr => ∃ q : Nat, q ≤ tm + 1 ∧ i = .int .i64 (q : Int) ∧ Hid (Below w5.heap.size w5 wr)) (fun i _ _ _ _ _ => tm + 1 - (intOf i).toNat)
      case atStart => exact ⟨0, Nat.zero_le _, rfl, Below.refl _ _⟩
      case round =>
        obtain ⟨q, hq, rfl, HB⟩ := hrel
        by_cases hlt : (q : Int) ≤ (tm : Int)
        · have hx1 := Text_in ((unhide HY5).below (unhide HB)) q (by omega)
          have HX2 : Hid (∀ W, Below w5.heap.size w5 W → Calls Tryz.prog 12 #[.pointer (some ⟨T, 0, none⟩), .int .i64 (q : Int)] W fun e w' => e = .returned (.tuple #[.string ⟨(textL (behind (L.take q))).toArray⟩, .bool true]) ∧ Below W.heap.size W w') := fun W hW => by
            have h := Text_in ((unhide HT5).below hW) q (by omega)
            rw [take_min L (by omega)] at h
            exact h
          generalize (⟨(textL (behind (L.take q))).toArray⟩ : ByteArray) = tt at hx1 HX2
          have HX1 := hide hx1
          have hq2 : wrap64 ((q : Int) + 1) = (q : Int) + 1 := by unfold wrap64; omega
          clear hx1
          go_wp2_with fail
          refine (unhide HX1).mono ?_
          rintro e w7 ⟨rfl, b7⟩
          have HB7 := hide ((unhide HB).trans (b7.mono (unhide HB).size))
          have HC7 := hide ((unhide HX2) w7 (unhide HB7))
          clear b7 HX1 HX2
          go_wp2_with fail
          refine (unhide HC7).mono ?_
          rintro e w8 ⟨rfl, b8⟩
          have HB8 := hide ((unhide HB7).trans (b8.mono (unhide HB7).size))
          clear b8 HC7
          go_wp2
          go_roundw
          case rel => exact ⟨q + 1, by omega, by go_num, unhide HB8⟩
          case measure => simp [intOf]; omega
        · have hwd := Would_in ((unhide HY5).below (unhide HB)) tm (by omega) ⟨6, ⟨#[]⟩, ⟨#[]⟩, ⟨#[]⟩⟩ (by unfold maxLen; decide) (by unfold maxLen; decide) (by unfold maxLen; decide)
          have HDO := hide (fun (N : Nat) w9 D v (hd : DRep w9 N D v (behind (L.take tm))) => dDo_any ⟨6, ⟨#[]⟩, ⟨#[]⟩, ⟨#[]⟩⟩ N D v _ w9 hd (behind_inv _) (by unfold maxLen; decide) (by unfold maxLen; decide) (by unfold maxLen; decide))
          generalize aDo (behind (L.take tm)) ⟨6, ⟨#[]⟩, ⟨#[]⟩, ⟨#[]⟩⟩ = ad at hwd HDO
          obtain ⟨ac, au, ast⟩ := ad
          dsimp only at hwd HDO
          have HWD := hide hwd
          have htm : wrap64 ((tm : Int) + 1) = (tm : Int) + 1 := by unfold wrap64; omega
          have HTO := hide (fun W (hW : Below w5.heap.size w5 W) => Text_out ((unhide HT5).below hW) ((tm : Int) + 1) (.inr (by omega)))
          clear hwd hq
          go_wp2_with fail
          refine (unhide HWD).mono ?_
          rintro e w8 ⟨rfl, b8⟩
          obtain ⟨V8, hV8⟩ : ∃ V, V = w8.alloc (.cells #[.int .i64 ac, .string au] 34) := ⟨_, rfl⟩
          have hbV : Below w8.heap.size w8 V8 := by rw [hV8]; exact (Below.refl _ _).alloc (Nat.le_refl _) _
          have hA8 : V8.heap[w8.heap.size]? = some (.cells #[.int .i64 ac, .string au] 34 (0, 0)) := by rw [hV8]; exact heap_alloc_new _ _
          have HA8 := hide hA8
          have HB8 := hide ((unhide HB).trans ((b8.trans (hbV.mono b8.size)).mono (unhide HB).size))
          have HC8 := hide ((unhide HTO) V8 (unhide HB8))
          have HV8 := hide hV8
          clear b8 hbV hA8 hV8 HWD HTO
          go_wp2_with fail
          rw [← unhide HV8]
          refine (unhide HC8).mono ?_
          rintro e w9 ⟨rfl, b9⟩
          have hA9 := (b9.block _ (Array.getElem?_eq_some_iff.1 (unhide HA8)).1).trans (unhide HA8)
          have HABl : Hid (w8.heap.size < w9.heap.size) := (Array.getElem?_eq_some_iff.1 hA9).1
          have HA9 := hide hA9
          have hb59 := (unhide HB8).trans (b9.mono (unhide HB8).size)
          have HB9 := hide ((unhide HB5).trans (hb59.mono (unhide HB5).size))
          have HRS9 := hide (((unhide HRS5).below hb59).take tm (by omega))
          have HBEH := hide (fun W (hW : Below w9.heap.size w9 W) => Behind_any ra tm rcp (L.take tm) W ((unhide HRS9).below hW) (((unhide HG).take tm).small) (by omega))
          have HBD := hide (below_drew w9)
          have hkc : (tm : Int) ≤ (rcp : Int) := by omega
          clear b9 hA9 hb59 HC8 HA8 HB8 HT5 HY5 HRS5
          go_wp2_with fail
          refine wp_region_held_drew (S := (fun wx => Below w9.heap.size w9 wx)) (by kernel_rfl) (unhide HBD) (fun hHeld => ?_)
          refine wpAnyH_take (i := 0) (v := .bool true) opn0 (by kernel_rfl) (by kernel_rfl) (by kernel_rfl) (fun _ _ _ h => h) (Or.inl ⟨by kernel_rfl, ?_⟩) (by assumption) ?_
          · intro wz hSw
            try dsimp only at hSw
            go_simp
            all_goals with_reducible rfl
          try simp only [Act.put, List.setIfInBounds_toArray, List.set_cons_zero, List.set_cons_succ]
          refine wpAnyH_take (i := 1) (v := .bool true) opn1 (by kernel_rfl) (by kernel_rfl) (by kernel_rfl) (fun _ _ _ h => h) (Or.inl ⟨by kernel_rfl, ?_⟩) (by assumption) ?_
          · intro wz hSw
            try dsimp only at hSw
            go_simp
            all_goals with_reducible rfl
          try simp only [Act.put, List.setIfInBounds_toArray, List.set_cons_zero, List.set_cons_succ]
          refine wpAnyH_take (i := 2) (v := .bool false) opn2 (by kernel_rfl) (by kernel_rfl) (by kernel_rfl) (fun _ _ _ h => h) (Or.inl ⟨by kernel_rfl, ?_⟩) (by assumption) ?_
          · intro wz hSw
            try dsimp only at hSw
            go_simp
            all_goals with_reducible rfl
          try simp only [Act.put, List.setIfInBounds_toArray, List.set_cons_zero, List.set_cons_succ]
          refine wpAnyH_take (i := 3) (v := .bool true) opn3 (by kernel_rfl) (by kernel_rfl) (by kernel_rfl) (fun _ _ _ h => h) (Or.inl ⟨by kernel_rfl, ?_⟩) (by assumption) ?_
          · intro wz hSw
            try dsimp only at hSw
            go_simp
            all_goals with_reducible rfl
          try simp only [Act.put, List.setIfInBounds_toArray, List.set_cons_zero, List.set_cons_succ]
          refine wpAnyH_take (i := 4) (v := .bool true) opn4 (by kernel_rfl) (by kernel_rfl) (by kernel_rfl) (fun _ _ _ h => h) (Or.inl ⟨by kernel_rfl, ?_⟩) (by assumption) ?_
          · intro wz hSw
            try dsimp only at hSw
            go_simp
            all_goals with_reducible rfl
          try simp only [Act.put, List.setIfInBounds_toArray, List.set_cons_zero, List.set_cons_succ]
          refine wpAnyH_take (i := 5) (v := .bool true) opn5 (by kernel_rfl) (by kernel_rfl) (by kernel_rfl) (fun _ _ _ h => h) (Or.inl ⟨by kernel_rfl, ?_⟩) (by assumption) ?_
          · intro wz hSw
            try dsimp only at hSw
            go_simp
            all_goals with_reducible rfl
          try simp only [Act.put, List.setIfInBounds_toArray, List.set_cons_zero, List.set_cons_succ]
          refine wpAnyH_take (i := 6) (v := ?_) opn6 (by kernel_rfl) (by kernel_rfl) (by kernel_rfl) (fun _ _ _ h => h) (Or.inl ⟨by kernel_rfl, ?_⟩) (by assumption) ?_
          rotate_left 1
          · intro wz hSw
            try dsimp only at hSw
            obtain ⟨y0, y1, _⟩ := twoK ((hSw.block w8.heap.size (unhide HABl)).trans (unhide HA9))
            go_simp
            all_goals with_reducible rfl
          try simp only [Act.put, List.setIfInBounds_toArray, List.set_cons_zero, List.set_cons_succ]
          refine wpAnyH_take (i := 7) (v := ?_) opn7 (by kernel_rfl) (by kernel_rfl) (by kernel_rfl) (fun _ _ _ h => h) (Or.inl ⟨by kernel_rfl, ?_⟩) (by assumption) ?_
          rotate_left 1
          · intro wz hSw
            try dsimp only at hSw
            go_simp
            all_goals with_reducible rfl
          try simp only [Act.put, List.setIfInBounds_toArray, List.set_cons_zero, List.set_cons_succ]
          refine wpAnyH_take (i := 8) (v := ?_) opn8 (by kernel_rfl) (by kernel_rfl) (by kernel_rfl) (fun _ _ _ h => h) (Or.inl ⟨by kernel_rfl, ?_⟩) (by assumption) ?_
          rotate_left 1
          · intro wz hSw
            try dsimp only at hSw
            go_simp
            all_goals with_reducible rfl
          try simp only [Act.put, List.setIfInBounds_toArray, List.set_cons_zero, List.set_cons_succ]
          refine wpAnyH_take (i := 9) (v := ?_) opn9 (by kernel_rfl) (by kernel_rfl) (by kernel_rfl) (fun _ _ _ h => h) (Or.inl ⟨by kernel_rfl, ?_⟩) (by assumption) ?_
          rotate_left 1
          · intro wz hSw
            try dsimp only at hSw
            go_simp
            all_goals with_reducible rfl
          try simp only [Act.put, List.setIfInBounds_toArray, List.set_cons_zero, List.set_cons_succ]
          refine wpAnyH_take (i := 11) (v := ?_) opn11 (by kernel_rfl) (by kernel_rfl) (by kernel_rfl) (fun _ _ _ h => h) (Or.inl ⟨by kernel_rfl, ?_⟩) (by assumption) ?_
          rotate_left 1
          · intro wz hSw
            try dsimp only at hSw
            go_simp
            all_goals with_reducible rfl
          try simp only [Act.put, List.setIfInBounds_toArray, List.set_cons_zero, List.set_cons_succ]
          refine wpAnyH_ready (rs := [10]) (by kernel_rfl) (by simp) ?_
          refine AllReadyH.cons opn10 (fun K hK => ?_) AllReadyH.nil
          rw [if_pos (by kernel_rfl)]
          go_simp
          refine ((unhide HBEH) _ (unhide HBD)).mono ?_
          rintro e w10 ⟨D9, v9, rfl, hd9, hb10⟩
          have HD9 := hide ((unhide HDO) _ _ _ _ hd9)
          have HDR9 := hide hd9
          have hb910 := (unhide HBD).trans (hb10.mono (unhide HBD).size)
          have HB10 := hide hb10
          clear hd9 hb10
          refine hK.out _ _ (hb910) (fun hHeldN => ?_)
          clear hHeld hK K
          have hHeld := hHeldN
          clear hHeldN
          try simp only [Act.put, List.setIfInBounds_toArray, List.set_cons_zero, List.set_cons_succ]
          clear hb910
          refine wpAnyH_ready (rs := [12]) (by kernel_rfl) (by simp) ?_
          refine AllReadyH.cons opn12 (fun K hK => ?_) AllReadyH.nil
          rw [if_pos (by kernel_rfl)]
          go_simp
          refine (unhide HD9).mono ?_
          rintro e w11 ⟨rfl, hT11⟩
          have hb11 := (DTurned.belowN (unhide HDR9) hT11).1
          have hbd11 := (unhide HBD).trans (((unhide HB10).trans hb11).mono (unhide HBD).size)
          have HB11 := hide ((unhide HB9).trans (hbd11.mono (unhide HB9).size))
          clear hT11 hb11
          refine hK.out _ _ (hbd11) (fun hHeldN => ?_)
          clear hHeld hK K
          have hHeld := hHeldN
          clear hHeldN
          try simp only [Act.put, List.setIfInBounds_toArray, List.set_cons_zero, List.set_cons_succ]
          clear hbd11
          refine wpAnyH_take (i := 13) (v := (.bool true)) opn13 (by kernel_rfl) (by kernel_rfl) (by kernel_rfl) (fun _ _ _ h => h) (Or.inl ⟨by kernel_rfl, ?_⟩) (by assumption) ?_
          · intro wz hSw
            exact yieldsB rfl (by simp [Act.eval]) (by simp [Act.eval]) (eq34t ac au wz) (gd34 _ _ _ _ _ wz (.inr rfl))
          try simp only [Act.put, List.setIfInBounds_toArray, List.set_cons_zero, List.set_cons_succ]
          refine wpAnyH_take (i := 14) (v := .bool true) opn14 (by kernel_rfl) (by kernel_rfl) (by kernel_rfl) (fun _ _ _ h => h) (Or.inl ⟨by kernel_rfl, ?_⟩) (by assumption) ?_
          · intro wz hSw
            try dsimp only at hSw
            go_simp
            all_goals with_reducible rfl
          try simp only [Act.put, List.setIfInBounds_toArray, List.set_cons_zero, List.set_cons_succ]
          refine wpAnyH_take (i := 15) (v := ?_) opn15 (by kernel_rfl) (by kernel_rfl) (by kernel_rfl) (fun _ _ _ h => h) (Or.inl ⟨by kernel_rfl, ?_⟩) (by assumption) ?_
          rotate_left 1
          · intro wz hSw
            try dsimp only at hSw
            go_simp
            all_goals with_reducible rfl
          try simp only [Act.put, List.setIfInBounds_toArray, List.set_cons_zero, List.set_cons_succ]
          refine wpAnyH_done (by kernel_rfl) ?_ _
          clear hHeld
          go_wp2
          go_ret
          exact ⟨rfl, unhide HB11⟩

end Go.Proofs.YtmbhbnoifimeaacGreat
