/- ClientOne: the walk. -/
import Derived.Test.YtfpommjolbipmabKq
namespace Go.Proofs.Ytfpommjolbipmab
open Go.RowKit
set_option linter.unusedSimpArgs false
set_option linter.unusedVariables false

theorem gno_asked (c : ACli) (x : ACall) : gno (c.asked x) = if c.ask x = 0 then gno c + 1 else gno c := by
  unfold ACli.asked
  by_cases h0 : c.ask x = 0
  · rw [if_pos h0, if_pos h0]
    have hop : c.op = false := by
      cases h : c.op
      · rfl
      · exfalso
        unfold ACli.ask at h0
        rw [h] at h0
        split at h0
        · rename_i h1; exact h1 h0
        · simp at h0
    unfold gno ACli.no
    rw [hop]
    simp
  · rw [if_neg h0, if_neg h0]
theorem gno_heard (c : ACli) (p : APkt) : gno (c.heard p) = gno c := by
  unfold ACli.heard
  by_cases h0 : c.hears p = true
  · rw [if_pos h0]
    have hop : c.op = true := by
      unfold ACli.hears at h0
      simp only [Bool.and_eq_true] at h0
      exact h0.1.1.1.1
    unfold gno ACli.no
    rw [hop]
    simp
  · rw [if_neg h0]
theorem hears_reply (c : ACli) (d : Int) (u : ByteArray) : c.hears ⟨true, c.pkt.client, c.pkt.no, c.pkt.call, d, u⟩ = c.op := by
  unfold ACli.hears ACli.pkt
  cases h : c.op
  · rfl
  · simp [callB_self]
theorem asked_me (c : ACli) (x : ACall) : (c.asked x).me = c.me := by unfold ACli.asked; split <;> rfl
theorem heard_me (c : ACli) (p : APkt) : (c.heard p).me = c.me := by unfold ACli.heard; split <;> rfl
theorem heard_not {c : ACli} {p : APkt} (h : c.hears p = false) : c.heard p = c := by unfold ACli.heard; rw [if_neg (by simp [h])]

set_option maxRecDepth 100000 in
set_option maxHeartbeats 8000000 in
theorem kone_walk (me : Int) (a0 : Option Addr) (n0 c0 : Nat) (ls : List AKStep) (w : World) (hl : KStepsAt w a0 n0 ls) :
    Calls Try.prog 7 #[.int .i64 me, .slice a0 n0 c0] w fun e w' => e = .returned (.bool true) ∧ Below w.heap.size w w' := by
  have HBG := hide clientBegun_any
  have HL := hide hl
  have hn0 := hl.2.1
  unfold maxLen at hn0
  have HGR := hide (fun W (hb : Below w.heap.size w W) => greatClient_any a0 n0 c0 ls W (hl.below hb))
  clear hl
  go_enter Try.func7, Try.ntmps7
  go_wp2_with fail
  refine ((unhide HBG) _).mono ?_
  rintro e w1 ⟨rfl, b1⟩
  have HB1 := hide b1
  go_wp2_with fail
  refine ((unhide HGR) _ b1).mono ?_
  rintro e w2 ⟨⟨r, rfl⟩, b2⟩
  have HB2 := hide (b1.trans (b2.mono b1.size))
  clear b1 b2 HB1
  cases r
  rotate_left 1
  · go_wp2
    go_ret
    exact ⟨rfl, unhide HB2⟩
  by_cases hme : me < 0 ∨ 3 ≤ me
  · have HNW := hide (New_none me w2 hme)
    go_wp2_with fail
    refine (unhide HNW).mono ?_
    rintro e w3 ⟨rfl, hw3⟩
    obtain rfl := hw3.symm
    clear hw3
    by_cases h0 : me < 0
    · clear hme
      go_wp2
      go_ret
      exact ⟨rfl, unhide HB2⟩
    · have h3 : (3 : Int) ≤ me := by omega
      clear hme
      go_wp2
      go_ret
      exact ⟨rfl, unhide HB2⟩
  have HNW := hide (New_some me w2 hme)
  go_wp2_with fail
  refine (unhide HNW).mono ?_
  rintro e w3 ⟨rfl, rfl⟩
  have h0 : ¬ me < 0 := by omega
  have h3 : ¬ (3 : Int) ≤ me := by omega
  clear hme
  have HK0 := hide (KRep.start me w2)
  have HB3 : Hid (Below w2.heap.size w2 (w2.alloc (.cells #[.int .i64 me, .slice none 0 0, .int .i64 0, .string ⟨#[]⟩, .string ⟨#[]⟩, .string ⟨#[]⟩, .bool false] 73))) := (Below.refl _ _).alloc (Nat.le_refl _) _
  have hzw : w.heap.size ≤ w2.heap.size := (unhide HB2).size
  go_wp2_with fail
  go_loopw [6, 7, 8, 9, 10, 11, 12, 13, 14, 15, 16] (fun sv i _ _ _ _ _ _ _ _ _ wr => ∃ (q : Nat) (v : Value) (c : ACli), q ≤ n0 ∧ i = .int .i64 (q : Int) ∧ sv = .int .i64 (gno c) ∧ Hid (KRep w2.heap.size wr w2.heap.size v c) ∧ Hid (Below w2.heap.size w2 wr) ∧ Hid (c.me = me)) (fun _ i _ _ _ _ _ _ _ _ _ _ => n0 - (intOf i).toNat)
  case atStart => exact ⟨0, _, _, Nat.zero_le _, rfl, rfl, unhide HK0, unhide HB3, rfl⟩
  case round =>
    obtain ⟨q, v, c, hq, rfl, rfl, HK, HB, HME0⟩ := hrel
    have HBw := hide ((unhide HB2).trans ((unhide HB).mono hzw))
    by_cases hlt : (q : Int) < (n0 : Int)
    · obtain ⟨x, hx⟩ : ∃ x, ls[q]? = some x := ⟨_, List.getElem?_eq_getElem (by rw [(unhide HL).1]; omega)⟩
      obtain ⟨b, off, rfl, hc⟩ := ((unhide HL).below (unhide HBw)).2.2.2 (by omega)
      obtain ⟨b', off', hb', hcl⟩ := (unhide HL).2.2.2 (by omega)
      cases hb'
      have hbl : b < w.heap.size := (hcl q x hx).lt
      have HAT := hide (hc q x hx)
      have HSM := hide ((unhide HL).2.2.1 x (List.mem_of_getElem? hx))
      have hqi : (0 : Int) ≤ (q : Int) := by omega
      obtain ⟨n, hn⟩ : ∃ n, c.done.length = n := ⟨_, rfl⟩
      have HDN := hide (Done_any (unhide HK) hn)
      have HN := hide hn
      have hn200 : n ≤ 200 := by rw [← hn]; exact (unhide HK).ok.few
      have hbr : b < wr.heap.size := (hc q x hx).lt
      clear hc hcl hx hn
      go_wp2_with fail
      refine (unhide HDN).mono ?_
      rintro e w4 ⟨g, cap, rfl, ho4, b4⟩
      have HRW := hide ho4
      have HK4 := hide ((unhide HK).below b4)
      have HB4 := hide ((unhide HB).trans (b4.mono (unhide HB).size))
      have HAT4 := hide ((unhide HAT).same (b4.block b hbr))
      have HO4 := hide (Open_any (unhide HK4))
      have hz4 := b4.size
      clear ho4 b4
      obtain ⟨x0, x1, x2, x3, x4, x5, x6, x7, x8, x9, x10, x11, x12, x13, x14, x15⟩ := unhide HAT4
      go_wp2_with fail
      refine (unhide HO4).mono ?_
      rintro e w4' ⟨rfl, hw4'⟩
      obtain rfl := hw4'.symm
      clear hw4'
      by_cases ha0 : x.act = 0
      · have HCL := hide (Call_any (unhide HK4) x.c (unhide HSM).1)
        have hgs := gno_asked c x.c
        have hok := (unhide HK4).ok.asked (unhide HSM).1
        have hme := (asked_me c x.c).trans (unhide HME0)
        generalize c.asked x.c = c2 at HCL hgs hok hme
        generalize c.ask x.c = ak at HCL hgs
        obtain ⟨act, ⟨ck, ca, cb, ct⟩, ⟨r, pc, pn, ⟨pk, s1, s2, s3⟩, d, u2⟩, ad, au⟩ := x
        dsimp only at *
        subst ha0
        have hwg : IntKind.i64.wrap (gno c + 1) = gno c + 1 := by
          have h1 := (unhide HK4).ok.few
          have h2 := (unhide HK4).ok.room
          rw [IntKind.wrap_i64]
          unfold gno ACli.no
          split <;> omega
        have HOK := hide hok
        have HME := hide hme
        clear hok hme
        go_wp2_with fail
        refine (unhide HCL).mono ?_
        rintro e w5 ⟨rfl, hT5⟩
        have HB5 := hide ((unhide HB4).trans (hT5.below (unhide HK4).o))
        obtain ⟨v5, hr5, _⟩ := KTurn.rep hT5 (unhide HOK)
        have HK5 := hide hr5
        clear hT5 hr5 x0 x1 x2 x3 x4 x5 x6 x7 x8 x9 x10 x11 x12 x13 x14 x15
        by_cases hak : ak = 0
        · subst hak
          rw [if_pos rfl] at hgs
          obtain ⟨ask2, hask⟩ : ∃ a, a = gno c + 1 := ⟨_, rfl⟩
          have HG : Hid (ask2 = gno c2) := hask.trans hgs.symm
          have hwg2 : IntKind.i64.wrap (gno c + 1) = ask2 := hwg.trans hask.symm
          have hwg3 : wrap64 (gno c + 1) = ask2 := by rw [← hwg2, IntKind.wrap_i64]; unfold wrap64; rfl
          clear hgs hask hwg
          go_wp2_with fail
          obtain ⟨n2, hn2⟩ : ∃ n, c2.done.length = n := ⟨_, rfl⟩
          have HDN := hide (Done_any (unhide HK5) hn2)
          have HN2 := hide hn2
          have hn200 : n2 ≤ 200 := by rw [← hn2]; exact (unhide HK5).ok.few
          clear hn2
          refine (unhide HDN).mono ?_
          rintro e w6 ⟨g2, cap2, rfl, ho6, b6⟩
          have HRC := hide (recs_row ho6 (unhide HN2))
          have HK6 := hide ((unhide HK5).below b6)
          have HB6 := hide ((unhide HB5).trans (b6.mono (unhide HB5).size))
          clear ho6 b6
          go_wp2_with fail
          go_loop [13] (fun i => ∃ k : Nat, k ≤ n2 ∧ i = .int .i64 k) (fun i => n2 - (intOf i).toNat)
          case atStart => exact ⟨0, Nat.zero_le _, rfl⟩
          case round =>
            obtain ⟨k, hk, rfl⟩ := hrel
            by_cases hlk : (k : Int) < (n2 : Int)
            · obtain ⟨rc, hrc⟩ : ∃ rc, c2.done[k]? = some rc := ⟨_, List.getElem?_eq_getElem (by rw [unhide HN2]; omega)⟩
              obtain ⟨g3, off3, hg3, hrec⟩ := (unhide HRC).2 (by omega)
              cases hg3
              obtain ⟨q0, q1, _, _, _, _, _, _⟩ := hrec k rc hrc
              obtain ⟨f0, f1⟩ := (unhide HK5).ok.num k rc hrc
              rw [f0, unhide HME, Nat.zero_add] at q0
              rw [f1, Nat.zero_add] at q1
              have hki : (0 : Int) ≤ (k : Int) := by omega
              have hwk : IntKind.i64.wrap ((k : Int) + 1) = (k : Int) + 1 := by rw [IntKind.wrap_i64]; omega
              clear hrec hrc f0 f1
              go_wp2
              go_round
              case rel => exact ⟨k + 1, by omega, by go_num⟩
              case measure => simp [intOf]; omega
            · obtain rfl : k = n2 := by omega
              clear hlk hk
              have HO6 := hide (Open_any (unhide HK6))
              have HS6 := hide (Send_any (unhide HK6))
              have HO7 : Hid (∀ W, Below w6.heap.size w6 W → Calls Try.prog 24 #[.pointer (some ⟨w2.heap.size, 0, none⟩)] W fun e w' => e = .returned (.bool c2.op) ∧ w' = W) := fun W hW => Open_any ((unhide HK6).below hW)
              have hwk : IntKind.i64.wrap ((k : Int) + 1) = (k : Int) + 1 := by rw [IntKind.wrap_i64]; omega
              cases hop : c2.op
              · have hgn : gno c2 = (k : Int) := by unfold gno; rw [hop]; exact congrArg Int.ofNat (unhide HN2)
                have hpk : c2.pkt = zeroPkt := by unfold ACli.pkt; rw [hop]; rfl
                rw [hop] at HO6 HS6 HO7
                rw [hpk] at HS6
                rw [hgn] at HG
                have HGZ := hide hgn
                have hG := unhide HG
                subst hG
                dsimp only [zeroPkt, APkt.val] at HS6
                clear hop hgn hpk
                go_wp2_with fail
                refine (unhide HO6).mono ?_
                rintro e w6' ⟨rfl, hw6'⟩
                obtain rfl := hw6'.symm
                clear hw6'
                go_wp2_with fail
                refine (unhide HS6).mono ?_
                rintro e w7 ⟨rfl, b7⟩
                have b8 := b7.alloc b7.size (.cells #[.bool false, .int .i64 0, .int .i64 0, .int .i64 0, .string ⟨#[]⟩, .string ⟨#[]⟩, .string ⟨#[]⟩, .int .i64 0, .string ⟨#[]⟩] 33)
                have HO8 := hide ((unhide HO7) _ b8)
                have HK8 := hide ((unhide HK6).below b8)
                have HB8 := hide ((unhide HB6).trans (b8.mono (unhide HB6).size))
                clear b7 b8
                go_wp2_with (go_at_call 24; refine (unhide HO8).mono ?_; rintro e w8 ⟨rfl, hw8⟩; obtain rfl := hw8.symm; clear hw8)
                go_roundw
                case rel => exact ⟨q + 1, v5, c2, by omega, by go_num, by rw [unhide HGZ], unhide HK8, unhide HB8, unhide HME⟩
                case measure => simp [intOf]; omega
              · have hgn : gno c2 = (k : Int) + 1 := by unfold gno ACli.no; rw [hop, unhide HN2]; rfl
                have hS := Send_some (unhide HK6) hop
                have hno : c2.no = (k : Int) + 1 := by unfold ACli.no; rw [unhide HN2]
                rw [hno, unhide HME] at hS
                generalize c2.call = cl at hS
                obtain ⟨lk, la, lb, lt⟩ := cl
                have HS7 := hide hS
                rw [hop] at HO6 HO7
                rw [hgn] at HG
                have HGZ := hide hgn
                have hG := unhide HG
                subst hG
                dsimp only [APkt.val] at HS7
                clear hop hgn hS hno HS6
                go_wp2_with fail
                refine (unhide HO6).mono ?_
                rintro e w6' ⟨rfl, hw6'⟩
                obtain rfl := hw6'.symm
                clear hw6'
                go_wp2_with fail
                refine (unhide HS7).mono ?_
                rintro e w7 ⟨rfl, b7⟩
                have b8 := b7.alloc b7.size (.cells #[.bool false, .int .i64 me, .int .i64 ((k : Int) + 1), .int .i64 lk, .string la, .string lb, .string lt, .int .i64 0, .string ⟨#[]⟩] 33)
                have HO8 := hide ((unhide HO7) _ b8)
                have HK8 := hide ((unhide HK6).below b8)
                have HB8 := hide ((unhide HB6).trans (b8.mono (unhide HB6).size))
                clear b7 b8
                go_wp2_with (go_at_call 24; refine (unhide HO8).mono ?_; rintro e w8 ⟨rfl, hw8⟩; obtain rfl := hw8.symm; clear hw8)
                go_roundw
                case rel => exact ⟨q + 1, v5, c2, by omega, by go_num, by rw [unhide HGZ], unhide HK8, unhide HB8, unhide HME⟩
                case measure => simp [intOf]; omega
        · rw [if_neg hak] at hgs
          have hakb : (ak == 0) = false := by simpa using hak
          clear hwg hak
          generalize gno c = ask2 at *
          have HG : Hid (ask2 = gno c2) := hgs.symm
          clear hgs
          go_wp2_with fail
          obtain ⟨n2, hn2⟩ : ∃ n, c2.done.length = n := ⟨_, rfl⟩
          have HDN := hide (Done_any (unhide HK5) hn2)
          have HN2 := hide hn2
          have hn200 : n2 ≤ 200 := by rw [← hn2]; exact (unhide HK5).ok.few
          clear hn2
          refine (unhide HDN).mono ?_
          rintro e w6 ⟨g2, cap2, rfl, ho6, b6⟩
          have HRC := hide (recs_row ho6 (unhide HN2))
          have HK6 := hide ((unhide HK5).below b6)
          have HB6 := hide ((unhide HB5).trans (b6.mono (unhide HB5).size))
          clear ho6 b6
          go_wp2_with fail
          go_loop [13] (fun i => ∃ k : Nat, k ≤ n2 ∧ i = .int .i64 k) (fun i => n2 - (intOf i).toNat)
          case atStart => exact ⟨0, Nat.zero_le _, rfl⟩
          case round =>
            obtain ⟨k, hk, rfl⟩ := hrel
            by_cases hlk : (k : Int) < (n2 : Int)
            · obtain ⟨rc, hrc⟩ : ∃ rc, c2.done[k]? = some rc := ⟨_, List.getElem?_eq_getElem (by rw [unhide HN2]; omega)⟩
              obtain ⟨g3, off3, hg3, hrec⟩ := (unhide HRC).2 (by omega)
              cases hg3
              obtain ⟨q0, q1, _, _, _, _, _, _⟩ := hrec k rc hrc
              obtain ⟨f0, f1⟩ := (unhide HK5).ok.num k rc hrc
              rw [f0, unhide HME, Nat.zero_add] at q0
              rw [f1, Nat.zero_add] at q1
              have hki : (0 : Int) ≤ (k : Int) := by omega
              have hwk : IntKind.i64.wrap ((k : Int) + 1) = (k : Int) + 1 := by rw [IntKind.wrap_i64]; omega
              clear hrec hrc f0 f1
              go_wp2
              go_round
              case rel => exact ⟨k + 1, by omega, by go_num⟩
              case measure => simp [intOf]; omega
            · obtain rfl : k = n2 := by omega
              clear hlk hk
              have HO6 := hide (Open_any (unhide HK6))
              have HS6 := hide (Send_any (unhide HK6))
              have HO7 : Hid (∀ W, Below w6.heap.size w6 W → Calls Try.prog 24 #[.pointer (some ⟨w2.heap.size, 0, none⟩)] W fun e w' => e = .returned (.bool c2.op) ∧ w' = W) := fun W hW => Open_any ((unhide HK6).below hW)
              have hwk : IntKind.i64.wrap ((k : Int) + 1) = (k : Int) + 1 := by rw [IntKind.wrap_i64]; omega
              cases hop : c2.op
              · have hgn : gno c2 = (k : Int) := by unfold gno; rw [hop]; exact congrArg Int.ofNat (unhide HN2)
                have hpk : c2.pkt = zeroPkt := by unfold ACli.pkt; rw [hop]; rfl
                rw [hop] at HO6 HS6 HO7
                rw [hpk] at HS6
                rw [hgn] at HG
                have HGZ := hide hgn
                have hG := unhide HG
                subst hG
                dsimp only [zeroPkt, APkt.val] at HS6
                clear hop hgn hpk
                go_wp2_with fail
                refine (unhide HO6).mono ?_
                rintro e w6' ⟨rfl, hw6'⟩
                obtain rfl := hw6'.symm
                clear hw6'
                go_wp2_with fail
                refine (unhide HS6).mono ?_
                rintro e w7 ⟨rfl, b7⟩
                have b8 := b7.alloc b7.size (.cells #[.bool false, .int .i64 0, .int .i64 0, .int .i64 0, .string ⟨#[]⟩, .string ⟨#[]⟩, .string ⟨#[]⟩, .int .i64 0, .string ⟨#[]⟩] 33)
                have HO8 := hide ((unhide HO7) _ b8)
                have HK8 := hide ((unhide HK6).below b8)
                have HB8 := hide ((unhide HB6).trans (b8.mono (unhide HB6).size))
                clear b7 b8
                go_wp2_with (go_at_call 24; refine (unhide HO8).mono ?_; rintro e w8 ⟨rfl, hw8⟩; obtain rfl := hw8.symm; clear hw8)
                go_roundw
                case rel => exact ⟨q + 1, v5, c2, by omega, by go_num, by rw [unhide HGZ], unhide HK8, unhide HB8, unhide HME⟩
                case measure => simp [intOf]; omega
              · have hgn : gno c2 = (k : Int) + 1 := by unfold gno ACli.no; rw [hop, unhide HN2]; rfl
                have hS := Send_some (unhide HK6) hop
                have hno : c2.no = (k : Int) + 1 := by unfold ACli.no; rw [unhide HN2]
                rw [hno, unhide HME] at hS
                generalize c2.call = cl at hS
                obtain ⟨lk, la, lb, lt⟩ := cl
                have HS7 := hide hS
                rw [hop] at HO6 HO7
                rw [hgn] at HG
                have HGZ := hide hgn
                have hG := unhide HG
                subst hG
                dsimp only [APkt.val] at HS7
                clear hop hgn hS hno HS6
                go_wp2_with fail
                refine (unhide HO6).mono ?_
                rintro e w6' ⟨rfl, hw6'⟩
                obtain rfl := hw6'.symm
                clear hw6'
                go_wp2_with fail
                refine (unhide HS7).mono ?_
                rintro e w7 ⟨rfl, b7⟩
                have b8 := b7.alloc b7.size (.cells #[.bool false, .int .i64 me, .int .i64 ((k : Int) + 1), .int .i64 lk, .string la, .string lb, .string lt, .int .i64 0, .string ⟨#[]⟩] 33)
                have HO8 := hide ((unhide HO7) _ b8)
                have HK8 := hide ((unhide HK6).below b8)
                have HB8 := hide ((unhide HB6).trans (b8.mono (unhide HB6).size))
                clear b7 b8
                go_wp2_with (go_at_call 24; refine (unhide HO8).mono ?_; rintro e w8 ⟨rfl, hw8⟩; obtain rfl := hw8.symm; clear hw8)
                go_roundw
                case rel => exact ⟨q + 1, v5, c2, by omega, by go_num, by rw [unhide HGZ], unhide HK8, unhide HB8, unhide HME⟩
                case measure => simp [intOf]; omega
      by_cases ha1 : x.act = 1
      · have a0 : (x.act == 0) = false := by simpa using ha0
        have HCL := hide (Hear_any (unhide HK4) x.m (unhide HSM).2.1)
        have hgs := gno_heard c x.m
        have hok := (unhide HK4).ok.heard (unhide HSM).2.1
        have hme := (heard_me c x.m).trans (unhide HME0)
        have HNOT : Hid (c.hears x.m = false → c.heard x.m = c) := heard_not
        obtain ⟨hr, hhr⟩ : ∃ b, c.hears x.m = b := ⟨_, rfl⟩
        rw [hhr] at HCL HNOT
        generalize c.heard x.m = c2 at HCL hgs hok hme HNOT
        clear ha0 hhr
        obtain ⟨act, ⟨ck, ca, cb, ct⟩, ⟨r, pc, pn, ⟨pk, s1, s2, s3⟩, d, u2⟩, ad, au⟩ := x
        dsimp only [APkt.val] at *
        subst ha1
        generalize hask : gno c = ask2 at *
        have HG : Hid (ask2 = gno c2) := hgs.symm
        have HOK := hide hok
        have HME := hide hme
        clear hok hme hgs
        cases hr
        · have hcc := (unhide HNOT) rfl
          subst hcc
          go_wp2_with fail
          refine (unhide HCL).mono ?_
          rintro e wz ⟨rfl, hTz⟩
          have hbz := hTz.below (unhide HK4).o
          have hg4 : g ∉ powns w2.heap.size v := fun hm => by have h1 := ((unhide HK).o.ge _ hm).2; have h2 := ((unhide HRW).lt g rfl).1; omega
          have hgz := hTz.blk ((unhide HRW).lt g rfl).2 hg4
          have hown : ∀ k, (Value.slice (some ⟨g, 0, none⟩) n cap).ownBlock = some k → wz.heap[k]? = w4.heap[k]? := fun k hk => by
            have e : k = g := by simpa [Value.ownBlock] using hk.symm
            subst e
            exact hgz
          have HRZ : Hid (wz.ownsRow wr.heap.size 63 8 (.slice (some ⟨g, 0, none⟩) n cap) n (c2.done.flatMap rcells)) := ownsRow_same (unhide HRW) hown
          clear hown
          obtain ⟨vz, hrz, _⟩ := KTurn.rep hTz (unhide HOK)
          have HKz := hide hrz
          have HBz := hide ((unhide HB4).trans hbz)
          have HOz := hide (Open_any hrz)
          have HDz := hide (Done_any hrz (unhide HN))
          clear hTz hbz hg4 hgz hrz x0 x1 x2 x3 x4 x5 x6 x7 x8 x9 x10 x11 x12 x13 x14 x15
          go_wp2_with fail
          refine (unhide HOz).mono ?_
          rintro e wz' ⟨rfl, hwz'⟩
          obtain rfl := hwz'.symm
          clear hwz'
          go_wp2_with fail
          refine (unhide HDz).mono ?_
          rintro e w5y ⟨gy, capy, rfl, hoy, by5⟩
          have HSR := hide (SameRecords_eq (some ⟨g, 0, none⟩) (some ⟨gy, 0, none⟩) n cap capy c2.done w5y ((recs_row (unhide HRZ) (unhide HN)).below by5) (recs_row hoy (unhide HN)) (by omega))
          have HKy := hide ((unhide HKz).below by5)
          have HBy := hide ((unhide HBz).trans (by5.mono (unhide HBz).size))
          clear hoy by5
          go_wp2_with fail
          refine (unhide HSR).mono ?_
          rintro e w5 ⟨rfl, b5⟩
          have HK5 := hide ((unhide HKy).below b5)
          have HB5 := hide ((unhide HBy).trans (b5.mono (unhide HBy).size))
          obtain ⟨v5, hv5⟩ : ∃ v, v = vz := ⟨_, rfl⟩
          rw [← hv5] at HK5
          clear b5 hv5
          go_wp2_with fail
          obtain ⟨n2, hn2⟩ : ∃ n, c2.done.length = n := ⟨_, rfl⟩
          have HDN := hide (Done_any (unhide HK5) hn2)
          have HN2 := hide hn2
          have hn200 : n2 ≤ 200 := by rw [← hn2]; exact (unhide HK5).ok.few
          clear hn2
          refine (unhide HDN).mono ?_
          rintro e w6 ⟨g2, cap2, rfl, ho6, b6⟩
          have HRC := hide (recs_row ho6 (unhide HN2))
          have HK6 := hide ((unhide HK5).below b6)
          have HB6 := hide ((unhide HB5).trans (b6.mono (unhide HB5).size))
          clear ho6 b6
          go_wp2_with fail
          go_loop [13] (fun i => ∃ k : Nat, k ≤ n2 ∧ i = .int .i64 k) (fun i => n2 - (intOf i).toNat)
          case atStart => exact ⟨0, Nat.zero_le _, rfl⟩
          case round =>
            obtain ⟨k, hk, rfl⟩ := hrel
            by_cases hlk : (k : Int) < (n2 : Int)
            · obtain ⟨rc, hrc⟩ : ∃ rc, c2.done[k]? = some rc := ⟨_, List.getElem?_eq_getElem (by rw [unhide HN2]; omega)⟩
              obtain ⟨g3, off3, hg3, hrec⟩ := (unhide HRC).2 (by omega)
              cases hg3
              obtain ⟨q0, q1, _, _, _, _, _, _⟩ := hrec k rc hrc
              obtain ⟨f0, f1⟩ := (unhide HK5).ok.num k rc hrc
              rw [f0, unhide HME, Nat.zero_add] at q0
              rw [f1, Nat.zero_add] at q1
              have hki : (0 : Int) ≤ (k : Int) := by omega
              have hwk : IntKind.i64.wrap ((k : Int) + 1) = (k : Int) + 1 := by rw [IntKind.wrap_i64]; omega
              clear hrec hrc f0 f1
              go_wp2
              go_round
              case rel => exact ⟨k + 1, by omega, by go_num⟩
              case measure => simp [intOf]; omega
            · obtain rfl : k = n2 := by omega
              clear hlk hk
              have HO6 := hide (Open_any (unhide HK6))
              have HS6 := hide (Send_any (unhide HK6))
              have HO7 : Hid (∀ W, Below w6.heap.size w6 W → Calls Try.prog 24 #[.pointer (some ⟨w2.heap.size, 0, none⟩)] W fun e w' => e = .returned (.bool c2.op) ∧ w' = W) := fun W hW => Open_any ((unhide HK6).below hW)
              have hwk : IntKind.i64.wrap ((k : Int) + 1) = (k : Int) + 1 := by rw [IntKind.wrap_i64]; omega
              cases hop : c2.op
              · have hgn : gno c2 = (k : Int) := by unfold gno; rw [hop]; exact congrArg Int.ofNat (unhide HN2)
                have hpk : c2.pkt = zeroPkt := by unfold ACli.pkt; rw [hop]; rfl
                rw [hop] at HO6 HS6 HO7
                rw [hpk] at HS6
                rw [hgn] at HG
                have HGZ := hide hgn
                have hG := unhide HG
                subst hG
                dsimp only [zeroPkt, APkt.val] at HS6
                clear hop hgn hpk
                go_wp2_with fail
                refine (unhide HO6).mono ?_
                rintro e w6' ⟨rfl, hw6'⟩
                obtain rfl := hw6'.symm
                clear hw6'
                go_wp2_with fail
                refine (unhide HS6).mono ?_
                rintro e w7 ⟨rfl, b7⟩
                have b8 := b7.alloc b7.size (.cells #[.bool false, .int .i64 0, .int .i64 0, .int .i64 0, .string ⟨#[]⟩, .string ⟨#[]⟩, .string ⟨#[]⟩, .int .i64 0, .string ⟨#[]⟩] 33)
                have HO8 := hide ((unhide HO7) _ b8)
                have HK8 := hide ((unhide HK6).below b8)
                have HB8 := hide ((unhide HB6).trans (b8.mono (unhide HB6).size))
                clear b7 b8
                go_wp2_with (go_at_call 24; refine (unhide HO8).mono ?_; rintro e w8 ⟨rfl, hw8⟩; obtain rfl := hw8.symm; clear hw8)
                go_roundw
                case rel => exact ⟨q + 1, v5, c2, by omega, by go_num, by rw [unhide HGZ], unhide HK8, unhide HB8, unhide HME⟩
                case measure => simp [intOf]; omega
              · have hgn : gno c2 = (k : Int) + 1 := by unfold gno ACli.no; rw [hop, unhide HN2]; rfl
                have hS := Send_some (unhide HK6) hop
                have hno : c2.no = (k : Int) + 1 := by unfold ACli.no; rw [unhide HN2]
                rw [hno, unhide HME] at hS
                generalize c2.call = cl at hS
                obtain ⟨lk, la, lb, lt⟩ := cl
                have HS7 := hide hS
                rw [hop] at HO6 HO7
                rw [hgn] at HG
                have HGZ := hide hgn
                have hG := unhide HG
                subst hG
                dsimp only [APkt.val] at HS7
                clear hop hgn hS hno HS6
                go_wp2_with fail
                refine (unhide HO6).mono ?_
                rintro e w6' ⟨rfl, hw6'⟩
                obtain rfl := hw6'.symm
                clear hw6'
                go_wp2_with fail
                refine (unhide HS7).mono ?_
                rintro e w7 ⟨rfl, b7⟩
                have b8 := b7.alloc b7.size (.cells #[.bool false, .int .i64 me, .int .i64 ((k : Int) + 1), .int .i64 lk, .string la, .string lb, .string lt, .int .i64 0, .string ⟨#[]⟩] 33)
                have HO8 := hide ((unhide HO7) _ b8)
                have HK8 := hide ((unhide HK6).below b8)
                have HB8 := hide ((unhide HB6).trans (b8.mono (unhide HB6).size))
                clear b7 b8
                go_wp2_with (go_at_call 24; refine (unhide HO8).mono ?_; rintro e w8 ⟨rfl, hw8⟩; obtain rfl := hw8.symm; clear hw8)
                go_roundw
                case rel => exact ⟨q + 1, v5, c2, by omega, by go_num, by rw [unhide HGZ], unhide HK8, unhide HB8, unhide HME⟩
                case measure => simp [intOf]; omega
        · go_wp2_with fail
          refine (unhide HCL).mono ?_
          rintro e w5 ⟨rfl, hT5⟩
          have HB5 := hide ((unhide HB4).trans (hT5.below (unhide HK4).o))
          obtain ⟨v5, hr5, _⟩ := KTurn.rep hT5 (unhide HOK)
          have HK5 := hide hr5
          clear hT5 hr5 x0 x1 x2 x3 x4 x5 x6 x7 x8 x9 x10 x11 x12 x13 x14 x15
          go_wp2_with fail
          obtain ⟨n2, hn2⟩ : ∃ n, c2.done.length = n := ⟨_, rfl⟩
          have HDN := hide (Done_any (unhide HK5) hn2)
          have HN2 := hide hn2
          have hn200 : n2 ≤ 200 := by rw [← hn2]; exact (unhide HK5).ok.few
          clear hn2
          refine (unhide HDN).mono ?_
          rintro e w6 ⟨g2, cap2, rfl, ho6, b6⟩
          have HRC := hide (recs_row ho6 (unhide HN2))
          have HK6 := hide ((unhide HK5).below b6)
          have HB6 := hide ((unhide HB5).trans (b6.mono (unhide HB5).size))
          clear ho6 b6
          go_wp2_with fail
          go_loop [13] (fun i => ∃ k : Nat, k ≤ n2 ∧ i = .int .i64 k) (fun i => n2 - (intOf i).toNat)
          case atStart => exact ⟨0, Nat.zero_le _, rfl⟩
          case round =>
            obtain ⟨k, hk, rfl⟩ := hrel
            by_cases hlk : (k : Int) < (n2 : Int)
            · obtain ⟨rc, hrc⟩ : ∃ rc, c2.done[k]? = some rc := ⟨_, List.getElem?_eq_getElem (by rw [unhide HN2]; omega)⟩
              obtain ⟨g3, off3, hg3, hrec⟩ := (unhide HRC).2 (by omega)
              cases hg3
              obtain ⟨q0, q1, _, _, _, _, _, _⟩ := hrec k rc hrc
              obtain ⟨f0, f1⟩ := (unhide HK5).ok.num k rc hrc
              rw [f0, unhide HME, Nat.zero_add] at q0
              rw [f1, Nat.zero_add] at q1
              have hki : (0 : Int) ≤ (k : Int) := by omega
              have hwk : IntKind.i64.wrap ((k : Int) + 1) = (k : Int) + 1 := by rw [IntKind.wrap_i64]; omega
              clear hrec hrc f0 f1
              go_wp2
              go_round
              case rel => exact ⟨k + 1, by omega, by go_num⟩
              case measure => simp [intOf]; omega
            · obtain rfl : k = n2 := by omega
              clear hlk hk
              have HO6 := hide (Open_any (unhide HK6))
              have HS6 := hide (Send_any (unhide HK6))
              have HO7 : Hid (∀ W, Below w6.heap.size w6 W → Calls Try.prog 24 #[.pointer (some ⟨w2.heap.size, 0, none⟩)] W fun e w' => e = .returned (.bool c2.op) ∧ w' = W) := fun W hW => Open_any ((unhide HK6).below hW)
              have hwk : IntKind.i64.wrap ((k : Int) + 1) = (k : Int) + 1 := by rw [IntKind.wrap_i64]; omega
              cases hop : c2.op
              · have hgn : gno c2 = (k : Int) := by unfold gno; rw [hop]; exact congrArg Int.ofNat (unhide HN2)
                have hpk : c2.pkt = zeroPkt := by unfold ACli.pkt; rw [hop]; rfl
                rw [hop] at HO6 HS6 HO7
                rw [hpk] at HS6
                rw [hgn] at HG
                have HGZ := hide hgn
                have hG := unhide HG
                subst hG
                dsimp only [zeroPkt, APkt.val] at HS6
                clear hop hgn hpk
                go_wp2_with fail
                refine (unhide HO6).mono ?_
                rintro e w6' ⟨rfl, hw6'⟩
                obtain rfl := hw6'.symm
                clear hw6'
                go_wp2_with fail
                refine (unhide HS6).mono ?_
                rintro e w7 ⟨rfl, b7⟩
                have b8 := b7.alloc b7.size (.cells #[.bool false, .int .i64 0, .int .i64 0, .int .i64 0, .string ⟨#[]⟩, .string ⟨#[]⟩, .string ⟨#[]⟩, .int .i64 0, .string ⟨#[]⟩] 33)
                have HO8 := hide ((unhide HO7) _ b8)
                have HK8 := hide ((unhide HK6).below b8)
                have HB8 := hide ((unhide HB6).trans (b8.mono (unhide HB6).size))
                clear b7 b8
                go_wp2_with (go_at_call 24; refine (unhide HO8).mono ?_; rintro e w8 ⟨rfl, hw8⟩; obtain rfl := hw8.symm; clear hw8)
                go_roundw
                case rel => exact ⟨q + 1, v5, c2, by omega, by go_num, by rw [unhide HGZ], unhide HK8, unhide HB8, unhide HME⟩
                case measure => simp [intOf]; omega
              · have hgn : gno c2 = (k : Int) + 1 := by unfold gno ACli.no; rw [hop, unhide HN2]; rfl
                have hS := Send_some (unhide HK6) hop
                have hno : c2.no = (k : Int) + 1 := by unfold ACli.no; rw [unhide HN2]
                rw [hno, unhide HME] at hS
                generalize c2.call = cl at hS
                obtain ⟨lk, la, lb, lt⟩ := cl
                have HS7 := hide hS
                rw [hop] at HO6 HO7
                rw [hgn] at HG
                have HGZ := hide hgn
                have hG := unhide HG
                subst hG
                dsimp only [APkt.val] at HS7
                clear hop hgn hS hno HS6
                go_wp2_with fail
                refine (unhide HO6).mono ?_
                rintro e w6' ⟨rfl, hw6'⟩
                obtain rfl := hw6'.symm
                clear hw6'
                go_wp2_with fail
                refine (unhide HS7).mono ?_
                rintro e w7 ⟨rfl, b7⟩
                have b8 := b7.alloc b7.size (.cells #[.bool false, .int .i64 me, .int .i64 ((k : Int) + 1), .int .i64 lk, .string la, .string lb, .string lt, .int .i64 0, .string ⟨#[]⟩] 33)
                have HO8 := hide ((unhide HO7) _ b8)
                have HK8 := hide ((unhide HK6).below b8)
                have HB8 := hide ((unhide HB6).trans (b8.mono (unhide HB6).size))
                clear b7 b8
                go_wp2_with (go_at_call 24; refine (unhide HO8).mono ?_; rintro e w8 ⟨rfl, hw8⟩; obtain rfl := hw8.symm; clear hw8)
                go_roundw
                case rel => exact ⟨q + 1, v5, c2, by omega, by go_num, by rw [unhide HGZ], unhide HK8, unhide HB8, unhide HME⟩
                case measure => simp [intOf]; omega
      by_cases ha2 : x.act = 2
      · have a0 : (x.act == 0) = false := by simpa using ha0
        have a1 : (x.act == 1) = false := by simpa using ha1
        have HS4 := hide (Send_any (unhide HK4))
        have hsm := reply_small (unhide HK4).ok (unhide HSM)
        have hhr := hears_reply c x.d x.u
        have hpr : c.reply x = ⟨true, c.pkt.client, c.pkt.no, c.pkt.call, x.d, x.u⟩ := rfl
        have hok := (unhide HK4).ok.heard hsm
        have hgs := gno_heard c (c.reply x)
        have hme := (heard_me c (c.reply x)).trans (unhide HME0)
        rw [hpr] at hsm hok hgs hme
        generalize c.pkt = m at HS4 hsm hok hgs hme hhr
        obtain ⟨mr, mc, mn, ⟨mk, m1, m2, m3⟩, md, mu⟩ := m
        clear ha0 ha1 hpr
        obtain ⟨act, ⟨ck, ca, cb, ct⟩, ⟨r, pc, pn, ⟨pk, s1, s2, s3⟩, d, u2⟩, ad, au⟩ := x
        dsimp only [APkt.val] at *
        subst ha2
        have HCL : Hid (∀ W v', KRep w2.heap.size W w2.heap.size v' c → Calls Try.prog 30 #[.pointer (some ⟨w2.heap.size, 0, none⟩), .agg #[.bool true, .int .i64 mc, .int .i64 mn, .int .i64 mk, .string m1, .string m2, .string m3, .int .i64 ad, .string au]] W fun e w' => e = .returned (.bool c.op) ∧ KTurn w2.heap.size W w2.heap.size v' w' (c.heard ⟨true, mc, mn, ⟨mk, m1, m2, m3⟩, ad, au⟩)) := fun W v' hW => by
          have := Hear_any hW ⟨true, mc, mn, ⟨mk, m1, m2, m3⟩, ad, au⟩ hsm
          rw [hhr] at this
          exact this
        generalize c.heard ⟨true, mc, mn, ⟨mk, m1, m2, m3⟩, ad, au⟩ = c2 at HCL hok hgs hme
        generalize hask : gno c = ask2 at *
        have HG : Hid (ask2 = gno c2) := hgs.symm
        have HOK := hide hok
        have HME := hide hme
        clear hok hme hgs hsm hhr hask
        go_wp2_with fail
        refine (unhide HS4).mono ?_
        rintro e wz ⟨rfl, bz⟩
        obtain ⟨WZ, hWZ⟩ : ∃ W, W = wz.alloc (.cells #[.bool mr, .int .i64 mc, .int .i64 mn, .int .i64 mk, .string m1, .string m2, .string m3, .int .i64 md, .string mu] 33) := ⟨_, rfl⟩
        have hBZ : Below w4.heap.size w4 WZ := by rw [hWZ]; exact bz.alloc bz.size _
        have hPZ : WZ.heap[wz.heap.size]? = some (.cells #[.bool mr, .int .i64 mc, .int .i64 mn, .int .i64 mk, .string m1, .string m2, .string m3, .int .i64 md, .string mu] 33 (0, 0)) := by rw [hWZ]; exact heap_alloc_new _ _
        have hzz := bz.size
        have hb4l : b < w4.heap.size := (unhide HAT4).lt
        obtain ⟨_, _, _, _, _, _, _, _, _, _, _, _, _, _, e14, e15⟩ := (unhide HAT4).same (hBZ.block b hb4l)
        obtain ⟨⟨p0, p1, p2, p3⟩, ⟨p4, p5, p6, p7, p8⟩, pf⟩ := nine hPZ
        have pf0 := pf 0
        have pf7 := pf 7
        have pf8 := pf 8
        have hne : wz.heap.size ≠ b := by omega
        have HBZ := hide hBZ
        have HPZ := hide hPZ
        have HWZ := hide hWZ
        clear bz hBZ hPZ hWZ pf x0 x1 x2 x3 x4 x5 x6 x7 x8 x9 x10 x11 x12 x13 x14 x15
        go_wp2_with fail
        rw [← unhide HWZ]
        go_region_held3 (fun W => W.cell? ⟨b, off + q * 16 + 14, none⟩ = some (.int .i64 ad) ∧ W.cell? ⟨b, off + q * 16 + 15, none⟩ = some (.string au)) (first | (go_keep; done) | (simp [World.cell?_setCell_far, hne, e14, e15]; done)) (fail)
        all_goals
          have hs1 : ((WZ.setCell ⟨wz.heap.size, 0, none⟩ (.bool true)).setCell ⟨wz.heap.size, 7, none⟩ (.int .i64 ad)).heap[wz.heap.size]? = some (.cells #[.bool true, .int .i64 mc, .int .i64 mn, .int .i64 mk, .string m1, .string m2, .string m3, .int .i64 ad, .string mu] 33 (0, 0)) := heap_setCell_same (heap_setCell_same (unhide HPZ) _) _
          have hs2 : (((WZ.setCell ⟨wz.heap.size, 0, none⟩ (.bool true)).setCell ⟨wz.heap.size, 7, none⟩ (.int .i64 ad)).setCell ⟨wz.heap.size, 8, none⟩ (.string au)).heap[wz.heap.size]? = some (.cells #[.bool true, .int .i64 mc, .int .i64 mn, .int .i64 mk, .string m1, .string m2, .string m3, .int .i64 ad, .string au] 33 (0, 0)) := heap_setCell_same hs1 _
          have hs3 : Below w4.heap.size w4 (((WZ.setCell ⟨wz.heap.size, 0, none⟩ (.bool true)).setCell ⟨wz.heap.size, 7, none⟩ (.int .i64 ad)).setCell ⟨wz.heap.size, 8, none⟩ (.string au)) := below_set (below_set (below_set (unhide HBZ) hzz) hzz) hzz
          obtain ⟨W3, hW3⟩ : ∃ W, W = (((WZ.setCell ⟨wz.heap.size, 0, none⟩ (.bool true)).setCell ⟨wz.heap.size, 7, none⟩ (.int .i64 ad)).setCell ⟨wz.heap.size, 8, none⟩ (.string au)).drew := ⟨_, rfl⟩
          have hP4 : W3.heap[wz.heap.size]? = some (.cells #[.bool true, .int .i64 mc, .int .i64 mn, .int .i64 mk, .string m1, .string m2, .string m3, .int .i64 ad, .string au] 33 (0, 0)) := by rw [hW3]; exact hs2
          have hB4' : Below w4.heap.size w4 W3 := by rw [hW3]; exact hs3.drew
          rw [← hW3]
          have hKz := (unhide HK4).below hB4'
          have HCZ := hide ((unhide HCL) W3 _ hKz)
          have HKZ := hide hKz
          have HBZ3 := hide ((unhide HB4).trans (hB4'.mono (unhide HB4).size))
          clear p0 p1 p2 p3 p4 p5 p6 p7 p8
          obtain ⟨⟨p0, p1, p2, p3⟩, ⟨p4, p5, p6, p7, p8⟩, pf⟩ := nine hP4
          clear hs1 hs2 hs3 hW3 hP4 hB4' hKz pf pf0 pf7 pf8 e14 e15
          go_wp2_with fail
          refine (unhide HCZ).mono ?_
          rintro e w5 ⟨rfl, hT5⟩
          have HB5 := hide ((unhide HBZ3).trans (hT5.below (unhide HKZ).o))
          obtain ⟨v5, hr5, _⟩ := KTurn.rep hT5 (unhide HOK)
          have HK5 := hide hr5
          clear hT5 hr5 p0 p1 p2 p3 p4 p5 p6 p7 p8
          go_wp2_with fail
          obtain ⟨n2, hn2⟩ : ∃ n, c2.done.length = n := ⟨_, rfl⟩
          have HDN := hide (Done_any (unhide HK5) hn2)
          have HN2 := hide hn2
          have hn200 : n2 ≤ 200 := by rw [← hn2]; exact (unhide HK5).ok.few
          clear hn2
          refine (unhide HDN).mono ?_
          rintro e w6 ⟨g2, cap2, rfl, ho6, b6⟩
          have HRC := hide (recs_row ho6 (unhide HN2))
          have HK6 := hide ((unhide HK5).below b6)
          have HB6 := hide ((unhide HB5).trans (b6.mono (unhide HB5).size))
          clear ho6 b6
          go_wp2_with fail
          go_loop [13] (fun i => ∃ k : Nat, k ≤ n2 ∧ i = .int .i64 k) (fun i => n2 - (intOf i).toNat)
          case atStart => exact ⟨0, Nat.zero_le _, rfl⟩
          case round =>
            obtain ⟨k, hk, rfl⟩ := hrel
            by_cases hlk : (k : Int) < (n2 : Int)
            · obtain ⟨rc, hrc⟩ : ∃ rc, c2.done[k]? = some rc := ⟨_, List.getElem?_eq_getElem (by rw [unhide HN2]; omega)⟩
              obtain ⟨g3, off3, hg3, hrec⟩ := (unhide HRC).2 (by omega)
              cases hg3
              obtain ⟨q0, q1, _, _, _, _, _, _⟩ := hrec k rc hrc
              obtain ⟨f0, f1⟩ := (unhide HK5).ok.num k rc hrc
              rw [f0, unhide HME, Nat.zero_add] at q0
              rw [f1, Nat.zero_add] at q1
              have hki : (0 : Int) ≤ (k : Int) := by omega
              have hwk : IntKind.i64.wrap ((k : Int) + 1) = (k : Int) + 1 := by rw [IntKind.wrap_i64]; omega
              clear hrec hrc f0 f1
              go_wp2
              go_round
              case rel => exact ⟨k + 1, by omega, by go_num⟩
              case measure => simp [intOf]; omega
            · obtain rfl : k = n2 := by omega
              clear hlk hk
              have HO6 := hide (Open_any (unhide HK6))
              have HS6 := hide (Send_any (unhide HK6))
              have HO7 : Hid (∀ W, Below w6.heap.size w6 W → Calls Try.prog 24 #[.pointer (some ⟨w2.heap.size, 0, none⟩)] W fun e w' => e = .returned (.bool c2.op) ∧ w' = W) := fun W hW => Open_any ((unhide HK6).below hW)
              have hwk : IntKind.i64.wrap ((k : Int) + 1) = (k : Int) + 1 := by rw [IntKind.wrap_i64]; omega
              cases hop : c2.op
              · have hgn : gno c2 = (k : Int) := by unfold gno; rw [hop]; exact congrArg Int.ofNat (unhide HN2)
                have hpk : c2.pkt = zeroPkt := by unfold ACli.pkt; rw [hop]; rfl
                rw [hop] at HO6 HS6 HO7
                rw [hpk] at HS6
                rw [hgn] at HG
                have HGZ := hide hgn
                have hG := unhide HG
                subst hG
                dsimp only [zeroPkt, APkt.val] at HS6
                clear hop hgn hpk
                go_wp2_with fail
                refine (unhide HO6).mono ?_
                rintro e w6' ⟨rfl, hw6'⟩
                obtain rfl := hw6'.symm
                clear hw6'
                go_wp2_with fail
                refine (unhide HS6).mono ?_
                rintro e w7 ⟨rfl, b7⟩
                have b8 := b7.alloc b7.size (.cells #[.bool false, .int .i64 0, .int .i64 0, .int .i64 0, .string ⟨#[]⟩, .string ⟨#[]⟩, .string ⟨#[]⟩, .int .i64 0, .string ⟨#[]⟩] 33)
                have HO8 := hide ((unhide HO7) _ b8)
                have HK8 := hide ((unhide HK6).below b8)
                have HB8 := hide ((unhide HB6).trans (b8.mono (unhide HB6).size))
                clear b7 b8
                go_wp2_with (go_at_call 24; refine (unhide HO8).mono ?_; rintro e w8 ⟨rfl, hw8⟩; obtain rfl := hw8.symm; clear hw8)
                go_roundw
                case rel => exact ⟨q + 1, v5, c2, by omega, by go_num, by rw [unhide HGZ], unhide HK8, unhide HB8, unhide HME⟩
                case measure => simp [intOf]; omega
              · have hgn : gno c2 = (k : Int) + 1 := by unfold gno ACli.no; rw [hop, unhide HN2]; rfl
                have hS := Send_some (unhide HK6) hop
                have hno : c2.no = (k : Int) + 1 := by unfold ACli.no; rw [unhide HN2]
                rw [hno, unhide HME] at hS
                generalize c2.call = cl at hS
                obtain ⟨lk, la, lb, lt⟩ := cl
                have HS7 := hide hS
                rw [hop] at HO6 HO7
                rw [hgn] at HG
                have HGZ := hide hgn
                have hG := unhide HG
                subst hG
                dsimp only [APkt.val] at HS7
                clear hop hgn hS hno HS6
                go_wp2_with fail
                refine (unhide HO6).mono ?_
                rintro e w6' ⟨rfl, hw6'⟩
                obtain rfl := hw6'.symm
                clear hw6'
                go_wp2_with fail
                refine (unhide HS7).mono ?_
                rintro e w7 ⟨rfl, b7⟩
                have b8 := b7.alloc b7.size (.cells #[.bool false, .int .i64 me, .int .i64 ((k : Int) + 1), .int .i64 lk, .string la, .string lb, .string lt, .int .i64 0, .string ⟨#[]⟩] 33)
                have HO8 := hide ((unhide HO7) _ b8)
                have HK8 := hide ((unhide HK6).below b8)
                have HB8 := hide ((unhide HB6).trans (b8.mono (unhide HB6).size))
                clear b7 b8
                go_wp2_with (go_at_call 24; refine (unhide HO8).mono ?_; rintro e w8 ⟨rfl, hw8⟩; obtain rfl := hw8.symm; clear hw8)
                go_roundw
                case rel => exact ⟨q + 1, v5, c2, by omega, by go_num, by rw [unhide HGZ], unhide HK8, unhide HB8, unhide HME⟩
                case measure => simp [intOf]; omega
      · have a0 : (x.act == 0) = false := by simpa using ha0
        have a1 : (x.act == 1) = false := by simpa using ha1
        have a2 : (x.act == 2) = false := by simpa using ha2
        clear ha0 ha1 ha2
        obtain ⟨act, ⟨ck, ca, cb, ct⟩, ⟨r, pc, pn, ⟨pk, s1, s2, s3⟩, d, u2⟩, ad, au⟩ := x
        dsimp only at *
        obtain ⟨w5, hw5⟩ : ∃ W, W = w4 := ⟨_, rfl⟩
        obtain ⟨v5, hv5⟩ : ∃ V, V = v := ⟨_, rfl⟩
        obtain ⟨c2, hc2⟩ : ∃ C, C = c := ⟨_, rfl⟩
        have HK5 : Hid (KRep w2.heap.size w5 w2.heap.size v5 c2) := by rw [hw5, hv5, hc2]; exact unhide HK4
        have HB5 : Hid (Below w2.heap.size w2 w5) := by rw [hw5]; exact unhide HB4
        have HME : Hid (c2.me = me) := by rw [hc2]; exact unhide HME0
        generalize hask : gno c = ask2 at *
        have HG : Hid (ask2 = gno c2) := by rw [hc2]; exact hask.symm
        have x0' := x0
        rw [← hw5] at x0'
        rw [← hw5]
        clear hw5 hv5 hc2 hask x0 x1 x2 x3 x4 x5 x6 x7 x8 x9 x10 x11 x12 x13 x14 x15
        go_wp2_with fail
        obtain ⟨n2, hn2⟩ : ∃ n, c2.done.length = n := ⟨_, rfl⟩
        have HDN := hide (Done_any (unhide HK5) hn2)
        have HN2 := hide hn2
        have hn200 : n2 ≤ 200 := by rw [← hn2]; exact (unhide HK5).ok.few
        clear hn2
        refine (unhide HDN).mono ?_
        rintro e w6 ⟨g2, cap2, rfl, ho6, b6⟩
        have HRC := hide (recs_row ho6 (unhide HN2))
        have HK6 := hide ((unhide HK5).below b6)
        have HB6 := hide ((unhide HB5).trans (b6.mono (unhide HB5).size))
        clear ho6 b6
        go_wp2_with fail
        go_loop [13] (fun i => ∃ k : Nat, k ≤ n2 ∧ i = .int .i64 k) (fun i => n2 - (intOf i).toNat)
        case atStart => exact ⟨0, Nat.zero_le _, rfl⟩
        case round =>
          obtain ⟨k, hk, rfl⟩ := hrel
          by_cases hlk : (k : Int) < (n2 : Int)
          · obtain ⟨rc, hrc⟩ : ∃ rc, c2.done[k]? = some rc := ⟨_, List.getElem?_eq_getElem (by rw [unhide HN2]; omega)⟩
            obtain ⟨g3, off3, hg3, hrec⟩ := (unhide HRC).2 (by omega)
            cases hg3
            obtain ⟨q0, q1, _, _, _, _, _, _⟩ := hrec k rc hrc
            obtain ⟨f0, f1⟩ := (unhide HK5).ok.num k rc hrc
            rw [f0, unhide HME, Nat.zero_add] at q0
            rw [f1, Nat.zero_add] at q1
            have hki : (0 : Int) ≤ (k : Int) := by omega
            have hwk : IntKind.i64.wrap ((k : Int) + 1) = (k : Int) + 1 := by rw [IntKind.wrap_i64]; omega
            clear hrec hrc f0 f1
            go_wp2
            go_round
            case rel => exact ⟨k + 1, by omega, by go_num⟩
            case measure => simp [intOf]; omega
          · obtain rfl : k = n2 := by omega
            clear hlk hk
            have HO6 := hide (Open_any (unhide HK6))
            have HS6 := hide (Send_any (unhide HK6))
            have HO7 : Hid (∀ W, Below w6.heap.size w6 W → Calls Try.prog 24 #[.pointer (some ⟨w2.heap.size, 0, none⟩)] W fun e w' => e = .returned (.bool c2.op) ∧ w' = W) := fun W hW => Open_any ((unhide HK6).below hW)
            have hwk : IntKind.i64.wrap ((k : Int) + 1) = (k : Int) + 1 := by rw [IntKind.wrap_i64]; omega
            cases hop : c2.op
            · have hgn : gno c2 = (k : Int) := by unfold gno; rw [hop]; exact congrArg Int.ofNat (unhide HN2)
              have hpk : c2.pkt = zeroPkt := by unfold ACli.pkt; rw [hop]; rfl
              rw [hop] at HO6 HS6 HO7
              rw [hpk] at HS6
              rw [hgn] at HG
              have HGZ := hide hgn
              have hG := unhide HG
              subst hG
              dsimp only [zeroPkt, APkt.val] at HS6
              clear hop hgn hpk
              go_wp2_with fail
              refine (unhide HO6).mono ?_
              rintro e w6' ⟨rfl, hw6'⟩
              obtain rfl := hw6'.symm
              clear hw6'
              go_wp2_with fail
              refine (unhide HS6).mono ?_
              rintro e w7 ⟨rfl, b7⟩
              have b8 := b7.alloc b7.size (.cells #[.bool false, .int .i64 0, .int .i64 0, .int .i64 0, .string ⟨#[]⟩, .string ⟨#[]⟩, .string ⟨#[]⟩, .int .i64 0, .string ⟨#[]⟩] 33)
              have HO8 := hide ((unhide HO7) _ b8)
              have HK8 := hide ((unhide HK6).below b8)
              have HB8 := hide ((unhide HB6).trans (b8.mono (unhide HB6).size))
              clear b7 b8
              go_wp2_with (go_at_call 24; refine (unhide HO8).mono ?_; rintro e w8 ⟨rfl, hw8⟩; obtain rfl := hw8.symm; clear hw8)
              go_roundw
              case rel => exact ⟨q + 1, v5, c2, by omega, by go_num, by rw [unhide HGZ], unhide HK8, unhide HB8, unhide HME⟩
              case measure => simp [intOf]; omega
            · have hgn : gno c2 = (k : Int) + 1 := by unfold gno ACli.no; rw [hop, unhide HN2]; rfl
              have hS := Send_some (unhide HK6) hop
              have hno : c2.no = (k : Int) + 1 := by unfold ACli.no; rw [unhide HN2]
              rw [hno, unhide HME] at hS
              generalize c2.call = cl at hS
              obtain ⟨lk, la, lb, lt⟩ := cl
              have HS7 := hide hS
              rw [hop] at HO6 HO7
              rw [hgn] at HG
              have HGZ := hide hgn
              have hG := unhide HG
              subst hG
              dsimp only [APkt.val] at HS7
              clear hop hgn hS hno HS6
              go_wp2_with fail
              refine (unhide HO6).mono ?_
              rintro e w6' ⟨rfl, hw6'⟩
              obtain rfl := hw6'.symm
              clear hw6'
              go_wp2_with fail
              refine (unhide HS7).mono ?_
              rintro e w7 ⟨rfl, b7⟩
              have b8 := b7.alloc b7.size (.cells #[.bool false, .int .i64 me, .int .i64 ((k : Int) + 1), .int .i64 lk, .string la, .string lb, .string lt, .int .i64 0, .string ⟨#[]⟩] 33)
              have HO8 := hide ((unhide HO7) _ b8)
              have HK8 := hide ((unhide HK6).below b8)
              have HB8 := hide ((unhide HB6).trans (b8.mono (unhide HB6).size))
              clear b7 b8
              go_wp2_with (go_at_call 24; refine (unhide HO8).mono ?_; rintro e w8 ⟨rfl, hw8⟩; obtain rfl := hw8.symm; clear hw8)
              go_roundw
              case rel => exact ⟨q + 1, v5, c2, by omega, by go_num, by rw [unhide HGZ], unhide HK8, unhide HB8, unhide HME⟩
              case measure => simp [intOf]; omega
    · go_wp2
      go_ret
      exact ⟨rfl, unhide HBw⟩

end Go.Proofs.Ytfpommjolbipmab
