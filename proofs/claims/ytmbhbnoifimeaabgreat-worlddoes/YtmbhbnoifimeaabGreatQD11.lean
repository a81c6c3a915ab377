/- Texts joined, what is needed of them: Vj VHe VHn Vk Vl Vm Sv Open OpenB Sy0 Sy2. -/
import Derived.Test.YtmbhbnoifimeaabGreatQD10
import Derived.ChangeOld
import Derived.Lib.SmallJoins
import Derived.OpenShut
import Derived.ProofKit
import Derived.ShutString
namespace Go.Proofs.YtmbhbnoifimeaabGreat
open Go.RowKit
set_option linter.unusedSimpArgs false
set_option linter.unusedVariables false
structure WNow (N : Nat) (w : World) (W : Nat) (o : WOwn) (wr : World) (o1 : WOwn) (A1 : AW) : Prop where
  rep : WRep N wr W o1 A1
  nx : Next N w wr (o.all W) (o1.all W)
theorem WNow.refl {N : Nat} {w : World} {W : Nat} {o : WOwn} {A : AW} (h : WRep N w W o A) : WNow N w W o w o A := ⟨h, Next.of_below _ (Below.refl _ _) h.size⟩
theorem WNow.then {N : Nat} {w w1 w2 : World} {W : Nat} {o o1 : WOwn} {A1 A2 : AW} (h : WNow N w W o w1 o1 A1) (hT : WTurn N w1 W o1 w2 A2) : ∃ o2, WNow N w W o w2 o2 A2 := by
  obtain ⟨o2, r2, n2⟩ := hT
  exact ⟨o2, r2, h.nx.trans n2⟩
theorem WNow.turn {N : Nat} {w w1 : World} {W : Nat} {o o1 : WOwn} {A1 : AW} (h : WNow N w W o w1 o1 A1) : WTurn N w W o w1 A1 := ⟨o1, h.rep, h.nx⟩
theorem WNow.below {N : Nat} {w w1 w2 : World} {W : Nat} {o o1 : WOwn} {A1 : AW} (h : WNow N w W o w1 o1 A1) (hb : Below w1.heap.size w1 w2) : WNow N w W o w2 o1 A1 := ⟨h.rep.below hb, h.nx.trans (Next.of_below _ hb h.rep.size)⟩
set_option maxRecDepth 100000 in
set_option maxHeartbeats 4000000 in
theorem deliverAll_any {N : Nat} {w : World} {W : Nat} {o : WOwn} {A : AW} (h : WRep N w W o A) :
    Calls Tryz.prog 57 #[.pointer (some ⟨W, 0, none⟩)] w fun e w' => e = .returned (.tuple #[]) ∧ WTurn N w W o w' A.drain := by
  have H0 := hide (WNow.refl h)
  clear h
  go_enter Tryz.func57, Tryz.ntmps57
  go_wp2_with fail
  go_loopg [2, 3] (wght A.ms) (fun k _ _ wr => Hid (∃ j o1, WNow N w W o wr o1 (AW.pops j A) ∧ wght (AW.pops j A).ms ≤ k))
  case atStart => exact ⟨0, o, unhide H0, Nat.le_refl _⟩
  case round =>
    obtain ⟨j, o1, hw1, hk⟩ := unhide hrel
    clear hrel
    have HD : Hid ((AW.pops j A).ms = [] → AW.pops j A = A.drain) := fun h => drain_of h
    have HP : Hid (AW.pops (j + 1) A = (AW.pops j A).pop) := pops_succ j A
    have HPC := hide hw1.rep.cells.1.2.2.2.2
    have hpc := hw1.rep.cells.1.2.2.2.2
    have HTK := hide (PTake_any hw1.rep.p 0)
    have HTP := hide (fun w1 (hT : PTurn 115 N wr o1.P o1.pv w1 (aTakeL (AW.pops j A).ms 0)) => hw1.then (hw1.rep.turnP hT))
    have HS := hide hw1.rep.p.small
    generalize AW.pops j A = A1 at *
    generalize o1.P = P at hpc HTK HTP
    generalize o1.pv = pv at HTK HTP
    have HK := hide hk
    by_cases h0 : A1.ms = []
    · have e2 : aTakeM A1.ms 0 = zeroPkt := by unfold aTakeM; rw [h0]; rfl
      have e3 : aTakeL A1.ms 0 = A1.ms := by unfold aTakeL; rw [h0]; rfl
      have e4 : aTakeB A1.ms = false := by unfold aTakeB; rw [h0]; rfl
      rw [e2, e3, e4] at HTK
      rw [e3] at HTP
      dsimp only [APkt.val, zeroPkt] at HTK
      have HAE := hide ((unhide HD) h0)
      clear e2 e3 e4 h0 hk hw1 HD HP HPC HS HK
      go_wp2_with fail
      refine (unhide HTK).mono ?_
      rintro e w1 ⟨rfl, hT⟩
      obtain ⟨o2, hw2⟩ := (unhide HTP) _ hT
      have HF := hide (hw2.below ((Below.refl w1.heap.size w1).alloc (Nat.le_refl _) (.cells #[.bool false, .int .i64 0, .int .i64 0, .int .i64 0, .string ⟨#[]⟩, .string ⟨#[]⟩, .string ⟨#[]⟩, .int .i64 0, .string ⟨#[]⟩] 92))).turn
      clear hT hw2
      go_wp2
      refine bodyPost_ret (v := .tuple #[]) (by simp [results, Tryz.results57, go_sem]) rfl ?_
      refine ⟨rfl, ?_⟩
      rw [← unhide HAE]
      exact unhide HF
    · have hl : A1.ms.length ≠ 0 := fun e => h0 (List.length_eq_zero_iff.1 e)
      have e4 : aTakeB A1.ms = true := decide_eq_true (by omega)
      rw [e4] at HTK
      have hsm := (unhide HS) _ (takeM_mem 0 hl)
      have hpo : A1.pop = (A1.took 0).come (aTakeM A1.ms 0) := by unfold AW.pop; rw [if_neg hl]
      have HW : Hid (wght A1.pop.ms < wght A1.ms) := pop_wght hl
      rw [hpo] at HW HP
      have HAT : Hid (A1.took 0 = ⟨A1.log, A1.cl, aTakeL A1.ms 0⟩) := rfl
      have HSM := hide hsm
      generalize aTakeM A1.ms 0 = p at HTK HSM HW HP
      generalize aTakeL A1.ms 0 = ms' at HTK HTP HAT
      rw [← unhide HAT] at HTP
      generalize A1.took 0 = A2 at HTP HP HW
      clear hsm hpo hl e4 h0 hk hw1 HD HPC HS HAT
      obtain ⟨pr, pc, pn, ⟨pk, pa, pb, pt⟩, pd, pu⟩ := p
      dsimp only [APkt.val] at HTK
      go_wp2_with fail
      refine (unhide HTK).mono ?_
      rintro e w1 ⟨rfl, hT⟩
      obtain ⟨o2, hw2⟩ := (unhide HTP) _ hT
      clear hT
      obtain ⟨V, hV⟩ : ∃ V, V = w1.alloc (.cells #[.bool pr, .int .i64 pc, .int .i64 pn, .int .i64 pk, .string pa, .string pb, .string pt, .int .i64 pd, .string pu] 92) := ⟨_, rfl⟩
      have hBV : Below w1.heap.size w1 V := by rw [hV]; exact (Below.refl _ _).alloc (Nat.le_refl _) _
      have hw3 := hw2.below hBV
      have HD3 := hide (deliver_any hw3.rep ⟨pr, pc, pn, ⟨pk, pa, pb, pt⟩, pd, pu⟩ (unhide HSM))
      dsimp only [APkt.val] at HD3
      have HW3 := hide hw3
      have HV := hide hV
      clear hw2 hV hBV hw3
      go_wp2_with fail
      rw [← unhide HV]
      refine (unhide HD3).mono ?_
      rintro e w4 ⟨rfl, hT⟩
      obtain ⟨o4, hw4⟩ := (unhide HW3).then hT
      have HW4 := hide hw4
      clear hT hw4
      go_wp2
      go_roundg (wght (A2.come ⟨pr, pc, pn, ⟨pk, pa, pb, pt⟩, pd, pu⟩).ms)
      case measure => exact Nat.lt_of_lt_of_le (unhide HW) (unhide HK)
      case rel => exact ⟨j + 1, o4, by rw [unhide HP]; exact unhide HW4, by rw [unhide HP]; exact Nat.le_refl _⟩
theorem send_fail {A : AW} {n : Int} (h : (A.send n).1 ≠ 0) : (A.send n).2 = A := by
  unfold AW.send at h ⊢
  split
  · rfl
  rename_i h1
  rw [if_neg h1] at h
  split
  · rfl
  rename_i h2
  rw [if_neg h2] at h
  split
  · rename_i h3
    rw [if_pos h3] at h
    exact absurd rfl h
  · rfl
theorem sends_idle {A : AW} (h : A.busy = false) : A.sends = A := by
  unfold AW.busy at h
  simp only [Bool.or_eq_false_iff, decide_eq_false_iff_not] at h
  obtain ⟨⟨h0, h1⟩, h2⟩ := h
  have e0 := send_fail h0
  rw [e0] at h1 h2
  have e1 := send_fail h1
  rw [e1] at h2
  unfold AW.sends
  rw [e0, e1]
  exact send_fail h2
def AW.sendN (A : AW) : Nat → AW
  | 0 => A
  | q + 1 => ((A.sendN q).send q).2
def AW.busyN (A : AW) : Nat → Bool
  | 0 => false
  | q + 1 => if ((A.sendN q).send q).1 = 0 then true else A.busyN q
theorem sendN3 (A : AW) : A.sendN 3 = A.sends ∧ A.busyN 3 = A.busy := by
  refine ⟨rfl, ?_⟩
  have e0 : ((A.sendN 0).send (0 : Nat)).1 = (A.send 0).1 := rfl
  have e1 : ((A.sendN 1).send (1 : Nat)).1 = ((A.send 0).2.send 1).1 := rfl
  have e2 : ((A.sendN 2).send (2 : Nat)).1 = (((A.send 0).2.send 1).2.send 2).1 := rfl
  unfold AW.busyN AW.busyN AW.busyN AW.busyN AW.busy
  rw [e0, e1, e2]
  by_cases h2 : (((A.send 0).2.send 1).2.send 2).1 = 0
  · rw [if_pos h2, decide_eq_true h2, Bool.or_true]
  · rw [if_neg h2, decide_eq_false h2, Bool.or_false]
    by_cases h1 : ((A.send 0).2.send 1).1 = 0
    · rw [if_pos h1, decide_eq_true h1, Bool.or_true]
    · rw [if_neg h1, decide_eq_false h1, Bool.or_false]
      by_cases h0 : (A.send 0).1 = 0
      · rw [if_pos h0, decide_eq_true h0]
      · rw [if_neg h0, decide_eq_false h0]
set_option maxRecDepth 100000 in
set_option maxHeartbeats 4000000 in
theorem sendAll_any {N : Nat} {w : World} {W : Nat} {o : WOwn} {A : AW} (h : WRep N w W o A) :
    Calls Tryz.prog 58 #[.pointer (some ⟨W, 0, none⟩)] w fun e w' => e = .returned (.bool A.busy) ∧ WTurn N w W o w' A.sends := by
  have H0 := hide (WNow.refl h)
  clear h
  have HB3 : Hid (A.busyN 3 = A.busy ∧ A.sendN 3 = A.sends) := ⟨(sendN3 A).2, (sendN3 A).1⟩
  go_enter Tryz.func58, Tryz.ntmps58
  go_wp2_with fail
  go_loopw [3, 4, 5] (fun s _ i wr => ∃ q : Nat, q ≤ 3 ∧ i = .int .i64 (q : Int) ∧ s = .bool (A.busyN q) ∧ Hid (∃ o1, WNow N w W o wr o1 (A.sendN q))) (fun _ _ i _ => 3 - (intOf i).toNat)
  case atStart => exact ⟨0, Nat.zero_le _, rfl, rfl, o, unhide H0⟩
  case round =>
    obtain ⟨q, hq, rfl, rfl, HR⟩ := hrel
    by_cases hlt : (q : Int) < 3
    · obtain ⟨o1, hw1⟩ := unhide HR
      have HS := hide (wsend_any hw1.rep (q : Int))
      have HW1 := hide hw1
      have HE : Hid (A.busyN (q + 1) = (if ((A.sendN q).send q).1 = 0 then true else A.busyN q) ∧ A.sendN (q + 1) = ((A.sendN q).send q).2) := ⟨rfl, rfl⟩
      generalize A.busyN q = bq at HE ⊢
      generalize A.sendN q = Aq at HS HW1 HE HR hw1
      generalize Aq.send q = R at HS HE
      obtain ⟨r1, A2⟩ := R
      dsimp only at HS HE
      clear hw1 HR
      have HQ := hide hq
      have HLT := hide hlt
      by_cases hr : r1 = 0
      · subst hr
        go_wp2_with fail
        refine (unhide HS).mono ?_
        rintro e w4 ⟨rfl, hT⟩
        obtain ⟨o4, hw4⟩ := (unhide HW1).then hT
        have HW4 := hide hw4
        clear hT hw4
        go_wp2
        go_roundw
        case rel =>
          refine ⟨q + 1, by have := unhide HLT; omega, by go_num, ?_, o4, ?_⟩
          · rw [(unhide HE).1]; simp
          · rw [(unhide HE).2]; exact unhide HW4
        case measure => have := unhide HLT; simp [intOf]; omega
      · have hrb : (r1 == 0) = false := by simpa using hr
        have HE1 : Hid (A.busyN (q + 1) = bq) := by rw [show A.busyN (q + 1) = _ from (unhide HE).1, if_neg hr]; exact rfl
        clear hr
        go_wp2_with fail
        refine (unhide HS).mono ?_
        rintro e w4 ⟨rfl, hT⟩
        obtain ⟨o4, hw4⟩ := (unhide HW1).then hT
        have HW4 := hide hw4
        clear hT hw4
        go_wp2
        go_roundw
        case rel =>
          refine ⟨q + 1, by have := unhide HLT; omega, by go_num, ?_, o4, ?_⟩
          · rw [unhide HE1]
          · rw [(unhide HE).2]; exact unhide HW4
        case measure => have := unhide HLT; simp [intOf]; omega
    · obtain rfl : q = 3 := by omega
      clear hlt hq
      rw [(unhide HB3).2] at HR
      rw [(unhide HB3).1]
      go_wp2
      go_ret
      obtain ⟨o1, hw1⟩ := unhide HR
      exact ⟨rfl, hw1.turn⟩
set_option maxRecDepth 100000 in
set_option maxHeartbeats 4000000 in
theorem Calm_any {N : Nat} {w : World} {W : Nat} {o : WOwn} {A : AW} (h : WRep N w W o A) :
    Calls Tryz.prog 28 #[.pointer (some ⟨W, 0, none⟩)] w fun e w' => e = .returned (.int .i64 (AW.calm 3 A).1) ∧ WTurn N w W o w' (AW.calm 3 A).2 := by
  have H0 := hide (WNow.refl h)
  clear h
  go_enter Tryz.func28, Tryz.ntmps28
  go_wp2_with fail
  go_loopw [3] (fun s wr => ∃ q : Nat, q ≤ 3 ∧ s = .int .i64 (q : Int) ∧ Hid (∃ o1 A1, WNow N w W o wr o1 A1 ∧ AW.calm 3 A = AW.calm (3 - q) A1)) (fun s _ => 3 - (intOf s).toNat)
  case atStart => exact ⟨0, Nat.zero_le _, rfl, o, A, unhide H0, rfl⟩
  case round =>
    obtain ⟨q, hq, rfl, HR⟩ := hrel
    obtain ⟨o1, A1, hw1, hc⟩ := unhide HR
    clear HR
    have HDA := hide (deliverAll_any hw1.rep)
    have HW1 := hide hw1
    have HSA := hide (fun (wx : World) (o2 : WOwn) (hr : WRep N wx W o2 A1.drain) => sendAll_any hr)
    have HC := hide hc
    clear hw1 hc
    by_cases h3 : q = 3
    · subst h3
      clear hq
      have HC2 : Hid (AW.calm 3 A = (3, A1.drain)) := by rw [show AW.calm 3 A = AW.calm (3 - 3) A1 from unhide HC]; exact rfl
      generalize A1.drain = A2 at HDA HC2
      clear HC HSA
      go_wp2_with fail
      refine (unhide HDA).mono ?_
      rintro e w2 ⟨rfl, hT⟩
      obtain ⟨o2, hw2⟩ := (unhide HW1).then hT
      have HF := hide hw2.turn
      clear hT hw2
      go_wp2
      go_ret
      exact ⟨by rw [unhide HC2]; rfl, by rw [unhide HC2]; exact unhide HF⟩
    · obtain ⟨f, hf⟩ : ∃ f, 3 - q = f + 1 := ⟨2 - q, by omega⟩
      have hqf : (q : Int) = 2 - (f : Int) := by omega
      have HC2 : Hid (AW.calm 3 A = if A1.drain.busy = true then AW.calm f A1.drain.sends else (2 - (f : Int), A1.drain)) := by rw [show AW.calm 3 A = AW.calm (3 - q) A1 from unhide HC, hf]; exact rfl
      have hq3 : ((q : Int) == 3) = false := by simp; omega
      have hlt : (q : Int) < 3 := by omega
      have HQ : Hid (q < 3 ∧ (q : Int) = 2 - (f : Int) ∧ 3 - (q + 1) = f) := ⟨by omega, hqf, by omega⟩
      generalize A1.drain = A2 at HDA HC2 HSA
      clear HC hq h3 hf hqf
      cases hb : A2.busy
      · have hid := sends_idle hb
        rw [hb] at HC2 HSA
        rw [hid] at HSA
        rw [if_neg (by simp)] at HC2
        clear hb hid
        go_wp2_with fail
        refine (unhide HDA).mono ?_
        rintro e w2 ⟨rfl, hT⟩
        obtain ⟨o2, hw2⟩ := (unhide HW1).then hT
        have HS2 := hide ((unhide HSA) _ _ hw2.rep)
        have HW2 := hide hw2
        clear hT hw2
        go_wp2_with fail
        refine (unhide HS2).mono ?_
        rintro e w3 ⟨rfl, hT⟩
        obtain ⟨o3, hw3⟩ := (unhide HW2).then hT
        have HF := hide hw3.turn
        clear hT hw3
        have hqf := (unhide HQ).2.1
        have HQF := hide hqf
        clear hqf
        go_wp2
        go_ret
        exact ⟨by rw [unhide HC2, ← unhide HQF]; rfl, by rw [unhide HC2]; exact unhide HF⟩
      · rw [hb] at HC2 HSA
        rw [if_pos rfl] at HC2
        clear hb
        go_wp2_with fail
        refine (unhide HDA).mono ?_
        rintro e w2 ⟨rfl, hT⟩
        obtain ⟨o2, hw2⟩ := (unhide HW1).then hT
        have HS2 := hide ((unhide HSA) _ _ hw2.rep)
        have HW2 := hide hw2
        clear hT hw2
        go_wp2_with fail
        refine (unhide HS2).mono ?_
        rintro e w3 ⟨rfl, hT⟩
        obtain ⟨o3, hw3⟩ := (unhide HW2).then hT
        have HF := hide hw3
        clear hT hw3
        go_wp2
        go_roundw
        case rel =>
          refine ⟨q + 1, by have := (unhide HQ).1; omega, by go_num, o3, _, unhide HF, ?_⟩
          rw [(unhide HQ).2.2]
          exact unhide HC2
        case measure => have := (unhide HQ).1; simp [intOf]; omega
structure HNow (N : Nat) (w : World) (H : Nat) (o : HOwn) (wr : World) (o1 : HOwn) (A1 : AW) : Prop where
  rep : HRep N wr H o1 A1
  nx : Next N w wr (o.all H) (o1.all H)
theorem HNow.refl {N : Nat} {w : World} {H : Nat} {o : HOwn} {A : AW} (h : HRep N w H o A) : HNow N w H o w o A := ⟨h, Next.of_below _ (Below.refl _ _) h.size⟩
theorem HNow.then {N : Nat} {w w1 w2 : World} {H : Nat} {o o1 : HOwn} {A1 A2 : AW} (h : HNow N w H o w1 o1 A1) (hT : HTurn N w1 H o1 w2 A2) : ∃ o2, HNow N w H o w2 o2 A2 := by
  obtain ⟨o2, r2, n2⟩ := hT
  exact ⟨o2, r2, h.nx.trans n2⟩
theorem HNow.turn {N : Nat} {w w1 : World} {H : Nat} {o o1 : HOwn} {A1 : AW} (h : HNow N w H o w1 o1 A1) : HTurn N w H o w1 A1 := ⟨o1, h.rep, h.nx⟩
theorem HNow.below {N : Nat} {w w1 w2 : World} {H : Nat} {o o1 : HOwn} {A1 : AW} (h : HNow N w H o w1 o1 A1) (hb : Below w1.heap.size w1 w2) : HNow N w H o w2 o1 A1 := ⟨h.rep.below hb, h.nx.trans (Next.of_below _ hb h.rep.size)⟩
def hcalm : Nat → AW → Int × AW
  | 0, A => (3, A)
  | f + 1, A => if A.drain.busy = true then hcalm f A.drain.sends else (2 - (f : Int), A.drain)
theorem hcalm_eq : ∀ (f : Nat) (A : AW), (AW.calm f A).1 ≠ 3 → hcalm f A = AW.calm f A
  | 0, A, h => absurd rfl h
  | f + 1, A, h => by
    unfold AW.calm at h ⊢
    unfold hcalm
    split
    · rename_i hb
      rw [if_pos hb] at h
      exact hcalm_eq f _ h
    · rfl
theorem send_len (A : AW) (n : Int) : (A.send n).2.ms.length ≤ A.ms.length + 1 := by
  unfold AW.send
  split
  · simp
  split
  · simp
  split
  · dsimp only; unfold aSend; split <;> simp
  · simp
theorem sendN_len {A : AW} (h : A.ms = []) : ∀ q, (A.sendN q).ms.length ≤ q
  | 0 => by show A.ms.length ≤ 0; rw [h]; simp
  | q + 1 => by
    have h1 := send_len (A.sendN q) q
    have h2 := sendN_len h q
    show ((A.sendN q).send q).2.ms.length ≤ q + 1
    omega
theorem box_below {w1 W2 : World} {C : Array Value} {e : TypeId} {cs : Array Value} (hW2 : W2 = (w1.alloc (.cells C e)).setRow w1.heap.size cs) : Below w1.heap.size w1 W2 := by
  rw [hW2]
  have hb : Below w1.heap.size w1 (w1.alloc (.cells C e)) := (Below.refl _ _).alloc (Nat.le_refl _) _
  exact ⟨hb.os, hb.tape, hb.output, by simp [World.setRow], fun k hk => (setRow_other _ w1.heap.size k _ (by omega)).trans (hb.block k hk)⟩
set_option maxRecDepth 100000 in
set_option maxHeartbeats 4000000 in
theorem HCalm_any {N : Nat} {w : World} {H : Nat} {o : HOwn} {A : AW} (h : HRep N w H o A) :
    Calls Tryz.prog 29 #[.pointer (some ⟨H, 0, none⟩)] w fun e w' => e = .returned (.int .i64 (hcalm 3 A).1) ∧ HTurn N w H o w' (hcalm 3 A).2 := by
  have H0 := hide (HNow.refl h)
  clear h
  go_enter Tryz.func29, Tryz.ntmps29
  go_wp2_with fail
  go_loopw [3, 4, 5, 6, 7, 8, 9] (fun s _ _ _ _ _ _ wr => ∃ q : Nat, q ≤ 3 ∧ s = .int .i64 (q : Int) ∧ Hid (∃ o1 A1, HNow N w H o wr o1 A1 ∧ hcalm 3 A = hcalm (3 - q) A1)) (fun s _ _ _ _ _ _ _ => 3 - (intOf s).toNat)
  case atStart => exact ⟨0, Nat.zero_le _, rfl, o, A, unhide H0, rfl⟩
  case round =>
    obtain ⟨q, hq, rfl, HR⟩ := hrel
    obtain ⟨o1, A1, hw1, hc⟩ := unhide HR
    clear HR
    by_cases h3 : q = 3
    · have HC2 : Hid (hcalm 3 A = (3, A1)) := by subst h3; exact hc
      have HF := hide hw1.turn
      have hge : ¬ (q : Int) < 3 := by omega
      clear hq hw1 hc h3
      go_wp2
      go_ret
      exact ⟨by rw [unhide HC2]; rfl, by rw [unhide HC2]; exact unhide HF⟩
    · obtain ⟨f, hf⟩ : ∃ f, 3 - q = f + 1 := ⟨2 - q, by omega⟩
      have hqf : (q : Int) = 2 - (f : Int) := by omega
      have HC2 : Hid (hcalm 3 A = if A1.drain.busy = true then hcalm f A1.drain.sends else (2 - (f : Int), A1.drain)) := by rw [show hcalm 3 A = hcalm (3 - q) A1 from hc, hf]; exact rfl
      have hlt : (q : Int) < 3 := by omega
      have HQ : Hid (q < 3 ∧ (q : Int) = 2 - (f : Int) ∧ 3 - (q + 1) = f) := ⟨by omega, hqf, by omega⟩
      have HW1 := hide hw1
      clear hc hq h3 hf hqf hw1
      go_wp2_with fail
      clear hlt
      go_loopg [4, 5] (wght A1.ms) (fun k _ _ wr => Hid (∃ j o2, HNow N w H o wr o2 (AW.pops j A1) ∧ wght (AW.pops j A1).ms ≤ k))
      case atStart => exact ⟨0, o1, unhide HW1, Nat.le_refl _⟩
      case round =>
        obtain ⟨j, o2, hw2, hk⟩ := unhide hrel
        clear hrel
        have HD : Hid ((AW.pops j A1).ms = [] → AW.pops j A1 = A1.drain) := fun h => drain_of h
        have HP : Hid (AW.pops (j + 1) A1 = (AW.pops j A1).pop) := pops_succ j A1
        generalize AW.pops j A1 = Aj at *
        have HK := hide hk
        clear hk
        obtain ⟨qa, qcap, hpf⟩ := hw2.rep.bag.form
        have hcp := hw2.rep.bag.can.1
        rw [hpf] at hcp
        by_cases h0 : Aj.ms = []
        · rw [h0] at hcp
          have HW2 : Hid (HNow N w H o wr o2 A1.drain) := by rw [← (unhide HD) h0]; exact hw2
          have hem := drain_empty A1
          have HSN := hide (sendN_len hem)
          have HB3 : Hid (A1.drain.busyN 3 = A1.drain.busy ∧ A1.drain.sendN 3 = A1.drain.sends) := ⟨(sendN3 A1.drain).2, (sendN3 A1.drain).1⟩
          generalize A1.drain = A2 at HW2 HC2 HSN HB3
          dsimp only [List.length_nil] at hcp
          clear HD HP hw2 h0 hpf HK hem HW1
          go_wp2_with fail
          clear hcp
          go_loopw [6, 7, 8, 9] (fun s i _ _ wr => ∃ p : Nat, p ≤ 3 ∧ i = .int .i64 (p : Int) ∧ s = .bool (A2.busyN p) ∧ Hid (∃ o3, HNow N w H o wr o3 (A2.sendN p))) (fun _ i _ _ _ => 3 - (intOf i).toNat)
          case atStart => exact ⟨0, Nat.zero_le _, rfl, rfl, o2, unhide HW2⟩
          case round =>
            obtain ⟨p, hp, rfl, rfl, HR⟩ := hrel
            clear HW2
            by_cases hlt : p < 3
            · obtain ⟨o3, hw3⟩ := unhide HR
              have hlen := (unhide HSN) p
              obtain ⟨Ap, hAp⟩ : ∃ Ap, A2.sendN p = Ap := ⟨_, rfl⟩
              rw [hAp] at hw3 hlen
              clear HR hp
              match p, hlt with
              | 0, _ =>
                have HG : Hid (Calls Tryz.prog 51 #[.pointer (some ⟨H, 1, none⟩)] wr fun e w' => e = .returned (.tuple #[(Ap.cl 0).pkt.val, .bool (Ap.cl 0).op]) ∧ Below wr.heap.size wr w') := GSend_anyH (hw3.rep.guest (n := 0) (by omega))
                have HSM : Hid (SmallP (Ap.cl 0).pkt) := pkt_small (hw3.rep.ok 0 (by omega))
                have HE : Hid (A2.busyN (0 + 1) = (if (Ap.send (0 : Int)).1 = 0 then true else A2.busyN 0) ∧ A2.sendN (0 + 1) = (Ap.send (0 : Int)).2) := by rw [← hAp]; exact ⟨rfl, rfl⟩
                have HSD : Hid (Ap.send (0 : Int) = if (Ap.cl 0).op = false then (6, Ap) else (0, ⟨Ap.log, Ap.cl, aSend Ap.ms (Ap.cl 0).pkt⟩)) := by
                  show Ap.send (0 : Int) = _
                  unfold AW.send
                  rw [if_neg (by omega)]
                  show (if (Ap.cl 0).op = false then (6, Ap) else if Ap.ms.length < 40 then (0, ⟨Ap.log, Ap.cl, aSend Ap.ms (Ap.cl 0).pkt⟩) else (7, Ap)) = _
                  rw [if_pos (show Ap.ms.length < 40 by omega)]
                generalize Ap.send (0 : Int) = SR at HE HSD
                have HLEN : Hid (Ap.ms.length < 40) := by show _ < _; omega
                generalize (Ap.cl 0).pkt = pk0 at HG HSM HSD
                generalize hop : (Ap.cl 0).op = op at HG HSD
                generalize A2.busyN 0 = bq at HE ⊢
                have HW3 := hide hw3
                have HAp := hide hAp
                obtain ⟨pr, pc, pn, ⟨pk, pa, pb, pt⟩, pd, pu⟩ := pk0
                dsimp only [APkt.val] at HG
                clear hw3 hAp hlen hop
                go_wp2_with fail
                refine (unhide HG).mono ?_
                rintro e w5 ⟨rfl, hb5⟩
                have hw5 := (unhide HW3).below hb5
                clear hb5
                have hYV : (w5.alloc (.cells #[.bool false, .int .i64 0, .int .i64 0, .int .i64 0, .string ⟨#[]⟩, .string ⟨#[]⟩, .string ⟨#[]⟩, .int .i64 0, .string ⟨#[]⟩] 92)).heap[w5.heap.size]? = some (.cells #[.bool false, .int .i64 0, .int .i64 0, .int .i64 0, .string ⟨#[]⟩, .string ⟨#[]⟩, .string ⟨#[]⟩, .int .i64 0, .string ⟨#[]⟩] 92 (0, 0)) := heap_alloc_new _ _
                obtain ⟨W2, hW2⟩ : ∃ W2, W2 = (w5.alloc (.cells #[.bool false, .int .i64 0, .int .i64 0, .int .i64 0, .string ⟨#[]⟩, .string ⟨#[]⟩, .string ⟨#[]⟩, .int .i64 0, .string ⟨#[]⟩] 92)).setRow w5.heap.size #[.bool pr, .int .i64 pc, .int .i64 pn, .int .i64 pk, .string pa, .string pb, .string pt, .int .i64 pd, .string pu] := ⟨_, rfl⟩
                have hQ2 : W2.heap[w5.heap.size]? = some (.cells #[.bool pr, .int .i64 pc, .int .i64 pn, .int .i64 pk, .string pa, .string pb, .string pt, .int .i64 pd, .string pu] 92 (0, 0)) := by rw [hW2]; exact setRow_heap _ w5.heap.size _ _ 92 (0, 0) hYV
                have hbW := box_below hW2
                have HW2 := hide hW2
                clear hW2
                have HW6 := hide (hw5.below hbW)
                have hnq := hw5.rep.not_new (Nat.le_refl w5.heap.size)
                have HQ2 := hide hQ2
                clear hw5 hbW hQ2
                cases op
                · have hsr : SR = (6, Ap) := (unhide HSD).trans (if_pos (by trivial))
                  rw [hsr] at HE
                  have HE1 : Hid (A2.busyN (0 + 1) = bq) := (unhide HE).1.trans (if_neg (by simp))
                  have HE2 : Hid (A2.sendN (0 + 1) = Ap) := (unhide HE).2
                  clear hsr HE HSD
                  go_wp2_with (refine wpList_store_row rfl 92 _ _ rfl w5.heap.size #[.bool pr, .int .i64 pc, .int .i64 pn, .int .i64 pk, .string pa, .string pb, .string pt, .int .i64 pd, .string pu] rfl rfl 92 _ hYV infoP rfl (by simp [Value.oneCell']) ?_)
                  rw [← unhide HW2]
                  clear hYV HW2
                  try go_wp2
                  go_roundw
                  case rel => exact ⟨0 + 1, by omega, by go_num, by rw [unhide HE1], o3, by rw [unhide HE2]; exact unhide HW6⟩
                  case measure => simp [intOf]
                · have hsr : SR = (0, ⟨Ap.log, Ap.cl, aSend Ap.ms ⟨pr, pc, pn, ⟨pk, pa, pb, pt⟩, pd, pu⟩⟩) := (unhide HSD).trans (if_neg (by simp))
                  rw [hsr] at HE
                  have HE1 : Hid (A2.busyN (0 + 1) = true) := (unhide HE).1.trans (if_pos rfl)
                  have HE2 : Hid (A2.sendN (0 + 1) = ⟨Ap.log, Ap.cl, aSend Ap.ms ⟨pr, pc, pn, ⟨pk, pa, pb, pt⟩, pd, pu⟩⟩) := (unhide HE).2
                  clear hsr HE HSD
                  have hbd := below_drew W2
                  have hw7 := (unhide HW6).below hbd
                  have HPS := hide (BSend_anyH hw7.rep.bag ⟨pr, pc, pn, ⟨pk, pa, pb, pt⟩, pd, pu⟩ (unhide HSM))
                  have HPT := hide (fun w' (hT : PTurnH (FP o3 Ap) 42 N W2.drew H o3.pv w' (aSend Ap.ms ⟨pr, pc, pn, ⟨pk, pa, pb, pt⟩, pd, pu⟩)) => hw7.then (hw7.rep.turnP hT))
                  have HKQ : Hid (w5.heap.size ∉ powns H o3.pv) := fun hm => hnq (by
                    rcases List.mem_cons.1 hm with e | e
                    · exact HOwn.mem_all.2 (.inl e)
                    · exact HOwn.mem_all.2 (.inr ⟨4, by omega, by show o3.pv.ownBlock = _; simpa using e⟩))
                  have hlQ : w5.heap.size < W2.heap.size := (Array.getElem?_eq_some_iff.1 (unhide HQ2)).1
                  dsimp only [APkt.val] at HPS
                  generalize o3.pv = pv at HPS HPT HKQ
                  clear hbd hw7
                  go_wp2_with (refine wpList_store_row rfl 92 _ _ rfl w5.heap.size #[.bool pr, .int .i64 pc, .int .i64 pn, .int .i64 pk, .string pa, .string pb, .string pt, .int .i64 pd, .string pu] rfl rfl 92 _ hYV infoP rfl (by simp [Value.oneCell']) ?_)
                  rw [← unhide HW2]
                  clear hYV HW2
                  try go_wp2_with fail
                  refine wp_region_held_drew (S := (fun wx => wx.heap[w5.heap.size]? = W2.heap[w5.heap.size]?)) (by kernel_rfl) (rfl) (fun hHeld => ?_)
                  refine tkH ?_ opn0 (fun _ _ _ h => h) hHeld ?_ ?_
                  rotate_left 1
                  · intro wz hSw; (try dsimp only at hSw); go_simp; all_goals with_reducible rfl
                  try simp only [pS]
                  refine tkH ?_ opn1 (fun _ _ _ h => h) hHeld ?_ ?_
                  rotate_left 1
                  · intro wz hSw; (try dsimp only at hSw); go_simp; all_goals with_reducible rfl
                  try simp only [pS]
                  refine tkH ?_ opn2 (fun _ _ _ h => h) hHeld ?_ ?_
                  rotate_left 1
                  · intro wz hSw; (try dsimp only at hSw); go_simp; all_goals with_reducible rfl
                  try simp only [pS]
                  refine tkH ?_ opn3 (fun _ _ _ h => h) hHeld ?_ ?_
                  rotate_left 1
                  · intro wz hSw; (try dsimp only at hSw)
                    obtain ⟨⟨x0, x1, x2, x3⟩, ⟨x4, x5, x6, x7, x8⟩, xf⟩ := nine (hSw.trans (unhide HQ2))
                    go_simp; all_goals with_reducible rfl
                  try simp only [pS]
                  refine wpAnyH_ready (rs := [4]) (by kernel_rfl) (by simp) ?_
                  refine AllReadyH.cons opn4 (fun K hK => ?_) AllReadyH.nil
                  rw [if_pos (by kernel_rfl)]
                  go_simp
                  refine (unhide HPS).mono ?_
                  rintro e w8 ⟨rfl, hT⟩
                  have hk2 : w8.heap[w5.heap.size]? = W2.heap[w5.heap.size]? := hT.same hlQ (unhide HKQ)
                  obtain ⟨o8, hw8⟩ := (unhide HPT) _ hT
                  have HW8 := hide hw8
                  clear hT hw8
                  refine hK.out _ _ (hk2) (fun hHeldN => ?_)
                  clear hHeld hK K; have hHeld := hHeldN; clear hHeldN
                  try simp only [pS]
                  clear hk2
                  refine wpAnyH_done (by kernel_rfl) ?_ _
                  clear hHeld
                  go_wp2
                  go_roundw
                  case rel => exact ⟨0 + 1, by omega, by go_num, by rw [unhide HE1], o8, by rw [unhide HE2]; exact unhide HW8⟩
                  case measure => simp [intOf]
              | 1, _ =>
                have HG : Hid (Calls Tryz.prog 51 #[.pointer (some ⟨H, 9, none⟩)] wr fun e w' => e = .returned (.tuple #[(Ap.cl 1).pkt.val, .bool (Ap.cl 1).op]) ∧ Below wr.heap.size wr w') := GSend_anyH (hw3.rep.guest (n := 1) (by omega))
                have HSM : Hid (SmallP (Ap.cl 1).pkt) := pkt_small (hw3.rep.ok 1 (by omega))
                have HE : Hid (A2.busyN (1 + 1) = (if (Ap.send (1 : Int)).1 = 0 then true else A2.busyN 1) ∧ A2.sendN (1 + 1) = (Ap.send (1 : Int)).2) := by rw [← hAp]; exact ⟨rfl, rfl⟩
                have HSD : Hid (Ap.send (1 : Int) = if (Ap.cl 1).op = false then (6, Ap) else (0, ⟨Ap.log, Ap.cl, aSend Ap.ms (Ap.cl 1).pkt⟩)) := by
                  show Ap.send (1 : Int) = _
                  unfold AW.send
                  rw [if_neg (by omega)]
                  show (if (Ap.cl 1).op = false then (6, Ap) else if Ap.ms.length < 40 then (0, ⟨Ap.log, Ap.cl, aSend Ap.ms (Ap.cl 1).pkt⟩) else (7, Ap)) = _
                  rw [if_pos (show Ap.ms.length < 40 by omega)]
                generalize Ap.send (1 : Int) = SR at HE HSD
                have HLEN : Hid (Ap.ms.length < 40) := by show _ < _; omega
                generalize (Ap.cl 1).pkt = pk0 at HG HSM HSD
                generalize hop : (Ap.cl 1).op = op at HG HSD
                generalize A2.busyN 1 = bq at HE ⊢
                have HW3 := hide hw3
                have HAp := hide hAp
                obtain ⟨pr, pc, pn, ⟨pk, pa, pb, pt⟩, pd, pu⟩ := pk0
                dsimp only [APkt.val] at HG
                clear hw3 hAp hlen hop
                go_wp2_with fail
                refine (unhide HG).mono ?_
                rintro e w5 ⟨rfl, hb5⟩
                have hw5 := (unhide HW3).below hb5
                clear hb5
                have hYV : (w5.alloc (.cells #[.bool false, .int .i64 0, .int .i64 0, .int .i64 0, .string ⟨#[]⟩, .string ⟨#[]⟩, .string ⟨#[]⟩, .int .i64 0, .string ⟨#[]⟩] 92)).heap[w5.heap.size]? = some (.cells #[.bool false, .int .i64 0, .int .i64 0, .int .i64 0, .string ⟨#[]⟩, .string ⟨#[]⟩, .string ⟨#[]⟩, .int .i64 0, .string ⟨#[]⟩] 92 (0, 0)) := heap_alloc_new _ _
                obtain ⟨W2, hW2⟩ : ∃ W2, W2 = (w5.alloc (.cells #[.bool false, .int .i64 0, .int .i64 0, .int .i64 0, .string ⟨#[]⟩, .string ⟨#[]⟩, .string ⟨#[]⟩, .int .i64 0, .string ⟨#[]⟩] 92)).setRow w5.heap.size #[.bool pr, .int .i64 pc, .int .i64 pn, .int .i64 pk, .string pa, .string pb, .string pt, .int .i64 pd, .string pu] := ⟨_, rfl⟩
                have hQ2 : W2.heap[w5.heap.size]? = some (.cells #[.bool pr, .int .i64 pc, .int .i64 pn, .int .i64 pk, .string pa, .string pb, .string pt, .int .i64 pd, .string pu] 92 (0, 0)) := by rw [hW2]; exact setRow_heap _ w5.heap.size _ _ 92 (0, 0) hYV
                have hbW := box_below hW2
                have HW2 := hide hW2
                clear hW2
                have HW6 := hide (hw5.below hbW)
                have hnq := hw5.rep.not_new (Nat.le_refl w5.heap.size)
                have HQ2 := hide hQ2
                clear hw5 hbW hQ2
                cases op
                · have hsr : SR = (6, Ap) := (unhide HSD).trans (if_pos (by trivial))
                  rw [hsr] at HE
                  have HE1 : Hid (A2.busyN (1 + 1) = bq) := (unhide HE).1.trans (if_neg (by simp))
                  have HE2 : Hid (A2.sendN (1 + 1) = Ap) := (unhide HE).2
                  clear hsr HE HSD
                  go_wp2_with (refine wpList_store_row rfl 92 _ _ rfl w5.heap.size #[.bool pr, .int .i64 pc, .int .i64 pn, .int .i64 pk, .string pa, .string pb, .string pt, .int .i64 pd, .string pu] rfl rfl 92 _ hYV infoP rfl (by simp [Value.oneCell']) ?_)
                  rw [← unhide HW2]
                  clear hYV HW2
                  try go_wp2
                  go_roundw
                  case rel => exact ⟨1 + 1, by omega, by go_num, by rw [unhide HE1], o3, by rw [unhide HE2]; exact unhide HW6⟩
                  case measure => simp [intOf]
                · have hsr : SR = (0, ⟨Ap.log, Ap.cl, aSend Ap.ms ⟨pr, pc, pn, ⟨pk, pa, pb, pt⟩, pd, pu⟩⟩) := (unhide HSD).trans (if_neg (by simp))
                  rw [hsr] at HE
                  have HE1 : Hid (A2.busyN (1 + 1) = true) := (unhide HE).1.trans (if_pos rfl)
                  have HE2 : Hid (A2.sendN (1 + 1) = ⟨Ap.log, Ap.cl, aSend Ap.ms ⟨pr, pc, pn, ⟨pk, pa, pb, pt⟩, pd, pu⟩⟩) := (unhide HE).2
                  clear hsr HE HSD
                  have hbd := below_drew W2
                  have hw7 := (unhide HW6).below hbd
                  have HPS := hide (BSend_anyH hw7.rep.bag ⟨pr, pc, pn, ⟨pk, pa, pb, pt⟩, pd, pu⟩ (unhide HSM))
                  have HPT := hide (fun w' (hT : PTurnH (FP o3 Ap) 42 N W2.drew H o3.pv w' (aSend Ap.ms ⟨pr, pc, pn, ⟨pk, pa, pb, pt⟩, pd, pu⟩)) => hw7.then (hw7.rep.turnP hT))
                  have HKQ : Hid (w5.heap.size ∉ powns H o3.pv) := fun hm => hnq (by
                    rcases List.mem_cons.1 hm with e | e
                    · exact HOwn.mem_all.2 (.inl e)
                    · exact HOwn.mem_all.2 (.inr ⟨4, by omega, by show o3.pv.ownBlock = _; simpa using e⟩))
                  have hlQ : w5.heap.size < W2.heap.size := (Array.getElem?_eq_some_iff.1 (unhide HQ2)).1
                  dsimp only [APkt.val] at HPS
                  generalize o3.pv = pv at HPS HPT HKQ
                  clear hbd hw7
                  go_wp2_with (refine wpList_store_row rfl 92 _ _ rfl w5.heap.size #[.bool pr, .int .i64 pc, .int .i64 pn, .int .i64 pk, .string pa, .string pb, .string pt, .int .i64 pd, .string pu] rfl rfl 92 _ hYV infoP rfl (by simp [Value.oneCell']) ?_)
                  rw [← unhide HW2]
                  clear hYV HW2
                  try go_wp2_with fail
                  refine wp_region_held_drew (S := (fun wx => wx.heap[w5.heap.size]? = W2.heap[w5.heap.size]?)) (by kernel_rfl) (rfl) (fun hHeld => ?_)
                  refine tkH ?_ opn0 (fun _ _ _ h => h) hHeld ?_ ?_
                  rotate_left 1
                  · intro wz hSw; (try dsimp only at hSw); go_simp; all_goals with_reducible rfl
                  try simp only [pS]
                  refine tkH ?_ opn1 (fun _ _ _ h => h) hHeld ?_ ?_
                  rotate_left 1
                  · intro wz hSw; (try dsimp only at hSw); go_simp; all_goals with_reducible rfl
                  try simp only [pS]
                  refine tkH ?_ opn2 (fun _ _ _ h => h) hHeld ?_ ?_
                  rotate_left 1
                  · intro wz hSw; (try dsimp only at hSw); go_simp; all_goals with_reducible rfl
                  try simp only [pS]
                  refine tkH ?_ opn3 (fun _ _ _ h => h) hHeld ?_ ?_
                  rotate_left 1
                  · intro wz hSw; (try dsimp only at hSw)
                    obtain ⟨⟨x0, x1, x2, x3⟩, ⟨x4, x5, x6, x7, x8⟩, xf⟩ := nine (hSw.trans (unhide HQ2))
                    go_simp; all_goals with_reducible rfl
                  try simp only [pS]
                  refine wpAnyH_ready (rs := [4]) (by kernel_rfl) (by simp) ?_
                  refine AllReadyH.cons opn4 (fun K hK => ?_) AllReadyH.nil
                  rw [if_pos (by kernel_rfl)]
                  go_simp
                  refine (unhide HPS).mono ?_
                  rintro e w8 ⟨rfl, hT⟩
                  have hk2 : w8.heap[w5.heap.size]? = W2.heap[w5.heap.size]? := hT.same hlQ (unhide HKQ)
                  obtain ⟨o8, hw8⟩ := (unhide HPT) _ hT
                  have HW8 := hide hw8
                  clear hT hw8
                  refine hK.out _ _ (hk2) (fun hHeldN => ?_)
                  clear hHeld hK K; have hHeld := hHeldN; clear hHeldN
                  try simp only [pS]
                  clear hk2
                  refine wpAnyH_done (by kernel_rfl) ?_ _
                  clear hHeld
                  go_wp2
                  go_roundw
                  case rel => exact ⟨1 + 1, by omega, by go_num, by rw [unhide HE1], o8, by rw [unhide HE2]; exact unhide HW8⟩
                  case measure => simp [intOf]
              | 2, _ =>
                have HG : Hid (Calls Tryz.prog 51 #[.pointer (some ⟨H, 17, none⟩)] wr fun e w' => e = .returned (.tuple #[(Ap.cl 2).pkt.val, .bool (Ap.cl 2).op]) ∧ Below wr.heap.size wr w') := GSend_anyH (hw3.rep.guest (n := 2) (by omega))
                have HSM : Hid (SmallP (Ap.cl 2).pkt) := pkt_small (hw3.rep.ok 2 (by omega))
                have HE : Hid (A2.busyN (2 + 1) = (if (Ap.send (2 : Int)).1 = 0 then true else A2.busyN 2) ∧ A2.sendN (2 + 1) = (Ap.send (2 : Int)).2) := by rw [← hAp]; exact ⟨rfl, rfl⟩
                have HSD : Hid (Ap.send (2 : Int) = if (Ap.cl 2).op = false then (6, Ap) else (0, ⟨Ap.log, Ap.cl, aSend Ap.ms (Ap.cl 2).pkt⟩)) := by
                  show Ap.send (2 : Int) = _
                  unfold AW.send
                  rw [if_neg (by omega)]
                  show (if (Ap.cl 2).op = false then (6, Ap) else if Ap.ms.length < 40 then (0, ⟨Ap.log, Ap.cl, aSend Ap.ms (Ap.cl 2).pkt⟩) else (7, Ap)) = _
                  rw [if_pos (show Ap.ms.length < 40 by omega)]
                generalize Ap.send (2 : Int) = SR at HE HSD
                have HLEN : Hid (Ap.ms.length < 40) := by show _ < _; omega
                generalize (Ap.cl 2).pkt = pk0 at HG HSM HSD
                generalize hop : (Ap.cl 2).op = op at HG HSD
                generalize A2.busyN 2 = bq at HE ⊢
                have HW3 := hide hw3
                have HAp := hide hAp
                obtain ⟨pr, pc, pn, ⟨pk, pa, pb, pt⟩, pd, pu⟩ := pk0
                dsimp only [APkt.val] at HG
                clear hw3 hAp hlen hop
                go_wp2_with fail
                refine (unhide HG).mono ?_
                rintro e w5 ⟨rfl, hb5⟩
                have hw5 := (unhide HW3).below hb5
                clear hb5
                have hYV : (w5.alloc (.cells #[.bool false, .int .i64 0, .int .i64 0, .int .i64 0, .string ⟨#[]⟩, .string ⟨#[]⟩, .string ⟨#[]⟩, .int .i64 0, .string ⟨#[]⟩] 92)).heap[w5.heap.size]? = some (.cells #[.bool false, .int .i64 0, .int .i64 0, .int .i64 0, .string ⟨#[]⟩, .string ⟨#[]⟩, .string ⟨#[]⟩, .int .i64 0, .string ⟨#[]⟩] 92 (0, 0)) := heap_alloc_new _ _
                obtain ⟨W2, hW2⟩ : ∃ W2, W2 = (w5.alloc (.cells #[.bool false, .int .i64 0, .int .i64 0, .int .i64 0, .string ⟨#[]⟩, .string ⟨#[]⟩, .string ⟨#[]⟩, .int .i64 0, .string ⟨#[]⟩] 92)).setRow w5.heap.size #[.bool pr, .int .i64 pc, .int .i64 pn, .int .i64 pk, .string pa, .string pb, .string pt, .int .i64 pd, .string pu] := ⟨_, rfl⟩
                have hQ2 : W2.heap[w5.heap.size]? = some (.cells #[.bool pr, .int .i64 pc, .int .i64 pn, .int .i64 pk, .string pa, .string pb, .string pt, .int .i64 pd, .string pu] 92 (0, 0)) := by rw [hW2]; exact setRow_heap _ w5.heap.size _ _ 92 (0, 0) hYV
                have hbW := box_below hW2
                have HW2 := hide hW2
                clear hW2
                have HW6 := hide (hw5.below hbW)
                have hnq := hw5.rep.not_new (Nat.le_refl w5.heap.size)
                have HQ2 := hide hQ2
                clear hw5 hbW hQ2
                cases op
                · have hsr : SR = (6, Ap) := (unhide HSD).trans (if_pos (by trivial))
                  rw [hsr] at HE
                  have HE1 : Hid (A2.busyN (2 + 1) = bq) := (unhide HE).1.trans (if_neg (by simp))
                  have HE2 : Hid (A2.sendN (2 + 1) = Ap) := (unhide HE).2
                  clear hsr HE HSD
                  go_wp2_with (refine wpList_store_row rfl 92 _ _ rfl w5.heap.size #[.bool pr, .int .i64 pc, .int .i64 pn, .int .i64 pk, .string pa, .string pb, .string pt, .int .i64 pd, .string pu] rfl rfl 92 _ hYV infoP rfl (by simp [Value.oneCell']) ?_)
                  rw [← unhide HW2]
                  clear hYV HW2
                  try go_wp2
                  go_roundw
                  case rel => exact ⟨2 + 1, by omega, by go_num, by rw [unhide HE1], o3, by rw [unhide HE2]; exact unhide HW6⟩
                  case measure => simp [intOf]
                · have hsr : SR = (0, ⟨Ap.log, Ap.cl, aSend Ap.ms ⟨pr, pc, pn, ⟨pk, pa, pb, pt⟩, pd, pu⟩⟩) := (unhide HSD).trans (if_neg (by simp))
                  rw [hsr] at HE
                  have HE1 : Hid (A2.busyN (2 + 1) = true) := (unhide HE).1.trans (if_pos rfl)
                  have HE2 : Hid (A2.sendN (2 + 1) = ⟨Ap.log, Ap.cl, aSend Ap.ms ⟨pr, pc, pn, ⟨pk, pa, pb, pt⟩, pd, pu⟩⟩) := (unhide HE).2
                  clear hsr HE HSD
                  have hbd := below_drew W2
                  have hw7 := (unhide HW6).below hbd
                  have HPS := hide (BSend_anyH hw7.rep.bag ⟨pr, pc, pn, ⟨pk, pa, pb, pt⟩, pd, pu⟩ (unhide HSM))
                  have HPT := hide (fun w' (hT : PTurnH (FP o3 Ap) 42 N W2.drew H o3.pv w' (aSend Ap.ms ⟨pr, pc, pn, ⟨pk, pa, pb, pt⟩, pd, pu⟩)) => hw7.then (hw7.rep.turnP hT))
                  have HKQ : Hid (w5.heap.size ∉ powns H o3.pv) := fun hm => hnq (by
                    rcases List.mem_cons.1 hm with e | e
                    · exact HOwn.mem_all.2 (.inl e)
                    · exact HOwn.mem_all.2 (.inr ⟨4, by omega, by show o3.pv.ownBlock = _; simpa using e⟩))
                  have hlQ : w5.heap.size < W2.heap.size := (Array.getElem?_eq_some_iff.1 (unhide HQ2)).1
                  dsimp only [APkt.val] at HPS
                  generalize o3.pv = pv at HPS HPT HKQ
                  clear hbd hw7
                  go_wp2_with (refine wpList_store_row rfl 92 _ _ rfl w5.heap.size #[.bool pr, .int .i64 pc, .int .i64 pn, .int .i64 pk, .string pa, .string pb, .string pt, .int .i64 pd, .string pu] rfl rfl 92 _ hYV infoP rfl (by simp [Value.oneCell']) ?_)
                  rw [← unhide HW2]
                  clear hYV HW2
                  try go_wp2_with fail
                  refine wp_region_held_drew (S := (fun wx => wx.heap[w5.heap.size]? = W2.heap[w5.heap.size]?)) (by kernel_rfl) (rfl) (fun hHeld => ?_)
                  refine tkH ?_ opn0 (fun _ _ _ h => h) hHeld ?_ ?_
                  rotate_left 1
                  · intro wz hSw; (try dsimp only at hSw); go_simp; all_goals with_reducible rfl
                  try simp only [pS]
                  refine tkH ?_ opn1 (fun _ _ _ h => h) hHeld ?_ ?_
                  rotate_left 1
                  · intro wz hSw; (try dsimp only at hSw); go_simp; all_goals with_reducible rfl
                  try simp only [pS]
                  refine tkH ?_ opn2 (fun _ _ _ h => h) hHeld ?_ ?_
                  rotate_left 1
                  · intro wz hSw; (try dsimp only at hSw); go_simp; all_goals with_reducible rfl
                  try simp only [pS]
                  refine tkH ?_ opn3 (fun _ _ _ h => h) hHeld ?_ ?_
                  rotate_left 1
                  · intro wz hSw; (try dsimp only at hSw)
                    obtain ⟨⟨x0, x1, x2, x3⟩, ⟨x4, x5, x6, x7, x8⟩, xf⟩ := nine (hSw.trans (unhide HQ2))
                    go_simp; all_goals with_reducible rfl
                  try simp only [pS]
                  refine wpAnyH_ready (rs := [4]) (by kernel_rfl) (by simp) ?_
                  refine AllReadyH.cons opn4 (fun K hK => ?_) AllReadyH.nil
                  rw [if_pos (by kernel_rfl)]
                  go_simp
                  refine (unhide HPS).mono ?_
                  rintro e w8 ⟨rfl, hT⟩
                  have hk2 : w8.heap[w5.heap.size]? = W2.heap[w5.heap.size]? := hT.same hlQ (unhide HKQ)
                  obtain ⟨o8, hw8⟩ := (unhide HPT) _ hT
                  have HW8 := hide hw8
                  clear hT hw8
                  refine hK.out _ _ (hk2) (fun hHeldN => ?_)
                  clear hHeld hK K; have hHeld := hHeldN; clear hHeldN
                  try simp only [pS]
                  clear hk2
                  refine wpAnyH_done (by kernel_rfl) ?_ _
                  clear hHeld
                  go_wp2
                  go_roundw
                  case rel => exact ⟨2 + 1, by omega, by go_num, by rw [unhide HE1], o8, by rw [unhide HE2]; exact unhide HW8⟩
                  case measure => simp [intOf]
            · obtain rfl : p = 3 := by omega
              clear hlt hp
              rw [(unhide HB3).2] at HR
              rw [(unhide HB3).1]
              obtain ⟨o3, hw3⟩ := unhide HR
              have HW3 := hide hw3
              clear hw3 HR HB3 HSN
              cases hb : A2.busy
              · have hid := sends_idle hb
                rw [hb] at HC2
                rw [hid] at HW3
                have HC3 : Hid (hcalm 3 A = (2 - (f : Int), A2)) := (unhide HC2).trans (if_neg (by simp))
                have HF := hide (unhide HW3).turn
                have HQF := hide (unhide HQ).2.1
                clear hid hb HC2 HW3
                go_wp2
                go_ret
                exact ⟨by rw [unhide HC3, ← unhide HQF]; rfl, by rw [unhide HC3]; exact unhide HF⟩
              · rw [hb] at HC2
                have HC3 : Hid (hcalm 3 A = hcalm f A2.sends) := (unhide HC2).trans (if_pos rfl)
                clear hb HC2
                have hq3 := (unhide HQ).1
                have hlt : (q : Int) < 3 := by omega
                go_wp2
                go_roundw
                case rel =>
                  refine ⟨q + 1, by have := (unhide HQ).1; omega, by go_num, o3, _, unhide HW3, ?_⟩
                  rw [(unhide HQ).2.2]
                  exact unhide HC3
                case measure => have := (unhide HQ).1; simp [intOf]; omega
        · have hl : Aj.ms.length ≠ 0 := fun e => h0 (List.length_eq_zero_iff.1 e)
          have e4 : aTakeB Aj.ms = true := decide_eq_true (by omega)
          have HTK := hide (BTake_anyH hw2.rep.bag 0)
          rw [e4] at HTK
          have HTP := hide (fun w1 (hT : PTurnH (FP o2 Aj) 42 N wr H o2.pv w1 (aTakeL Aj.ms 0)) => hw2.then (hw2.rep.turnP hT))
          have HSM : Hid (SmallP (aTakeM Aj.ms 0)) := hw2.rep.small _ (takeM_mem 0 hl)
          have hpo : Aj.pop = (Aj.took 0).come (aTakeM Aj.ms 0) := by unfold AW.pop; rw [if_neg hl]
          have HW : Hid (wght Aj.pop.ms < wght Aj.ms) := pop_wght hl
          rw [hpo] at HW HP
          have HAT : Hid (Aj.took 0 = ⟨Aj.log, Aj.cl, aTakeL Aj.ms 0⟩) := rfl
          generalize aTakeM Aj.ms 0 = p at HTK HSM HW HP
          generalize aTakeL Aj.ms 0 = ms' at HTK HTP HAT
          rw [← unhide HAT] at HTP
          generalize Aj.took 0 = A2 at HTP HP HW
          obtain ⟨ln, hln⟩ : ∃ ln, Aj.ms.length = ln := ⟨_, rfl⟩
          rw [hln] at hcp hl
          have hl0 : (0 : Int) < (ln : Int) := by omega
          generalize o2.pv = pv at HTK HTP hpf
          obtain ⟨pr, pc, pn, ⟨pk, pa, pb, pt⟩, pd, pu⟩ := p
          dsimp only [APkt.val] at HTK
          clear hpo hl e4 h0 hw2 HD HAT hpf hln HW1
          go_wp2_with fail
          clear hcp hl0
          refine (unhide HTK).mono ?_
          rintro e w5 ⟨rfl, hT⟩
          obtain ⟨o5, hw5⟩ := (unhide HTP) _ hT
          clear hT
          have hYV : (w5.alloc (.cells #[.bool false, .int .i64 0, .int .i64 0, .int .i64 0, .string ⟨#[]⟩, .string ⟨#[]⟩, .string ⟨#[]⟩, .int .i64 0, .string ⟨#[]⟩] 92)).heap[w5.heap.size]? = some (.cells #[.bool false, .int .i64 0, .int .i64 0, .int .i64 0, .string ⟨#[]⟩, .string ⟨#[]⟩, .string ⟨#[]⟩, .int .i64 0, .string ⟨#[]⟩] 92 (0, 0)) := heap_alloc_new _ _
          obtain ⟨W2, hW2⟩ : ∃ W2, W2 = (w5.alloc (.cells #[.bool false, .int .i64 0, .int .i64 0, .int .i64 0, .string ⟨#[]⟩, .string ⟨#[]⟩, .string ⟨#[]⟩, .int .i64 0, .string ⟨#[]⟩] 92)).setRow w5.heap.size #[.bool pr, .int .i64 pc, .int .i64 pn, .int .i64 pk, .string pa, .string pb, .string pt, .int .i64 pd, .string pu] := ⟨_, rfl⟩
          have hQ2 : W2.heap[w5.heap.size]? = some (.cells #[.bool pr, .int .i64 pc, .int .i64 pn, .int .i64 pk, .string pa, .string pb, .string pt, .int .i64 pd, .string pu] 92 (0, 0)) := by rw [hW2]; exact setRow_heap _ w5.heap.size _ _ 92 (0, 0) hYV
          have hbW := box_below hW2
          have HW2 := hide hW2
          clear hW2
          have hw6 := hw5.below hbW
          have HD3 := hide (hcome_any hw6.rep ⟨pr, pc, pn, ⟨pk, pa, pb, pt⟩, pd, pu⟩ (unhide HSM))
          dsimp only [APkt.val] at HD3
          have HW6 := hide hw6
          rw [unhide HW2] at hQ2
          obtain ⟨⟨q0, q1, q2, q3⟩, ⟨q4, q5, q6, q7, q8⟩, qf⟩ := nine hQ2
          clear hw5 hbW hw6 hQ2
          go_wp2_with (refine wpList_store_row rfl 92 _ _ rfl w5.heap.size #[.bool pr, .int .i64 pc, .int .i64 pn, .int .i64 pk, .string pa, .string pb, .string pt, .int .i64 pd, .string pu] rfl rfl 92 _ hYV infoP rfl (by simp [Value.oneCell']) ?_)
          rw [← unhide HW2]
          clear hYV HW2
          refine (unhide HD3).mono ?_
          rintro e w8 ⟨rfl, hT⟩
          obtain ⟨o8, hw8⟩ := (unhide HW6).then hT
          have HW8 := hide hw8
          clear hT hw8 q0 q1 q2 q3 q4 q5 q6 q7 q8 qf
          go_wp2
          go_roundg (wght (A2.come ⟨pr, pc, pn, ⟨pk, pa, pb, pt⟩, pd, pu⟩).ms)
          case measure => exact Nat.lt_of_lt_of_le (unhide HW) (unhide HK)
          case rel => exact ⟨j + 1, o8, by rw [unhide HP]; exact unhide HW8, by rw [unhide HP]; exact Nat.le_refl _⟩
def nme (n q : Nat) : Int := if n < q then (n : Int) else 0
structure NHSt (V : World) (H q : Nat) (wr : World) : Prop where
  blk : wr.heap[H]? = some (.cells #[.slice none 0 0, .int .i64 (nme 0 q), .int .i64 0, .int .i64 0, .string ⟨#[]⟩, .string ⟨#[]⟩, .string ⟨#[]⟩, .bool false, .slice none 0 0, .int .i64 (nme 1 q), .int .i64 0, .int .i64 0, .string ⟨#[]⟩, .string ⟨#[]⟩, .string ⟨#[]⟩, .bool false, .slice none 0 0, .int .i64 (nme 2 q), .int .i64 0, .int .i64 0, .string ⟨#[]⟩, .string ⟨#[]⟩, .string ⟨#[]⟩, .bool false, .slice none 0 0, .slice none 0 0] 42 (0, 0))
  kp : Kept [H] V wr
def hown0 : HOwn := ⟨.slice none 0 0, fun _ => .slice none 0 0, fun _ => zeroCall, .slice none 0 0⟩
theorem NHSt.done {N : Nat} {V wr : World} {H : Nat} (hN : N ≤ H) (h : NHSt V H 3 wr) : HRep N wr H hown0 AW.start := by
  have hb := h.blk
  have hno : ∀ i b, ¬ (hown0.val i).ownBlock = some b := fun i b => by
    unfold HOwn.val hown0
    split
    · simp [Value.ownBlock]
    split
    · simp [Value.ownBlock]
    · simp [Value.ownBlock]
  refine ⟨hN, hb, World.ownsRow_nil _ _ _ _, fun n hn => World.ownsRow_nil _ _ _ _, World.ownsRow_nil _ _ _ _, fun n hn => COk.start n, fun n hn e => by simp [AW.start] at e, by simp [AW.start], by simp [AW.start], fun i j hi hj hij b e => absurd e (hno i b), fun i hi => hno i H, Good.nil, by simp [AW.start, logB]⟩
set_option maxRecDepth 100000 in
set_option maxHeartbeats 4000000 in
theorem NewHouse_any (N : Nat) (w : World) (hN : N ≤ w.heap.size) :
    Calls Tryz.prog 12 #[] w fun e w' => e = .returned (.pointer (some ⟨w.heap.size, 0, none⟩)) ∧ HRep N w' w.heap.size hown0 AW.start ∧ Below w.heap.size w w' := by
  obtain ⟨H, hH⟩ : ∃ H, H = w.heap.size := ⟨_, rfl⟩
  obtain ⟨V, hV⟩ : ∃ V, V = w.alloc (.cells #[.slice none 0 0, .int .i64 0, .int .i64 0, .int .i64 0, .string ⟨#[]⟩, .string ⟨#[]⟩, .string ⟨#[]⟩, .bool false, .slice none 0 0, .int .i64 0, .int .i64 0, .int .i64 0, .string ⟨#[]⟩, .string ⟨#[]⟩, .string ⟨#[]⟩, .bool false, .slice none 0 0, .int .i64 0, .int .i64 0, .int .i64 0, .string ⟨#[]⟩, .string ⟨#[]⟩, .string ⟨#[]⟩, .bool false, .slice none 0 0, .slice none 0 0] 42) := ⟨_, rfl⟩
  have hBV : Below w.heap.size w V := by rw [hV]; exact (Below.refl _ _).alloc (Nat.le_refl _) _
  have H0 : Hid (NHSt V H 0 V) := ⟨by rw [hV, hH]; exact heap_alloc_new _ _, Kept.refl _ _⟩
  have HV := hide hV
  have HBV := hide hBV
  have HH := hide hH
  clear hV hBV
  go_enter Tryz.func12, Tryz.ntmps12
  go_wp2_with fail
  rw [← unhide HV, ← hH]
  clear hH
  go_loopw [2] (fun i wr => ∃ q : Nat, q ≤ 3 ∧ i = .int .i64 (q : Int) ∧ Hid (NHSt V H q wr)) (fun i _ => 3 - (intOf i).toNat)
  case atStart => exact ⟨0, Nat.zero_le _, rfl, unhide H0⟩
  case round =>
    obtain ⟨q, hq, rfl, HR⟩ := hrel
    have hfz : ∀ j, wr.frozen? ⟨H, j, none⟩ = false := fun j => frozen_of_row wr H j _ _ (unhide HR).blk
    by_cases h3 : q = 3
    · subst h3
      have HF : Hid (HRep N wr H hown0 AW.start ∧ Below w.heap.size w wr) := ⟨(unhide HR).done (by rw [unhide HH]; exact hN), (unhide HBV).trans ((unhide HR).kp.below (unhide HBV).size (by intro k hk; simp at hk; rw [hk, unhide HH]; exact Nat.le_refl _))⟩
      have hge : ¬ (3 : Int) < 3 := by omega
      clear hq HR hfz
      go_wp2
      go_ret
      exact ⟨by first | rfl | (rw [unhide HH]; rfl), by rw [← unhide HH]; exact (unhide HF).1, (unhide HF).2⟩
    · have hlt : q < 3 := by omega
      clear h3 hq
      match q, hlt with
      | 0, _ =>
        have c0 : wr.cell? ⟨H, 1, none⟩ = some (.int .i64 0) := by rw [cell_of_row wr H _ _ _ _ (unhide HR).blk]; rfl
        have c1 := hfz 1
        have HN : Hid (NHSt V H (0 + 1) (wr.setCell ⟨H, 1, none⟩ (.int .i64 0))) := ⟨by rw [heap_setCell_same (unhide HR).blk]; rfl, (unhide HR).kp.trans (kept_setCell [H] wr H 1 _ (by simp)) (fun x hx => .inl hx)⟩
        clear HR hfz
        go_wp2
        go_roundw
        case rel => exact ⟨0 + 1, by omega, by go_num, unhide HN⟩
        case measure => simp [intOf]
      | 1, _ =>
        have c0 : wr.cell? ⟨H, 9, none⟩ = some (.int .i64 0) := by rw [cell_of_row wr H _ _ _ _ (unhide HR).blk]; rfl
        have c1 := hfz 9
        have HN : Hid (NHSt V H (1 + 1) (wr.setCell ⟨H, 9, none⟩ (.int .i64 1))) := ⟨by rw [heap_setCell_same (unhide HR).blk]; rfl, (unhide HR).kp.trans (kept_setCell [H] wr H 9 _ (by simp)) (fun x hx => .inl hx)⟩
        clear HR hfz
        go_wp2
        go_roundw
        case rel => exact ⟨1 + 1, by omega, by go_num, unhide HN⟩
        case measure => simp [intOf]
      | 2, _ =>
        have c0 : wr.cell? ⟨H, 17, none⟩ = some (.int .i64 0) := by rw [cell_of_row wr H _ _ _ _ (unhide HR).blk]; rfl
        have c1 := hfz 17
        have HN : Hid (NHSt V H (2 + 1) (wr.setCell ⟨H, 17, none⟩ (.int .i64 2))) := ⟨by rw [heap_setCell_same (unhide HR).blk]; rfl, (unhide HR).kp.trans (kept_setCell [H] wr H 17 _ (by simp)) (fun x hx => .inl hx)⟩
        clear HR hfz
        go_wp2
        go_roundw
        case rel => exact ⟨2 + 1, by omega, by go_num, unhide HN⟩
        case measure => simp [intOf]
def cptr (h i q : Nat) : Value := if i < q then .pointer (some ⟨h + 2 + i, 0, none⟩) else .pointer none
structure NewSt (w3 : World) (h S q : Nat) (wr : World) : Prop where
  sz : wr.heap.size = h + 2 + q
  blk : wr.heap[h + 1]? = some (.cells #[.pointer (some ⟨S, 0, none⟩), cptr h 0 q, cptr h 1 q, cptr h 2 q, .pointer (some ⟨h, 0, none⟩)] 51 (0, 0))
  cl : ∀ i, i < q → wr.heap[h + 2 + i]? = some (.cells #[.int .i64 (i : Int), .slice none 0 0, .int .i64 0, .string ⟨#[]⟩, .string ⟨#[]⟩, .string ⟨#[]⟩, .bool false] 85 (0, 0))
  kp : Kept [h + 1] w3 wr
theorem five {w : World} {b : Nat} {x0 x1 x2 x3 x4 : Value} {e : TypeId} (h : w.heap[b]? = some (.cells #[x0, x1, x2, x3, x4] e (0, 0))) :
    (w.cell? ⟨b, 0, none⟩ = some x0 ∧ w.cell? ⟨b, 1, none⟩ = some x1 ∧ w.cell? ⟨b, 2, none⟩ = some x2 ∧ w.cell? ⟨b, 3, none⟩ = some x3 ∧ w.cell? ⟨b, 4, none⟩ = some x4) ∧ ∀ j, w.frozen? ⟨b, j, none⟩ = false := by
  refine ⟨⟨?_, ?_, ?_, ?_, ?_⟩, fun j => frozen_of_row w b j _ _ h⟩ <;> rw [cell_of_row w b _ _ _ _ h] <;> rfl
theorem NewSt.next {w3 : World} {h S q : Nat} {wr : World} (hs : NewSt w3 h S q wr) (hq : q < 3) (hh : h + 2 ≤ w3.heap.size) :
    NewSt w3 h S (q + 1) ((wr.drew.alloc (.cells #[.int .i64 (q : Int), .slice none 0 0, .int .i64 0, .string ⟨#[]⟩, .string ⟨#[]⟩, .string ⟨#[]⟩, .bool false] 85)).setCell ⟨h + 1, 1 + q, none⟩ (.pointer (some ⟨wr.heap.size, 0, none⟩))) := by
  have hsz := hs.sz
  rw [hsz]
  have hbA : Below wr.heap.size wr (wr.drew.alloc (.cells #[.int .i64 (q : Int), .slice none 0 0, .int .i64 0, .string ⟨#[]⟩, .string ⟨#[]⟩, .string ⟨#[]⟩, .bool false] 85)) := below_drew_alloc wr _
  have hnew : (wr.drew.alloc (.cells #[.int .i64 (q : Int), .slice none 0 0, .int .i64 0, .string ⟨#[]⟩, .string ⟨#[]⟩, .string ⟨#[]⟩, .bool false] 85)).heap[wr.heap.size]? = some (.cells #[.int .i64 (q : Int), .slice none 0 0, .int .i64 0, .string ⟨#[]⟩, .string ⟨#[]⟩, .string ⟨#[]⟩, .bool false] 85 (0, 0)) := heap_alloc_new wr.drew _
  have hzA : (wr.drew.alloc (.cells #[.int .i64 (q : Int), .slice none 0 0, .int .i64 0, .string ⟨#[]⟩, .string ⟨#[]⟩, .string ⟨#[]⟩, .bool false] 85)).heap.size = wr.heap.size + 1 := al_size wr.drew _
  generalize wr.drew.alloc (.cells #[.int .i64 (q : Int), .slice none 0 0, .int .i64 0, .string ⟨#[]⟩, .string ⟨#[]⟩, .string ⟨#[]⟩, .bool false] 85) = V at hbA hnew hzA ⊢
  have hb1 := (hbA.block (h + 1) (by omega)).trans hs.blk
  have k : Kept [h + 1] V (V.setCell ⟨h + 1, 1 + q, none⟩ (.pointer (some ⟨h + 2 + q, 0, none⟩))) := kept_setCell [h + 1] V (h + 1) (1 + q) _ (by simp)
  have hzk : (V.setCell ⟨h + 1, 1 + q, none⟩ (.pointer (some ⟨h + 2 + q, 0, none⟩))).heap.size = V.heap.size := by simp [World.setCell]
  have hb2 := heap_setCell_same (o := 1 + q) hb1 (.pointer (some ⟨h + 2 + q, 0, none⟩))
  refine ⟨by rw [hzk]; omega, ?_, fun i hi => ?_, hs.kp.trans ((Kept.of_below (own := [h + 1]) hbA).trans k (fun x hx => .inl hx)) (fun x hx => .inl hx)⟩
  · rw [hb2]
    match q, hq with
    | 0, _ => rfl
    | 1, _ => rfl
    | 2, _ => rfl
  · refine (k.block (h + 2 + i) (by omega) (by simp; omega)).trans ?_
    by_cases e : i = q
    · subst e
      rw [← hsz]; exact hnew
    · exact (hbA.block (h + 2 + i) (by omega)).trans (hs.cl i (by omega))
theorem KRep.of_new {N X : Nat} {w : World} {me : Int} (h : w.heap[X]? = some (.cells #[.int .i64 me, .slice none 0 0, .int .i64 0, .string ⟨#[]⟩, .string ⟨#[]⟩, .string ⟨#[]⟩, .bool false] 85 (0, 0))) (hN : N ≤ X) : KRep N w X (.slice none 0 0) ⟨me, [], zeroCall, false⟩ :=
  ⟨⟨hN, h, World.ownsRow_nil _ _ _ _, by simp [Value.ownBlock]⟩, COk.start me⟩
theorem NewSt.world {N : Nat} {w1 w3 : World} {S B : Nat} {own : List Nat} {lv : Value} {wr : World} (hr : SRep N w1 S B own lv []) (hN : N ≤ w1.heap.size) (hb : Below w1.heap.size w1 w3) (hP : w3.heap[w1.heap.size]? = some (.cells #[.slice none 0 0] 115 (0, 0))) (hs : NewSt w3 w1.heap.size S 3 wr) :
    WRep N wr (w1.heap.size + 1) ⟨S, B, own, lv, fun i => w1.heap.size + 2 + i, fun _ => .slice none 0 0, w1.heap.size, .slice none 0 0⟩ AW.start := by
  have hP2 : wr.heap[w1.heap.size]? = some (.cells #[.slice none 0 0] 115 (0, 0)) := (hs.kp.block _ (Array.getElem?_eq_some_iff.1 hP).1 (by simp)).trans hP
  have hs3 : SRep N w3 S B own lv [] := hr.below hb
  have hge := sown_ge hr
  have hp : ∀ i, i < 5 → ∀ b, b ∈ (⟨S, B, own, lv, fun i => w1.heap.size + 2 + i, fun _ => .slice none 0 0, w1.heap.size, .slice none 0 0⟩ : WOwn).part i → (i = 3 ∧ b < w1.heap.size) ∨ (i = 4 ∧ b = w1.heap.size) ∨ (i < 3 ∧ b = w1.heap.size + 2 + i) := fun i hi b hm => by
    match i, hi with
    | 0, _ => simp [WOwn.part, powns, Value.ownBlock] at hm; omega
    | 1, _ => simp [WOwn.part, powns, Value.ownBlock] at hm; omega
    | 2, _ => simp [WOwn.part, powns, Value.ownBlock] at hm; omega
    | 3, _ => exact .inl ⟨rfl, (hge b hm).2⟩
    | 4, _ => simp [WOwn.part, powns, Value.ownBlock] at hm; omega
  refine ⟨by omega, ?_, hs3.kept hs.kp (fun k hk hm => ?_), fun n hn => KRep.of_new (hs.cl n hn) (show N ≤ w1.heap.size + 2 + n by omega), ⟨hN, hP2, World.ownsRow_nil _ _ _ _, by simp [Value.ownBlock], by simp [AW.start], by simp [AW.start]⟩, fun i j hi hj hij b h1 h2 => ?_, fun i hi hm => ?_, by simp [AW.start, logB]⟩
  · rw [hs.blk]; rfl
  · have := (hge k hk).2
    simp at hm; omega
  · rcases hp i hi b h1 with h | h | h <;> rcases hp j hj b h2 with h' | h' | h' <;> omega
  · rcases hp i hi _ hm with h | h | h <;> omega
set_option maxRecDepth 100000 in
set_option maxHeartbeats 4000000 in
theorem WNew_any (w : World) :
    Calls Tryz.prog 11 #[] w fun e w' => ∃ W o, e = .returned (.pointer (some ⟨W, 0, none⟩)) ∧ WRep w.heap.size w' W o AW.start ∧ Below w.heap.size w w' := by
  have HSN := hide (SNew_any w)
  have HPN := hide New_P
  go_enter Tryz.func11, Tryz.ntmps11
  go_wp2_with fail
  refine (unhide HSN).mono ?_
  rintro e w1 ⟨S, B, own, lv, rfl, hr1, hb1⟩
  have HR1 := hide hr1
  have HB1 := hide hb1
  clear hr1 hb1
  go_wp2_with fail
  refine ((unhide HPN) _).mono ?_
  rintro e w2 ⟨rfl, rfl⟩
  obtain ⟨V, hV⟩ : ∃ V, V = (w1.alloc (.cells #[.slice none 0 0] 115)).alloc (.cells #[.pointer (some ⟨S, 0, none⟩), .pointer none, .pointer none, .pointer none, .pointer (some ⟨w1.heap.size, 0, none⟩)] 51) := ⟨_, rfl⟩
  have hbV : Below w1.heap.size w1 V := by rw [hV]; exact ((Below.refl _ _).alloc (Nat.le_refl _) _).alloc (by simp) _
  have hPV : V.heap[w1.heap.size]? = some (.cells #[.slice none 0 0] 115 (0, 0)) := by rw [hV, Below.heap_alloc _ _ _ (by simp)]; exact heap_alloc_new _ _
  have hWV : V.heap[w1.heap.size + 1]? = some (.cells #[.pointer (some ⟨S, 0, none⟩), .pointer none, .pointer none, .pointer none, .pointer (some ⟨w1.heap.size, 0, none⟩)] 51 (0, 0)) := by rw [hV]; have := heap_alloc_new (w1.alloc (.cells #[.slice none 0 0] 115)) (.cells #[.pointer (some ⟨S, 0, none⟩), .pointer none, .pointer none, .pointer none, .pointer (some ⟨w1.heap.size, 0, none⟩)] 51); rw [al_size] at this; exact this
  have hzV : V.heap.size = w1.heap.size + 2 := by rw [hV]; simp
  have HST : Hid (NewSt V w1.heap.size S 0 V) := ⟨by omega, hWV, fun i hi => absurd hi (by omega), Kept.refl _ _⟩
  have HH : Hid (w1.heap.size + 2 ≤ V.heap.size) := by show _ ≤ _; omega
  have HFIN := hide (fun wr (hs : NewSt V w1.heap.size S 3 wr) => And.intro ((unhide HR1).base (N := w.heap.size) (Nat.le_refl _) |>.below (Below.refl _ _) |> fun h => NewSt.world h (unhide HB1).size hbV hPV hs) (((unhide HB1).trans (hbV.mono (unhide HB1).size)).trans (hs.kp.below (Nat.le_trans (unhide HB1).size hbV.size) (fun k hk => by simp at hk; subst hk; have := (unhide HB1).size; omega))))
  have HV := hide hV
  clear hV hbV hPV hWV hzV
  go_wp2_with fail
  rw [← unhide HV]
  go_loopw [2, 7] (fun _ i wr => ∃ q : Nat, q ≤ 3 ∧ i = .int .i64 (q : Int) ∧ Hid (NewSt V w1.heap.size S q wr)) (fun _ i _ => 3 - (intOf i).toNat)
  case atStart => exact ⟨0, Nat.zero_le _, rfl, unhide HST⟩
  case round =>
    obtain ⟨q, hq, rfl, HQ⟩ := hrel
    match q, hq with
    | 3, _ =>
      go_wp2
      go_ret
      exact ⟨_, _, rfl, (unhide HFIN) _ (unhide HQ)⟩
    | 0, _ =>
      obtain ⟨⟨y0, y1, y2, y3, y4⟩, yf⟩ := five (unhide HQ).blk
      have hc3 : (0 : Int) < 3 := by omega
      have HSZ := hide (unhide HQ).sz
      have HCN := hide (New_some (0 : Int) wr.drew (by omega))
      have HNX := hide ((unhide HQ).next (by omega) (unhide HH))
      clear y0 y1 y2 y3 y4 yf
      go_wp2_with fail
      refine wp_region_held_drew (S := (fun wx => True)) (by kernel_rfl) (trivial) (fun hHeld => ?_)
      refine tkH ?_ opn0 (fun _ _ _ h => h) hHeld ?_ ?_
      rotate_left 1
      · intro wz hSw; (try dsimp only at hSw); go_simp; all_goals with_reducible rfl
      try simp only [pS]
      refine tkH ?_ opn1 (fun _ _ _ h => h) hHeld ?_ ?_
      rotate_left 1
      · intro wz hSw; (try dsimp only at hSw); go_simp; all_goals with_reducible rfl
      try simp only [pS]
      refine tkH ?_ opn2 (fun _ _ _ h => h) hHeld ?_ ?_
      rotate_left 1
      · intro wz hSw; (try dsimp only at hSw); go_simp; all_goals with_reducible rfl
      try simp only [pS]
      refine tkH ?_ opn4 (fun _ _ _ h => h) hHeld ?_ ?_
      rotate_left 1
      · intro wz hSw; (try dsimp only at hSw); go_simp; all_goals with_reducible rfl
      try simp only [pS]
      refine tkH ?_ opn5 (fun _ _ _ h => h) hHeld ?_ ?_
      rotate_left 1
      · intro wz hSw; (try dsimp only at hSw); go_simp; all_goals with_reducible rfl
      try simp only [pS]
      refine wpAnyH_ready (rs := [3]) (by kernel_rfl) (by simp) ?_
      refine AllReadyH.cons opn3 (fun K hK => ?_) AllReadyH.nil
      rw [if_pos (by kernel_rfl)]
      go_simp
      refine (unhide HCN).mono ?_
      rintro e w4 ⟨rfl, hw4⟩
      have HW4 := hide hw4
      clear hw4
      refine hK.out _ _ (trivial) (fun hHeldN => ?_)
      clear hHeld hK K; have hHeld := hHeldN; clear hHeldN
      try simp only [pS]
      refine tkH ?_ opn6 (fun _ _ _ h => h) hHeld ?_ ?_
      rotate_left 1
      · intro wz hSw; (try dsimp only at hSw); go_simp; all_goals with_reducible rfl
      try simp only [pS]
      have hb4 : w4.heap[w1.heap.size + 1]? = wr.heap[w1.heap.size + 1]? := by rw [unhide HW4]; exact (below_drew_alloc wr _).block _ (by have := unhide HSZ; omega)
      obtain ⟨⟨y0, y1, y2, y3, y4⟩, yf⟩ := five (hb4.trans (unhide HQ).blk)
      have yf0 := yf 1
      refine wpAnyH_ready (rs := [7]) (by kernel_rfl) (by simp) ?_
      refine AllReadyH.cons opn7 (fun K hK => ?_) AllReadyH.nil
      rw [if_pos (by kernel_rfl)]
      go_simp
      clear y0 y1 y2 y3 y4 yf yf0 hb4
      refine hK.out _ _ (trivial) (fun hHeldN => ?_)
      clear hHeld hK K; have hHeld := hHeldN; clear hHeldN
      try simp only [pS]
      refine wpAnyH_done (by kernel_rfl) ?_ _
      go_wp2
      go_roundw
      case rel =>
        refine ⟨1, by omega, rfl, ?_⟩
        have h9 := unhide HNX
        have h8 : NewSt V w1.heap.size S 1 (w4.setCell ⟨w1.heap.size + 1, 1, none⟩ (.pointer (some ⟨wr.heap.size, 0, none⟩))) := by rw [unhide HW4]; exact h9
        first | exact h8 | exact h8.drewR
      case measure => simp [intOf]
    | 1, _ =>
      obtain ⟨⟨y0, y1, y2, y3, y4⟩, yf⟩ := five (unhide HQ).blk
      have hc3 : (1 : Int) < 3 := by omega
      have HSZ := hide (unhide HQ).sz
      have HCN := hide (New_some (1 : Int) wr.drew (by omega))
      have HNX := hide ((unhide HQ).next (by omega) (unhide HH))
      clear y0 y1 y2 y3 y4 yf
      go_wp2_with fail
      refine wp_region_held_drew (S := (fun wx => True)) (by kernel_rfl) (trivial) (fun hHeld => ?_)
      refine tkH ?_ opn0 (fun _ _ _ h => h) hHeld ?_ ?_
      rotate_left 1
      · intro wz hSw; (try dsimp only at hSw); go_simp; all_goals with_reducible rfl
      try simp only [pS]
      refine tkH ?_ opn1 (fun _ _ _ h => h) hHeld ?_ ?_
      rotate_left 1
      · intro wz hSw; (try dsimp only at hSw); go_simp; all_goals with_reducible rfl
      try simp only [pS]
      refine tkH ?_ opn2 (fun _ _ _ h => h) hHeld ?_ ?_
      rotate_left 1
      · intro wz hSw; (try dsimp only at hSw); go_simp; all_goals with_reducible rfl
      try simp only [pS]
      refine tkH ?_ opn4 (fun _ _ _ h => h) hHeld ?_ ?_
      rotate_left 1
      · intro wz hSw; (try dsimp only at hSw); go_simp; all_goals with_reducible rfl
      try simp only [pS]
      refine tkH ?_ opn5 (fun _ _ _ h => h) hHeld ?_ ?_
      rotate_left 1
      · intro wz hSw; (try dsimp only at hSw); go_simp; all_goals with_reducible rfl
      try simp only [pS]
      refine wpAnyH_ready (rs := [3]) (by kernel_rfl) (by simp) ?_
      refine AllReadyH.cons opn3 (fun K hK => ?_) AllReadyH.nil
      rw [if_pos (by kernel_rfl)]
      go_simp
      refine (unhide HCN).mono ?_
      rintro e w4 ⟨rfl, hw4⟩
      have HW4 := hide hw4
      clear hw4
      refine hK.out _ _ (trivial) (fun hHeldN => ?_)
      clear hHeld hK K; have hHeld := hHeldN; clear hHeldN
      try simp only [pS]
      refine tkH ?_ opn6 (fun _ _ _ h => h) hHeld ?_ ?_
      rotate_left 1
      · intro wz hSw; (try dsimp only at hSw); go_simp; all_goals with_reducible rfl
      try simp only [pS]
      have hb4 : w4.heap[w1.heap.size + 1]? = wr.heap[w1.heap.size + 1]? := by rw [unhide HW4]; exact (below_drew_alloc wr _).block _ (by have := unhide HSZ; omega)
      obtain ⟨⟨y0, y1, y2, y3, y4⟩, yf⟩ := five (hb4.trans (unhide HQ).blk)
      have yf0 := yf 2
      refine wpAnyH_ready (rs := [7]) (by kernel_rfl) (by simp) ?_
      refine AllReadyH.cons opn7 (fun K hK => ?_) AllReadyH.nil
      rw [if_pos (by kernel_rfl)]
      go_simp
      clear y0 y1 y2 y3 y4 yf yf0 hb4
      refine hK.out _ _ (trivial) (fun hHeldN => ?_)
      clear hHeld hK K; have hHeld := hHeldN; clear hHeldN
      try simp only [pS]
      refine wpAnyH_done (by kernel_rfl) ?_ _
      go_wp2
      go_roundw
      case rel =>
        refine ⟨2, by omega, rfl, ?_⟩
        have h9 := unhide HNX
        have h8 : NewSt V w1.heap.size S 2 (w4.setCell ⟨w1.heap.size + 1, 2, none⟩ (.pointer (some ⟨wr.heap.size, 0, none⟩))) := by rw [unhide HW4]; exact h9
        first | exact h8 | exact h8.drewR
      case measure => simp [intOf]
    | 2, _ =>
      obtain ⟨⟨y0, y1, y2, y3, y4⟩, yf⟩ := five (unhide HQ).blk
      have hc3 : (2 : Int) < 3 := by omega
      have HSZ := hide (unhide HQ).sz
      have HCN := hide (New_some (2 : Int) wr.drew (by omega))
      have HNX := hide ((unhide HQ).next (by omega) (unhide HH))
      clear y0 y1 y2 y3 y4 yf
      go_wp2_with fail
      refine wp_region_held_drew (S := (fun wx => True)) (by kernel_rfl) (trivial) (fun hHeld => ?_)
      refine tkH ?_ opn0 (fun _ _ _ h => h) hHeld ?_ ?_
      rotate_left 1
      · intro wz hSw; (try dsimp only at hSw); go_simp; all_goals with_reducible rfl
      try simp only [pS]
      refine tkH ?_ opn1 (fun _ _ _ h => h) hHeld ?_ ?_
      rotate_left 1
      · intro wz hSw; (try dsimp only at hSw); go_simp; all_goals with_reducible rfl
      try simp only [pS]
      refine tkH ?_ opn2 (fun _ _ _ h => h) hHeld ?_ ?_
      rotate_left 1
      · intro wz hSw; (try dsimp only at hSw); go_simp; all_goals with_reducible rfl
      try simp only [pS]
      refine tkH ?_ opn4 (fun _ _ _ h => h) hHeld ?_ ?_
      rotate_left 1
      · intro wz hSw; (try dsimp only at hSw); go_simp; all_goals with_reducible rfl
      try simp only [pS]
      refine tkH ?_ opn5 (fun _ _ _ h => h) hHeld ?_ ?_
      rotate_left 1
      · intro wz hSw; (try dsimp only at hSw); go_simp; all_goals with_reducible rfl
      try simp only [pS]
      refine wpAnyH_ready (rs := [3]) (by kernel_rfl) (by simp) ?_
      refine AllReadyH.cons opn3 (fun K hK => ?_) AllReadyH.nil
      rw [if_pos (by kernel_rfl)]
      go_simp
      refine (unhide HCN).mono ?_
      rintro e w4 ⟨rfl, hw4⟩
      have HW4 := hide hw4
      clear hw4
      refine hK.out _ _ (trivial) (fun hHeldN => ?_)
      clear hHeld hK K; have hHeld := hHeldN; clear hHeldN
      try simp only [pS]
      refine tkH ?_ opn6 (fun _ _ _ h => h) hHeld ?_ ?_
      rotate_left 1
      · intro wz hSw; (try dsimp only at hSw); go_simp; all_goals with_reducible rfl
      try simp only [pS]
      have hb4 : w4.heap[w1.heap.size + 1]? = wr.heap[w1.heap.size + 1]? := by rw [unhide HW4]; exact (below_drew_alloc wr _).block _ (by have := unhide HSZ; omega)
      obtain ⟨⟨y0, y1, y2, y3, y4⟩, yf⟩ := five (hb4.trans (unhide HQ).blk)
      have yf0 := yf 3
      refine wpAnyH_ready (rs := [7]) (by kernel_rfl) (by simp) ?_
      refine AllReadyH.cons opn7 (fun K hK => ?_) AllReadyH.nil
      rw [if_pos (by kernel_rfl)]
      go_simp
      clear y0 y1 y2 y3 y4 yf yf0 hb4
      refine hK.out _ _ (trivial) (fun hHeldN => ?_)
      clear hHeld hK K; have hHeld := hHeldN; clear hHeldN
      try simp only [pS]
      refine wpAnyH_done (by kernel_rfl) ?_ _
      go_wp2
      go_roundw
      case rel =>
        refine ⟨3, by omega, rfl, ?_⟩
        have h9 := unhide HNX
        have h8 : NewSt V w1.heap.size S 3 (w4.setCell ⟨w1.heap.size + 1, 3, none⟩ (.pointer (some ⟨wr.heap.size, 0, none⟩))) := by rw [unhide HW4]; exact h9
        first | exact h8 | exact h8.drewR
      case measure => simp [intOf]
def wbc : ACall := ⟨1, ⟨#[97]⟩, ⟨#[]⟩, ⟨#[]⟩⟩
def wbx1 : AX := ⟨1, 1, 0, wbc⟩
def wbx2 : AX := ⟨2, 1, 0, zeroCall⟩
def wbx3 : AX := ⟨5, 0, 0, zeroCall⟩
def wbx4 : AX := ⟨7, 0, 3, zeroCall⟩
def wbx5 : AX := ⟨3, 0, 0, zeroCall⟩
def wb1 : AW := (AW.start.step wbx1).2
def wb2 : AW := (wb1.step wbx2).2
def wb3 : AW := (wb2.step wbx3).2
def wb4 : AW := (wb3.step wbx4).2
def wb5 : AW := (wb4.step wbx5).2
def wb6 : AW := (AW.calm 3 wb5).2
def wbr : ARec := ⟨1, 1, wbc, 0, ⟨#[]⟩⟩
theorem wb_1 : (AW.start.step wbx1).1 = 0 := by kernel_rfl
theorem wb_2 : (wb1.step wbx2).1 = 0 := by kernel_rfl
theorem wb_3 : (wb2.step wbx3).1 = 0 := by kernel_rfl
theorem wb_4 : (wb3.step wbx4).1 = 0 := by kernel_rfl
theorem wb_5 : (wb4.step wbx5).1 = 0 := by kernel_rfl
theorem wb_6 : (AW.calm 3 wb5).1 = 0 := by kernel_rfl
theorem wb_d : (wb6.cl 1).done = [wbr] := by kernel_rfl
theorem wb_l : (lastR wb6.log 1).no = 1 := by kernel_rfl
theorem wb_m : wb6.ms.length = 0 := by kernel_rfl
def RetF (n : Nat) (e : Ending) : Prop := ∃ r, e = .returned (.bool r) ∧ (r = false → n ≤ 250)
set_option maxRecDepth 100000 in
set_option maxHeartbeats 4000000 in
theorem greatSteps_any (a0 : Option Addr) (len cap : Nat) (xs : List AX) (w : World) (hl : XsAt w a0 len xs) :
    Calls Tryz.prog 10 #[.slice a0 len cap] w fun e w' => RetF len e ∧ Below w.heap.size w w' := by
  have hm := hl.2.1
  unfold maxLen at hm
  have HL := hide hl
  clear hl
  go_enter Tryz.func10, Tryz.ntmps10
  go_wp2
  go_loopw [3] (fun i wr => ∃ k : Nat, k ≤ 300 ∧ i = .int .i64 k ∧ Hid (Below w.heap.size w wr)) (fun i _ => 300 - (intOf i).toNat)
  case atStart => exact ⟨0, Nat.zero_le _, rfl, Below.refl _ _⟩
  case round =>
    obtain ⟨k, hk, rfl, HB⟩ := hrel
    by_cases h1 : (k : Int) < (len : Int)
    · by_cases h2 : (k : Int) < 300
      · obtain ⟨b, off, rfl, hc⟩ := ((unhide HL).below (unhide HB)).2.2.2 (by omega)
        obtain ⟨x, hx⟩ : ∃ x, xs[k]? = some x := ⟨_, List.getElem?_eq_getElem (by rw [(unhide HL).1]; omega)⟩
        obtain ⟨g0, g1, g2, g3, g4, g5, g6⟩ := hc k x hx
        have hcon := greatCall_any x.call.kind x.call.name x.call.dst x.call.text wr
        obtain ⟨xk, xn, xp, ⟨ck, ca, cb, ct⟩⟩ := x
        dsimp only at g0 g1 g2 g3 g4 g5 g6 hcon
        clear hc hx
        go_wp2_with (go_at_call 34; refine hcon.mono ?_; rintro e w1 ⟨⟨r, rfl⟩, b1⟩)
        · go_ret
          exact ⟨⟨_, rfl, fun h => by cases h⟩, (unhide HB).trans (b1.mono (unhide HB).size)⟩
        · go_roundw
          case rel => exact ⟨k + 1, by omega, by go_num, (unhide HB).trans (b1.mono (unhide HB).size)⟩
          case measure => simp [intOf]; omega
      · have h3 : (250 : Int) < (len : Int) := by omega
        go_wp2
        go_ret
        exact ⟨⟨_, rfl, fun h => by cases h⟩, unhide HB⟩
    · by_cases h4 : (250 : Int) < (len : Int)
      · go_wp2
        go_ret
        exact ⟨⟨_, rfl, fun h => by cases h⟩, unhide HB⟩
      · go_wp2
        go_ret
        exact ⟨⟨_, rfl, fun _ => by omega⟩, unhide HB⟩
set_option maxRecDepth 100000 in
set_option maxHeartbeats 8000000 in
theorem worldBegun_any (w : World) : Calls Tryz.prog 9 #[] w fun e w' => e = .returned (.bool true) ∧ Below w.heap.size w w' := by
  have HNEW := hide (WNew_any w)
  have HSTEP := hide (fun (wx : World) (W : Nat) (o : WOwn) (A : AW) (x : AX) (hr : WRep w.heap.size wx W o A) (hx : SmallC x.call) => Step_any hr x hx)
  have hs1 : SmallC wbc := by unfold SmallC wbc; decide
  have hs0 : SmallC zeroCall := zeroCall_small
  have HS1 := hide hs1
  have HS0 := hide hs0
  clear hs1 hs0
  go_enter Tryz.func9, Tryz.ntmps9
  go_wp2_with fail
  refine (unhide HNEW).mono ?_
  rintro e w1 ⟨W, o0, rfl, hr0, hb0⟩
  obtain ⟨V, hV⟩ : ∃ V, V = w1.alloc (.cells #[.int .i64 1, .string ⟨#[97]⟩, .string ⟨#[]⟩, .string ⟨#[]⟩] 32) := ⟨_, rfl⟩
  have hBV : Below w1.heap.size w1 V := by rw [hV]; exact (Below.refl _ _).alloc (Nat.le_refl _) _
  have HR := hide (hr0.below hBV)
  have HB := hide (hb0.trans (hBV.mono hb0.size))
  have HV := hide hV
  have HC := hide ((unhide HSTEP) _ _ _ _ wbx1 (unhide HR) (unhide HS1))
  rw [wb_1] at HC
  dsimp only [AX.val, wbx1, wbc] at HC
  clear hV hBV hr0 hb0
  go_wp2_with fail
  rw [← unhide HV]
  refine (unhide HC).mono ?_
  rintro e w2 ⟨rfl, hT⟩
  clear HC
  obtain ⟨o1, hr, hn⟩ := hT
  have hbn := (unhide HB).trans hn.below
  clear HR HB
  have HR : Hid (WRep w.heap.size w2 W o1 wb1) := hr
  have HB := hide hbn
  clear hr hn hbn
  have HC := hide ((unhide HSTEP) _ _ _ _ wbx2 (unhide HR) (unhide HS0))
  rw [wb_2] at HC
  dsimp only [AX.val, wbx2, zeroCall] at HC
  go_wp2_with fail
  refine (unhide HC).mono ?_
  rintro e w3 ⟨rfl, hT⟩
  clear HC
  obtain ⟨o2, hr, hn⟩ := hT
  have hbn := (unhide HB).trans hn.below
  clear HR HB
  have HR : Hid (WRep w.heap.size w3 W o2 wb2) := hr
  have HB := hide hbn
  clear hr hn hbn
  have HC := hide ((unhide HSTEP) _ _ _ _ wbx3 (unhide HR) (unhide HS0))
  rw [wb_3] at HC
  dsimp only [AX.val, wbx3, zeroCall] at HC
  go_wp2_with fail
  refine (unhide HC).mono ?_
  rintro e w4 ⟨rfl, hT⟩
  clear HC
  obtain ⟨o3, hr, hn⟩ := hT
  have hbn := (unhide HB).trans hn.below
  clear HR HB
  have HR : Hid (WRep w.heap.size w4 W o3 wb3) := hr
  have HB := hide hbn
  clear hr hn hbn
  have HC := hide ((unhide HSTEP) _ _ _ _ wbx4 (unhide HR) (unhide HS0))
  rw [wb_4] at HC
  dsimp only [AX.val, wbx4, zeroCall] at HC
  go_wp2_with fail
  refine (unhide HC).mono ?_
  rintro e w5 ⟨rfl, hT⟩
  clear HC
  obtain ⟨o4, hr, hn⟩ := hT
  have hbn := (unhide HB).trans hn.below
  clear HR HB
  have HR : Hid (WRep w.heap.size w5 W o4 wb4) := hr
  have HB := hide hbn
  clear hr hn hbn
  have HC := hide ((unhide HSTEP) _ _ _ _ wbx5 (unhide HR) (unhide HS0))
  rw [wb_5] at HC
  dsimp only [AX.val, wbx5, zeroCall] at HC
  go_wp2_with fail
  refine (unhide HC).mono ?_
  rintro e w6 ⟨rfl, hT⟩
  clear HC
  obtain ⟨o5, hr, hn⟩ := hT
  have hbn := (unhide HB).trans hn.below
  clear HR HB
  have HR : Hid (WRep w.heap.size w6 W o5 wb5) := hr
  have HB := hide hbn
  clear hr hn hbn
  have HC := hide (Calm_any (unhide HR))
  rw [wb_6] at HC
  go_wp2_with fail
  refine (unhide HC).mono ?_
  rintro e w7 ⟨rfl, hT⟩
  clear HC
  obtain ⟨o6, hr, hn⟩ := hT
  have hbn := (unhide HB).trans hn.below
  clear HR HB
  have HR : Hid (WRep w.heap.size w7 W o6 wb6) := hr
  have HB := hide hbn
  clear hr hn hbn
  have HC := hide (Client_some (unhide HR) 1 (by omega))
  go_wp2_with fail
  refine (unhide HC).mono ?_
  rintro e w8 ⟨rfl, hw⟩
  subst hw
  clear HC
  have HC := hide (Done_any ((unhide HR).c 1 (by omega)) (n := 1) (by rw [wb_d]; rfl))
  rw [wb_d] at HC
  go_wp2_with fail
  refine (unhide HC).mono ?_
  rintro e w9 ⟨g, cap, rfl, ho, hb9⟩
  clear HC
  have hr9 := (unhide HR).below hb9
  have HB9 := hide ((unhide HB).trans (hb9.mono (unhide HB).size))
  have hcl := fun j v h => World.ownsRow.cells (v := .slice (some ⟨g, 0, none⟩) 1 cap) ho (g := g) rfl j v h
  have k6 : w9.cell? ⟨g, 6, none⟩ = some (.int .i64 0) := by have := hcl 6 (.int .i64 0) rfl; rw [addr_add] at this; exact this
  have k7 : w9.cell? ⟨g, 7, none⟩ = some (.string ⟨#[]⟩) := by have := hcl 7 (.string ⟨#[]⟩) rfl; rw [addr_add] at this; exact this
  have hS := hr9.cells.1.1
  have HLS := hide (SLast_any hr9.s 1)
  rw [if_neg (by omega)] at HLS
  rw [show (lastR wb6.log 1).no = 1 from wb_l] at HLS
  have HCN := hide (fun w => Client_none W w 3 (by omega))
  have HPK := hide (Packets_any hr9 wb_m)
  generalize o6.S = S at hS HLS
  clear hcl ho hb9 hr9 HR HB
  go_wp2_with fail
  refine (unhide HLS).mono ?_
  rintro e w10 ⟨rfl, hw⟩
  subst hw
  go_wp2_with fail
  refine ((unhide HCN) _).mono ?_
  rintro e w11 ⟨rfl, hw⟩
  subst hw
  go_wp2_with fail
  refine (unhide HPK).mono ?_
  rintro e w12 ⟨g2, cap2, rfl, ho, hb12⟩
  have HF := hide ((unhide HB9).trans (hb12.mono (unhide HB9).size))
  clear ho hb12
  go_wp2
  go_ret
  exact ⟨rfl, unhide HF⟩
def ca : ACall := ⟨1, ⟨#[97]⟩, ⟨#[]⟩, ⟨#[]⟩⟩
def cb' : ACall := ⟨1, ⟨#[98]⟩, ⟨#[]⟩, ⟨#[]⟩⟩
end Go.Proofs.YtmbhbnoifimeaabGreat
namespace Go.Proofs.YtmbhbnoifimeaabGreat
open Go.ChangeShapes Go.WideShapes Go.ChangeAt Go.RowKit Go.Deep Go.Joins
set_option linter.unusedSimpArgs false
set_option linter.unusedVariables false
theorem own0 : ownKnob Tryz.prog.godebug = none := by kernel_rfl
theorem laidOut0 : laidOutB Tryz.prog = true := by kernel_rfl
theorem cells32 : Tryz.prog.cellsOf 32 = 4 := by kernel_rfl
theorem cells3 : Tryz.prog.cellsOf 3 = 1 := by kernel_rfl
theorem cells9 : Tryz.prog.cellsOf 9 = 1 := by kernel_rfl
section
variable {H : Type} {enc : TypeId × Value → H} {w : World} {base : Nat} {spare : Nat → Bool} {held : Bool}
end
theorem spot_none {w : World} {a : Addr} {v : Value} (h : w.cell? a = some v) : a = ⟨a.block, a.off, none⟩ := by
  obtain ⟨b, off, spot⟩ := a
  cases spot with
  | none => rfl
  | some s =>
    exfalso
    simp only [World.cell?] at h
    split at h <;> simp at h
end Go.Proofs.YtmbhbnoifimeaabGreat
namespace Go.Proofs.YtmbhbnoifimeaabGreat
open Go.RowKit
set_option linter.unusedSimpArgs false
set_option linter.unusedVariables false
theorem conv_row {w : World} {N n c : Nat} {a : Option Addr} {bs : List UInt8} (h : BRow w N (.slice a n c) bs) (hn : bs.length = n) : (convert 45 9 (.slice a n c)).run Tryz.prog w = .ok (.string ⟨bs.toArray⟩) w := by
  obtain ⟨hby, hnil, _⟩ := h.by hn
  cases a with
  | none =>
    obtain ⟨rfl, rfl⟩ := hnil rfl
    rw [List.length_eq_zero_iff.1 hn]
    exact Lib.run_convert_nil_bytes w 45 9 5 0 Tryz.underlying45 Tryz.underlying5 Tryz.underlying9
  | some A =>
    have h' := h
    unfold BRow at h'
    rw [hn] at h'
    obtain ⟨g, rfl, _⟩ := row_some h'
    exact conv_at w ⟨g, 0, none⟩ bs c n hn.symm (fun j x hx => by rw [addr_add]; exact h.cells j x hx)
theorem Log_T {N : Nat} {w : World} {S B : Nat} {own : List Nat} {lv : Value} {L : List ARec} (h : SRep N w S B own lv L) (hs : (logB L).length ≤ 2000) {T : Nat} (hT : (logB L).length = T) :
    Calls Tryz.prog 18 #[.pointer (some ⟨S, 0, none⟩)] w fun e w' => ∃ a c', e = .returned (.slice a T c') ∧ BRow w' w.heap.size (.slice a T c') (logB L) ∧ Below w.heap.size w w' := by
  have := Log_any h (by omega)
  rw [hT] at this
  exact this
theorem Names_M {N : Nat} {w : World} {B : Nat} {own : List Nat} {L : List ARec} (h : OObj N w B own (behind L)) {M : Nat} (hM : (behind L).length = M) :
    Calls Tryz.prog 23 #[.pointer (some ⟨B, 0, none⟩)] w fun e w' => ∃ g cap, e = .returned (.slice (some ⟨g, 0, none⟩) M cap) ∧ w'.ownsRow w.heap.size 9 1 (.slice (some ⟨g, 0, none⟩) M cap) M ((sNames (behind L)).map .string) ∧ Below w.heap.size w w' := by
  have := Names_obj h
  rw [hM] at this
  exact this
theorem dNames_M {w : World} {N D : Nat} {L : List ARec} {M : Nat} {a : Option Addr} {n cap : Nat} (h : DRep w N D (.slice a n cap) (behind L)) (hM : (behind L).length = M) :
    n = M ∧ Calls Tryz.prog 25 #[.slice a M cap] w fun e w' => ∃ a c, e = .returned (.slice a M c) ∧ w'.ownsRow w.heap.size 9 1 (.slice a M c) M ((sNames (behind L)).map .string) ∧ Below w.heap.size w w' := by
  have hn : n = M := by
    obtain ⟨a', c', he⟩ := row_form h.row
    cases he
    exact hM
  subst hn
  have := dNames_any a cap (behind L) w (behind_inv L).few (fun j f hf => h.names j f hf)
  rw [hM] at this
  exact ⟨rfl, this⟩
theorem DRep.form2 {w : World} {N D : Nat} {v : Value} {st : List AFile} (h : DRep w N D v st) : ∃ a cap, v = .slice a st.length cap := row_form h.row
theorem DRep.cell0 {w : World} {N D : Nat} {v : Value} {st : List AFile} (h : DRep w N D v st) : w.cell? ⟨D, 0, none⟩ = some v := by simp [World.cell?, h.blk]
end Go.Proofs.YtmbhbnoifimeaabGreat
