/- What the packets' functions do, on lists; a Post and a Bag side by side; postBegun; steps. -/
import Derived.Test.YtlndphpidkacgabPh
namespace Go.Proofs.Ytlndphpidkacgab
open Go.RowKit
set_option linter.unusedSimpArgs false
set_option linter.unusedVariables false

def aSend (ms : List APkt) (m : APkt) : List APkt := if ms.length < 40 then ms ++ [m] else ms
def aTakeM (ms : List APkt) (n : Int) : APkt := (ms[rnd n ms.length]?).getD zeroPkt
def aTakeL (ms : List APkt) (n : Int) : List APkt := ms.eraseIdx (rnd n ms.length)
def aTakeB (ms : List APkt) : Bool := decide (0 < ms.length)
def aDblB (ms : List APkt) : Bool := decide (0 < ms.length) && decide (ms.length < 40)
def aDblL (ms : List APkt) (n : Int) : List APkt := if 0 < ms.length then aSend ms (aTakeM ms n) else ms
theorem take_some {ms : List APkt} (n : Int) (h : 0 < ms.length) : ms[rnd n ms.length]? = some (aTakeM ms n) := by
  unfold aTakeM
  rw [List.getElem?_eq_getElem (rnd_lt n h)]
  rfl

theorem PSend_any {N : Nat} {w : World} {P : Nat} {v : Value} {ms : List APkt} (h : PRep 47 N w P v ms) (m : APkt) (hm : SmallP m) :
    Calls Try.prog 8 #[.pointer (some ⟨P, 0, none⟩), m.val] w fun e w' => e = .returned (.bool (decide (ms.length < 40))) ∧ PTurn 47 N w P v w' (aSend ms m) := by
  unfold aSend
  by_cases hl : ms.length < 40
  · rw [if_pos hl, decide_eq_true hl]; exact Send_P h m hm hl
  · rw [if_neg hl, decide_eq_false hl]; exact Send_Pfull h m hl
theorem BSend_any {N : Nat} {w : World} {P : Nat} {v : Value} {ms : List APkt} (h : PRep 27 N w P v ms) (m : APkt) (hm : SmallP m) :
    Calls Try.prog 9 #[.pointer (some ⟨P, 0, none⟩), m.val] w fun e w' => e = .returned (.bool (decide (ms.length < 40))) ∧ PTurn 27 N w P v w' (aSend ms m) := by
  unfold aSend
  by_cases hl : ms.length < 40
  · rw [if_pos hl, decide_eq_true hl]; exact Send_B h m hm hl
  · rw [if_neg hl, decide_eq_false hl]; exact Send_Bfull h m hl
theorem PTake_any {N : Nat} {w : World} {P : Nat} {v : Value} {ms : List APkt} (h : PRep 47 N w P v ms) (n : Int) :
    Calls Try.prog 10 #[.pointer (some ⟨P, 0, none⟩), .int .i64 n] w fun e w' => e = .returned (.tuple #[(aTakeM ms n).val, .bool (aTakeB ms)]) ∧ PTurn 47 N w P v w' (aTakeL ms n) := by
  by_cases h0 : 0 < ms.length
  · obtain ⟨l1, l2, e1, e2, e3⟩ := psplit (take_some n h0)
    unfold aTakeB aTakeL
    rw [decide_eq_true h0, e3]
    obtain ⟨q, hq⟩ : ∃ q, aTakeM ms n = q := ⟨_, rfl⟩
    rw [hq] at e1 ⊢
    subst e1
    exact Take_P h n e2.symm
  · obtain rfl : ms = [] := List.length_eq_zero_iff.1 (by omega)
    exact Take_Pnone h n
theorem BTake_any {N : Nat} {w : World} {P : Nat} {v : Value} {ms : List APkt} (h : PRep 27 N w P v ms) (n : Int) :
    Calls Try.prog 11 #[.pointer (some ⟨P, 0, none⟩), .int .i64 n] w fun e w' => e = .returned (.tuple #[(aTakeM ms n).val, .bool (aTakeB ms)]) ∧ PTurn 27 N w P v w' (aTakeL ms n) := by
  by_cases h0 : 0 < ms.length
  · obtain ⟨l1, l2, e1, e2, e3⟩ := psplit (take_some n h0)
    unfold aTakeB aTakeL
    rw [decide_eq_true h0, e3]
    obtain ⟨q, hq⟩ : ∃ q, aTakeM ms n = q := ⟨_, rfl⟩
    rw [hq] at e1 ⊢
    subst e1
    exact Take_B h n e2.symm
  · obtain rfl : ms = [] := List.length_eq_zero_iff.1 (by omega)
    exact Take_Bnone h n
theorem PDbl_any {N : Nat} {w : World} {P : Nat} {v : Value} {ms : List APkt} (h : PRep 47 N w P v ms) (n : Int) :
    Calls Try.prog 12 #[.pointer (some ⟨P, 0, none⟩), .int .i64 n] w fun e w' => e = .returned (.bool (aDblB ms)) ∧ PTurn 47 N w P v w' (aDblL ms n) := by
  unfold aDblB aDblL aSend
  by_cases h0 : 0 < ms.length
  · by_cases hl : ms.length < 40
    · rw [if_pos h0, if_pos hl, decide_eq_true h0, decide_eq_true hl]
      exact Double_P h n h0 hl (take_some n h0)
    · rw [if_pos h0, if_neg hl, decide_eq_true h0, decide_eq_false hl]
      refine (Double_Pnot h n (.inr (by omega))).mono ?_
      rintro e w' ⟨rfl, rfl⟩
      exact ⟨rfl, PTurn.of_below h (Below.refl _ _)⟩
  · rw [if_neg h0, decide_eq_false h0]
    refine (Double_Pnot h n (.inl (by omega))).mono ?_
    rintro e w' ⟨rfl, rfl⟩
    exact ⟨rfl, PTurn.of_below h (Below.refl _ _)⟩
theorem BDbl_any {N : Nat} {w : World} {P : Nat} {v : Value} {ms : List APkt} (h : PRep 27 N w P v ms) (n : Int) :
    Calls Try.prog 13 #[.pointer (some ⟨P, 0, none⟩), .int .i64 n] w fun e w' => e = .returned (.bool (aDblB ms)) ∧ PTurn 27 N w P v w' (aDblL ms n) := by
  unfold aDblB aDblL aSend
  by_cases h0 : 0 < ms.length
  · rw [if_pos h0, decide_eq_true h0, Bool.true_and]
    exact Double_B h n h0 (take_some n h0)
  · obtain rfl : ms = [] := List.length_eq_zero_iff.1 (by omega)
    rw [if_neg h0, decide_eq_false h0]
    refine (Double_Bnot h n).mono ?_
    rintro e w' ⟨rfl, rfl⟩
    exact ⟨rfl, PTurn.of_below h (Below.refl _ _)⟩
theorem PTurn.below {t : TypeId} {N : Nat} {w w' : World} {P : Nat} {v : Value} {ms ms' : List APkt} (h : PRep t N w P v ms) (hT : PTurn t N w P v w' ms') : Below N w w' := by
  obtain ⟨v', hr, hk, hn⟩ := hT
  exact hk.below (Nat.le_trans h.new (Nat.le_of_lt h.lt)) (fun k hk => (h.ge k hk).1)

/-- A Post at P and a Bag at B with the same packets; they share nothing. -/
structure Both (N : Nat) (w : World) (P : Nat) (v : Value) (ms : List APkt) (B : Nat) (u : Value) (bs : List APkt) : Prop where
  p : PRep 47 N w P v ms
  b : PRep 27 N w B u bs
  dj : ∀ k, k ∈ powns P v → k ∉ powns B u
theorem Both.below {N : Nat} {w w' : World} {P : Nat} {v : Value} {ms : List APkt} {B : Nat} {u : Value} {bs : List APkt} (h : Both N w P v ms B u bs) (hb : Below w.heap.size w w') : Both N w' P v ms B u bs := ⟨h.p.below hb, h.b.below hb, h.dj⟩
theorem Both.turnP {N : Nat} {w w' : World} {P : Nat} {v : Value} {ms ms' : List APkt} {B : Nat} {u : Value} {bs : List APkt} (h : Both N w P v ms B u bs) (hT : PTurn 47 N w P v w' ms') : ∃ v', Both N w' P v' ms' B u bs := by
  obtain ⟨v', hr, hk, hn⟩ := hT
  have hd : ∀ k, k ∈ powns B u → k ∉ powns P v := fun k h1 h2 => h.dj k h2 h1
  refine ⟨v', hr, h.b.kept hk hd, fun k h1 h2 => ?_⟩
  rcases hn k h1 with h3 | h3
  · exact h.dj k h3 h2
  · have := (h.b.ge k h2).2; omega
theorem Both.turnB {N : Nat} {w w' : World} {P : Nat} {v : Value} {ms : List APkt} {B : Nat} {u : Value} {bs bs' : List APkt} (h : Both N w P v ms B u bs) (hT : PTurn 27 N w B u w' bs') : ∃ u', Both N w' P v ms B u' bs' := by
  obtain ⟨u', hr, hk, hn⟩ := hT
  refine ⟨u', h.p.kept hk h.dj, hr, fun k h1 h2 => ?_⟩
  rcases hn k h2 with h3 | h3
  · exact h.dj k h1 h3
  · have := (h.p.ge k h1).2; omega

structure APStep where
  act : Int
  n : Int
  m : APkt
def APStep.val (x : APStep) : Value := .agg #[.int .i64 x.act, .int .i64 x.n, .bool x.m.reply, .int .i64 x.m.client, .int .i64 x.m.no, .int .i64 x.m.call.kind, .string x.m.call.name, .string x.m.call.dst, .string x.m.call.text, .int .i64 x.m.code, .string x.m.ans]
def pxcells (x : APStep) : List Value := [.int .i64 x.act, .int .i64 x.n, .bool x.m.reply, .int .i64 x.m.client, .int .i64 x.m.no, .int .i64 x.m.call.kind, .string x.m.call.name, .string x.m.call.dst, .string x.m.call.text, .int .i64 x.m.code, .string x.m.ans]
structure PStepAt (w : World) (b o : Nat) (x : APStep) : Prop where
  y0 : w.cell? ⟨b, o, none⟩ = some (.int .i64 x.act)
  y1 : w.cell? ⟨b, o + 1, none⟩ = some (.int .i64 x.n)
  x0 : w.cell? ⟨b, o + 2, none⟩ = some (.bool x.m.reply)
  x1 : w.cell? ⟨b, o + 3, none⟩ = some (.int .i64 x.m.client)
  x2 : w.cell? ⟨b, o + 4, none⟩ = some (.int .i64 x.m.no)
  x3 : w.cell? ⟨b, o + 5, none⟩ = some (.int .i64 x.m.call.kind)
  x4 : w.cell? ⟨b, o + 6, none⟩ = some (.string x.m.call.name)
  x5 : w.cell? ⟨b, o + 7, none⟩ = some (.string x.m.call.dst)
  x6 : w.cell? ⟨b, o + 8, none⟩ = some (.string x.m.call.text)
  x7 : w.cell? ⟨b, o + 9, none⟩ = some (.int .i64 x.m.code)
  x8 : w.cell? ⟨b, o + 10, none⟩ = some (.string x.m.ans)
theorem PStepAt.lt {w : World} {b o : Nat} {x : APStep} (h : PStepAt w b o x) : b < w.heap.size := World.block_lt_of_cell? w _ h.y0
theorem PStepAt.same {w W : World} {b o : Nat} {x : APStep} (h : PStepAt w b o x) (hb : W.heap[b]? = w.heap[b]?) : PStepAt W b o x := by
  have hc : ∀ j, W.cell? ⟨b, j, none⟩ = w.cell? ⟨b, j, none⟩ := fun j => by simp only [World.cell?, hb]
  exact ⟨(hc _).trans h.y0, (hc _).trans h.y1, (hc _).trans h.x0, (hc _).trans h.x1, (hc _).trans h.x2, (hc _).trans h.x3, (hc _).trans h.x4, (hc _).trans h.x5, (hc _).trans h.x6, (hc _).trans h.x7, (hc _).trans h.x8⟩
theorem PStepAt.blk {w : World} {b : Nat} {x : APStep} {e : TypeId} (h : w.heap[b]? = some (.cells (pxcells x).toArray e (0, 0))) : PStepAt w b 0 x := by
  refine ⟨?_, ?_, ?_, ?_, ?_, ?_, ?_, ?_, ?_, ?_, ?_⟩ <;> rw [cell_of_row w b _ _ _ _ h] <;> rfl
/-- Steps one behind the other lie there. -/
def PStepsAt (w : World) (a : Option Addr) (n : Nat) (xs : List APStep) : Prop :=
  xs.length = n ∧ n ≤ maxLen ∧ (∀ x, x ∈ xs → SmallP x.m) ∧ (0 < n → ∃ b off, a = some ⟨b, off, none⟩ ∧ ∀ (j : Nat) (x : APStep), xs[j]? = some x → PStepAt w b (off + j * 11) x)
theorem PStepsAt.below {w W : World} {a : Option Addr} {n : Nat} {xs : List APStep} (h : PStepsAt w a n xs) (hb : Below w.heap.size w W) : PStepsAt W a n xs := by
  refine ⟨h.1, h.2.1, h.2.2.1, fun h0 => ?_⟩
  obtain ⟨b, off, rfl, hc⟩ := h.2.2.2 h0
  exact ⟨b, off, rfl, fun j r hr => (hc j r hr).same (hb.block b (hc j r hr).lt)⟩
def aPStep (ms : List APkt) (x : APStep) : List APkt := if x.act = 0 then aSend ms x.m else if x.act = 1 then aTakeL ms x.n else if x.act = 2 then aDblL ms x.n else ms

def bp1 : APkt := ⟨false, 0, 1, ⟨0, ⟨#[]⟩, ⟨#[]⟩, ⟨#[]⟩⟩, 0, ⟨#[]⟩⟩
def bp2 : APkt := ⟨false, 0, 2, ⟨0, ⟨#[]⟩, ⟨#[]⟩, ⟨#[]⟩⟩, 0, ⟨#[]⟩⟩
theorem bp_small : SmallP bp1 ∧ SmallP bp2 := by unfold SmallP bp1 bp2; decide
theorem bp_d : aDblL [bp1, bp2] 3 = [bp1, bp2, bp2] ∧ aTakeM [bp1, bp2, bp2] 0 = bp1 ∧ aTakeL [bp1, bp2, bp2] 0 = [bp2, bp2] := by
  have h1 : rnd 3 2 = 1 := by unfold rnd; rw [wrap_u]; rfl
  have h2 : rnd 0 3 = 0 := by unfold rnd; rw [wrap_u]; rfl
  refine ⟨?_, ?_, ?_⟩
  · unfold aDblL aSend aTakeM
    show (if 0 < 2 then _ else _) = _
    simp [h1]
  · unfold aTakeM
    simp [h2]
  · unfold aTakeL
    simp [h2]

set_option maxRecDepth 100000 in
set_option maxHeartbeats 8000000 in
theorem postBegun_any (w : World) : Calls Try.prog 6 #[] w fun e w' => e = .returned (.bool true) ∧ Below w.heap.size w w' := by
  have HN := hide (New_P w)
  obtain ⟨hsm1, hsm2⟩ := bp_small
  obtain ⟨hd1, hd2, hd3⟩ := bp_d
  have h0 := PRep.start 47 w
  have HS1 := hide (PSend_any h0 bp1 hsm1)
  have HB0 : Hid (Below w.heap.size w (w.alloc (.cells #[.slice none 0 0] 47))) := (Below.refl _ _).alloc (Nat.le_refl _) _
  have e1 : aSend [] bp1 = [bp1] := rfl
  rw [e1] at HS1
  have HR0 := hide h0
  have HSM := hide hsm2
  have HD := hide (And.intro hd1 (And.intro hd2 hd3))
  clear h0 hsm1 hsm2 hd1 hd2 hd3 e1
  dsimp only [APkt.val, bp1] at HS1
  go_enter Try.func6, Try.ntmps6
  go_wp2_with fail
  refine (unhide HN).mono ?_
  rintro e w1 ⟨rfl, rfl⟩
  go_wp2_with fail
  refine (unhide HS1).mono ?_
  rintro e w2 ⟨rfl, hT⟩
  have hb2 := (unhide HB0).trans (hT.below (unhide HR0))
  obtain ⟨v2, hr2, _, _⟩ := hT
  have HS2 := hide (PSend_any hr2 bp2 (unhide HSM))
  have HB2 := hide hb2
  have HR2 := hide hr2
  clear hb2 hr2
  have e2 : aSend [⟨false, 0, 1, ⟨0, ⟨#[]⟩, ⟨#[]⟩, ⟨#[]⟩⟩, 0, ⟨#[]⟩⟩] bp2 = [bp1, bp2] := rfl
  rw [e2] at HS2
  clear e2
  dsimp only [APkt.val, bp2] at HS2
  go_wp2_with fail
  refine (unhide HS2).mono ?_
  rintro e w3 ⟨rfl, hT⟩
  have hb3 := (unhide HB2).trans (hT.below (unhide HR2))
  obtain ⟨v3, hr3, _, _⟩ := hT
  have hd := PDbl_any hr3 3
  have e3 : aDblL [bp1, ⟨false, 0, 2, ⟨0, ⟨#[]⟩, ⟨#[]⟩, ⟨#[]⟩⟩, 0, ⟨#[]⟩⟩] 3 = [bp1, bp2, bp2] := (unhide HD).1
  have e4 : aDblB [bp1, ⟨false, 0, 2, ⟨0, ⟨#[]⟩, ⟨#[]⟩, ⟨#[]⟩⟩, 0, ⟨#[]⟩⟩] = true := rfl
  rw [e3, e4] at hd
  have HS3 := hide hd
  have HB3 := hide hb3
  have HR3 := hide hr3
  clear hb3 hr3 hd e3 e4
  go_wp2_with fail
  refine (unhide HS3).mono ?_
  rintro e w4 ⟨rfl, hT⟩
  have hb4 := (unhide HB3).trans (hT.below (unhide HR3))
  obtain ⟨v4, hr4, _, _⟩ := hT
  have hd := PTake_any hr4 0
  rw [(unhide HD).2.1, (unhide HD).2.2] at hd
  have e4 : aTakeB [bp1, bp2, bp2] = true := rfl
  rw [e4] at hd
  have HS4 := hide hd
  have HB4 := hide hb4
  have HR4 := hide hr4
  clear hb4 hr4 hd e4
  dsimp only [APkt.val, bp1] at HS4
  go_wp2_with fail
  refine (unhide HS4).mono ?_
  rintro e w5 ⟨rfl, hT⟩
  have hb5 := (unhide HB4).trans (hT.below (unhide HR4))
  obtain ⟨v5, hr5, _, _⟩ := hT
  obtain ⟨V, hV⟩ : ∃ V, V = w5.alloc (.cells #[.bool false, .int .i64 0, .int .i64 1, .int .i64 0, .string ⟨#[]⟩, .string ⟨#[]⟩, .string ⟨#[]⟩, .int .i64 0, .string ⟨#[]⟩] 33) := ⟨_, rfl⟩
  have hbV : Below w5.heap.size w5 V := by rw [hV]; exact (Below.refl _ _).alloc (Nat.le_refl _) _
  have hrV := hr5.below hbV
  have HLN := hide (Len_P hrV (k := 2) rfl)
  have HLI := hide (List_P hrV (n := 2) rfl)
  have HBV := hide (hb5.trans (hbV.mono hb5.size))
  have hxV : V.heap[w5.heap.size]? = some (.cells #[.bool false, .int .i64 0, .int .i64 1, .int .i64 0, .string ⟨#[]⟩, .string ⟨#[]⟩, .string ⟨#[]⟩, .int .i64 0, .string ⟨#[]⟩] 33 (0, 0)) := by rw [hV]; exact heap_alloc_new _ _
  obtain ⟨⟨x0, x1, x2, x3⟩, ⟨x4, x5, x6, x7, x8⟩, xf⟩ := nine hxV
  have HV := hide hV
  clear hb5 hr5 hV hbV hrV hxV
  go_wp2_with fail
  rw [← unhide HV]
  refine (unhide HLN).mono ?_
  rintro e w6 ⟨rfl, hw6⟩
  obtain rfl := hw6.symm
  clear hw6
  go_wp2_with fail
  refine (unhide HLI).mono ?_
  rintro e w7 ⟨g, cap, rfl, ho, b7⟩
  have HBF := hide ((unhide HBV).trans (b7.mono (unhide HBV).size))
  clear ho b7
  go_wp2
  go_ret
  exact ⟨rfl, unhide HBF⟩

end Go.Proofs.Ytlndphpidkacgab
