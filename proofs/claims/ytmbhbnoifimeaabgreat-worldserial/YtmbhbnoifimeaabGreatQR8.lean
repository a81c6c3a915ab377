/- Texts joined, what is needed of them: Vs0 Vs OpenP VOpen. -/
import Derived.Test.YtmbhbnoifimeaabGreatQR7
import Derived.SizedLaws
namespace Go.Proofs.YtmbhbnoifimeaabGreat
open Go.RowKit
set_option linter.unusedSimpArgs false
set_option linter.unusedVariables false

theorem three' {w : World} {b : Nat} {x0 x1 x2 : Value} {e : TypeId} (h : w.heap[b]? = some (.cells #[x0, x1, x2] e (0, 0))) :
    (w.cell? ⟨b, 0, none⟩ = some x0 ∧ w.cell? ⟨b, 1, none⟩ = some x1 ∧ w.cell? ⟨b, 2, none⟩ = some x2) ∧ ∀ j, w.frozen? ⟨b, j, none⟩ = false := by
  refine ⟨⟨?_, ?_, ?_⟩, fun j => frozen_of_row w b j _ _ h⟩ <;> rw [cell_of_row w b _ _ _ _ h] <;> rfl
def i3 (f : Nat → Nat) : Array Value := #[.int .i64 (f 0 : Int), .int .i64 (f 1 : Int), .int .i64 (f 2 : Int)]
theorem i3_cell {w : World} {b : Nat} {f : Nat → Nat} {e : TypeId} (h : w.heap[b]? = some (.cells (i3 f) e (0, 0))) : (∀ n, n < 3 → w.cell? ⟨b, n, none⟩ = some (.int .i64 (f n : Int))) ∧ ∀ j, w.frozen? ⟨b, j, none⟩ = false := by
  unfold i3 at h
  obtain ⟨⟨h0, h1, h2⟩, hf⟩ := three' h
  refine ⟨fun n hn => ?_, hf⟩
  match n, hn with
  | 0, _ => exact h0
  | 1, _ => exact h1
  | 2, _ => exact h2
theorem i3_set {w : World} {b : Nat} {f : Nat → Nat} {e : TypeId} (h : w.heap[b]? = some (.cells (i3 f) e (0, 0))) {n : Nat} (hn : n < 3) (v : Nat) : (w.setCell ⟨b, n, none⟩ (.int .i64 (v : Int))).heap[b]? = some (.cells (i3 (updN f n v)) e (0, 0)) := by
  rw [heap_setCell_same h]
  match n, hn with
  | 0, _ => rfl
  | 1, _ => rfl
  | 2, _ => rfl
/-- The state of the first loop. -/
structure SerSt (N : Nat) (w : World) (W : Nat) (o : WOwn) (A : AW) (fr : Nat → Nat) (FB : Nat) : Prop where
  rep : WRep N w W o A
  inv : WInv A
  si : SInv A fr
  ge : N ≤ FB
  blk : w.heap[FB]? = some (.cells (i3 fr) 76 (0, 0))
  nF : FB ∉ o.all W
section
variable {N : Nat} {w w' : World} {W : Nat} {o o2 : WOwn} {A A2 : AW} {fr fr' : Nat → Nat} {FB : Nat}
theorem SerSt.lt (h : SerSt N w W o A fr FB) : FB < w.heap.size := (Array.getElem?_eq_some_iff.1 h.blk).1
theorem SerSt.below (h : SerSt N w W o A fr FB) (hb : Below w.heap.size w w') : SerSt N w' W o A fr FB := ⟨h.rep.below hb, h.inv, h.si, h.ge, (hb.block FB h.lt).trans h.blk, h.nF⟩
theorem SerSt.kept {ow : List Nat} (h : SerSt N w W o A fr FB) (hk : Kept ow w w') (hd : ∀ b, b ∈ o.all W → b ∉ ow) (hF : FB ∉ ow) : SerSt N w' W o A fr FB := ⟨h.rep.kept hk hd, h.inv, h.si, h.ge, (hk.block FB h.lt hF).trans h.blk, h.nF⟩
theorem SerSt.start (h : WRep N w W o AW.start) : SerSt N (w.alloc (.cells #[.int .i64 0, .int .i64 0, .int .i64 0] 76)) W o AW.start (fun _ => 0) w.heap.size :=
  ⟨h.below ((Below.refl _ _).alloc (Nat.le_refl _) _), WInv.start, SInv.start, h.size, heap_alloc_new w _, h.not_new (Nat.le_refl _)⟩
end
/-- How much each client was answered, written down for the first q. -/
structure WasSt (V : World) (WB : Nat) (D : Nat → Nat) (q : Nat) (wx : World) : Prop where
  kp : Kept [WB] V wx
  blk : wx.heap[WB]? = some (.cells (i3 (fun i => if i < q then D i else 0)) 76 (0, 0))
theorem WasSt.next {V : World} {WB : Nat} {D : Nat → Nat} {q : Nat} {wx w4 : World} (h : WasSt V WB D q wx) (hq : q < 3) (hb : Below wx.heap.size wx w4) : WasSt V WB D (q + 1) (w4.setCell ⟨WB, q, none⟩ (.int .i64 (D q : Int))) := by
  have hlt := (Array.getElem?_eq_some_iff.1 h.blk).1
  have h4 := (hb.block WB hlt).trans h.blk
  have k : Kept [WB] w4 (w4.setCell ⟨WB, q, none⟩ (.int .i64 (D q : Int))) := kept_setCell [WB] w4 WB q _ (by simp)
  refine ⟨(h.kp.trans (Kept.of_below (own := [WB]) hb) (fun x hx => .inl hx)).trans k (fun x hx => .inl hx), ?_⟩
  rw [i3_set h4 hq]
  match q, hq with
  | 0, _ => rfl
  | 1, _ => rfl
  | 2, _ => rfl
theorem WasSt.full {V : World} {WB : Nat} {D : Nat → Nat} {wx : World} (h : WasSt V WB D 3 wx) : wx.heap[WB]? = some (.cells (i3 D) 76 (0, 0)) := h.blk
theorem nq34 (d : Int) (u : ByteArray) (w : World) : (binOp .neq 59 (.agg #[.int .i64 d, .string u]) (.agg #[.int .i64 d, .string u])).run Tryz.prog w = .ok (.bool false) w := by
  have h := equal34 9998 d d u u w
  unfold ansCells at h
  rw [run_neq_struct, h]
  simp
theorem gd34 (bo : BinOp) (x y : Operand) (c c' : Array Value) (wz : World) (h : bo = .neq ∨ bo = .eql) : (eqGuard bo 59 x y (.agg c) (.agg c')).run Tryz.prog wz = .ok () wz := by
  rcases h with rfl | rfl <;> (unfold eqGuard; simp [Tryz.eqGuardType59])
theorem DTurned.belowN {w w' : World} {N D : Nat} {v : Value} {st st' : List AFile} (h : DRep w N D v st) (hT : DTurned w N D v w' st') : Below N w w' ∧ ∃ v', DRep w' N D v' st' := by
  obtain ⟨v', hr, hk, hn⟩ := hT
  refine ⟨hk.below (Nat.le_trans h.new (Nat.le_of_lt h.ltD)) (fun k hk' => ?_), v', hr⟩
  rcases List.mem_cons.1 hk' with rfl | hk'
  · exact h.new
  · exact (h.row.lt k (by simpa using hk')).1

end Go.Proofs.YtmbhbnoifimeaabGreat

namespace Go.Proofs.YtmbhbnoifimeaabGreat
open Go.RowKit
set_option linter.unusedSimpArgs false
set_option linter.unusedVariables false

set_option maxRecDepth 100000 in
set_option maxHeartbeats 16000000 in
theorem serial_walk (a0 : Option Addr) (n0 c0 : Nat) (ls : List AX) (w : World) (hl : XsAt w a0 n0 ls) :
    Calls Tryz.prog 5 #[.slice a0 n0 c0] w fun e w' => e = .returned (.bool true) ∧ Below w.heap.size w w' := by
  have HBG := hide worldBegun_any
  have HL := hide hl
  have HGR := hide (fun W (hb : Below w.heap.size w W) => greatSteps_any a0 n0 c0 ls W (hl.below hb))
  have HNEW := hide WNew_any
  clear hl
  go_enter Tryz.func5, Tryz.ntmps5
  go_wp2_with fail
  refine ((unhide HBG) _).mono ?_
  rintro e w1 ⟨rfl, b1⟩
  have HB1 := hide b1
  go_wp2_with fail
  refine ((unhide HGR) _ b1).mono ?_
  rintro e w2 ⟨⟨r, rfl, hr⟩, b2⟩
  have HB2 := hide (b1.trans (b2.mono b1.size))
  have HRF := hide hr
  clear b1 b2 HB1 hr
  cases r
  rotate_left 1
  · go_wp2
    go_ret
    exact ⟨rfl, unhide HB2⟩
  have hn0 := (unhide HRF) rfl
  clear HRF HBG HGR
  go_wp2_with fail
  refine ((unhide HNEW) _).mono ?_
  rintro e w3 ⟨W, o0, rfl, hr0, hb0⟩
  have HR0 := hide hr0
  have HB0 := hide hb0
  have hz2 : w.heap.size ≤ w2.heap.size := (unhide HB2).size
  clear hr0 hb0
  obtain ⟨VA, hVA⟩ : ∃ V, V = w3.alloc (.cells #[.int .i64 0, .int .i64 0, .int .i64 0] 76) := ⟨_, rfl⟩
  have hBA : Below w3.heap.size w3 VA := by rw [hVA]; exact (Below.refl _ _).alloc (Nat.le_refl _) _
  have HS0 := hide (SerSt.start (unhide HR0))
  have HBA := hide ((unhide HB0).trans (hBA.mono (unhide HB0).size))
  rw [← hVA] at HS0
  have HVA := hide hVA
  obtain ⟨FB, hFB⟩ : ∃ FB, FB = w3.heap.size := ⟨_, rfl⟩
  rw [← hFB] at HS0
  have HFB := hide hFB
  clear hVA hBA HR0 hFB
  go_wp2_with fail
  rw [← unhide HVA, ← unhide HFB]
  go_loopw [5, 6, 7, 8, 9, 10, 11, 12, 13, 14, 15, 16] (fun i _ _ _ _ _ _ _ _ _ _ _ wr => ∃ (q : Nat) (o : WOwn) (A : AW) (fr : Nat → Nat), q ≤ n0 ∧ i = .int .i64 (q : Int) ∧ Hid (SerSt w2.heap.size wr W o A fr FB) ∧ Hid (Below w2.heap.size w2 wr)) (fun i _ _ _ _ _ _ _ _ _ _ _ _ => n0 - (intOf i).toNat)
  case atStart => exact ⟨0, o0, AW.start, _, Nat.zero_le _, rfl, unhide HS0, unhide HBA⟩
  case round =>
    obtain ⟨q, o, A, fr, hq, rfl, HS, HB⟩ := hrel
    have HBw := hide ((unhide HB2).trans ((unhide HB).mono hz2))
    by_cases hlt : (q : Int) < (n0 : Int)
    · obtain ⟨x, hx⟩ : ∃ x, ls[q]? = some x := ⟨_, List.getElem?_eq_getElem (by rw [(unhide HL).1]; omega)⟩
      obtain ⟨b, off, rfl, hc⟩ := ((unhide HL).below (unhide HBw)).2.2.2 (by omega)
      have hxa := hc q x hx
      have hsz := (unhide HL).2.2.1 x (List.mem_of_getElem? hx)
      obtain ⟨V, hV⟩ : ∃ V, V = (wr.alloc (.cells #[.int .i64 x.kind, .int .i64 x.n, .int .i64 x.keep, .int .i64 x.call.kind, .string x.call.name, .string x.call.dst, .string x.call.text] 69)).alloc (.cells #[.int .i64 0, .int .i64 0, .int .i64 0] 76) := ⟨_, rfl⟩
      have hBV : Below wr.heap.size wr V := by rw [hV]; exact ((Below.refl _ _).alloc (Nat.le_refl _) _).alloc (by simp) _
      have hXV : V.heap[wr.heap.size]? = some (.cells #[.int .i64 x.kind, .int .i64 x.n, .int .i64 x.keep, .int .i64 x.call.kind, .string x.call.name, .string x.call.dst, .string x.call.text] 69 (0, 0)) := by rw [hV, Below.heap_alloc _ _ _ (by simp)]; exact heap_alloc_new _ _
      have hWV : V.heap[wr.heap.size + 1]? = some (.cells (i3 (fun _ => 0)) 76 (0, 0)) := by
        rw [hV]
        have := heap_alloc_new (wr.alloc (.cells #[.int .i64 x.kind, .int .i64 x.n, .int .i64 x.keep, .int .i64 x.call.kind, .string x.call.name, .string x.call.dst, .string x.call.text] 69)) (.cells #[.int .i64 0, .int .i64 0, .int .i64 0] 76)
        rw [al_size] at this
        exact this
      obtain ⟨WB, hWB⟩ : ∃ WB, WB = wr.heap.size + 1 := ⟨_, rfl⟩
      obtain ⟨XB, hXB⟩ : ∃ XB, XB = wr.heap.size := ⟨_, rfl⟩
      rw [← hWB] at hWV
      rw [← hXB] at hXV
      have hSV := (unhide HS).below hBV
      have hXl : XB < V.heap.size := (Array.getElem?_eq_some_iff.1 hXV).1
      have hWl : WB < V.heap.size := (Array.getElem?_eq_some_iff.1 hWV).1
      have hnX : XB ∉ o.all W := (unhide HS).rep.not_new (by omega)
      have hnW : WB ∉ o.all W := (unhide HS).rep.not_new (by omega)
      have hFW : FB ≠ WB := by have := (unhide HS).lt; omega
      have hXW : XB ≠ WB := by omega
      have hXF : XB ≠ FB := by have := (unhide HS).lt; omega
      have HSX := hide (fun wx (hk : Kept [WB] V wx) => hSV.kept hk (fun b hb hm => by simp at hm; subst hm; exact hnW hb) (by simpa using hFW))
      obtain ⟨D, hDe⟩ : ∃ D : Nat → Nat, D = fun i => (A.cl i).done.length := ⟨_, rfl⟩
      have hDD : ∀ i, (A.cl i).done.length = D i := fun i => by rw [hDe]
      have HDD := hide hDD
      have HXK := hide (fun wx (hk : Kept [WB] V wx) => (hk.block XB hXl (by simpa using hXW)).trans hXV)
      have HW0 : Hid (WasSt V WB D 0 V) := ⟨Kept.refl _ _, hWV⟩
      have HBV := hide ((unhide HB).trans (hBV.mono (unhide HB).size))
      have HGW : Hid (w2.heap.size ≤ WB) := by have := (unhide HB).size; show w2.heap.size ≤ WB; omega
      have HSTEP := hide (fun wx (hk : Kept [WB] V wx) => Step_any (hSV.kept hk (fun b hb hm => by simp at hm; subst hm; exact hnW hb) (by simpa using hFW)).rep x hsz)
      have HADV := hide ((unhide HS).si.step (unhide HS).inv x)
      have HINV2 := hide ((unhide HS).inv.step hsz)
      have HCALLS := hide (step_calls A x)
      have HFG := hide (unhide HS).ge
      have HNF := hide (unhide HS).nF
      have HNXW := hide (And.intro hnX hnW)
      have HLTS := hide (And.intro hXl hWl)
      have HV := hide hV
      have HXBe := hide hXB
      have HWBe := hide hWB
      have HNE := hide (And.intro hFW (And.intro hXW hXF))
      generalize A.step x = R at HSTEP HADV HINV2 HCALLS
      obtain ⟨r1, A2⟩ := R
      dsimp only at HSTEP HADV HINV2 HCALLS
      clear hc hx hsz hV hBV hXV hWV hWB hXB hSV hXl hWl hnX hnW hFW hXW hXF hDe
      obtain ⟨xk, xn, xp, ⟨ck, ca, cb, ct⟩⟩ := x
      obtain ⟨g0, g1, g2, g3, g4, g5, g6⟩ := hxa
      dsimp only [AX.val] at HSTEP HADV HXK HV HCALLS g0 g1 g2 g3 g4 g5 g6
      have hqi : (0 : Int) ≤ (q : Int) := by omega
      go_wp2_with fail
      rw [← unhide HV, ← unhide HWBe, ← unhide HXBe]
      clear g0 g1 g2 g3 g4 g5 g6
      go_loopw [8] (fun c wr => ∃ q2 : Nat, q2 ≤ 3 ∧ c = .int .i64 (q2 : Int) ∧ Hid (WasSt V WB D q2 wr)) (fun c _ => 3 - (intOf c).toNat)
      case atStart => exact ⟨0, Nat.zero_le _, rfl, unhide HW0⟩
      case round =>
        obtain ⟨q2, hq2, rfl, HQ⟩ := hrel
        match q2, hq2 with
        | 0, _ =>
          have HC1 := hide (Client_some ((unhide HSX) _ (unhide HQ).kp).rep 0 (by omega))
          have HDN := hide (Done_any (((unhide HSX) _ (unhide HQ).kp).rep.c 0 (by omega)) (n := D 0) (hDD 0))
          have HNX := hide (fun w4 (hb : Below wr.heap.size wr w4) => (unhide HQ).next (by omega) hb)
          have HWL : Hid (∀ w4, Below wr.heap.size wr w4 → w4.cell? ⟨WB, 0, none⟩ = some (.int .i64 (((if 0 < 0 then D 0 else 0 : Nat)) : Int)) ∧ w4.frozen? ⟨WB, 0, none⟩ = false) := fun w4 hb => by
            have h9 := i3_cell ((hb.block WB (Array.getElem?_eq_some_iff.1 (unhide HQ).blk).1).trans (unhide HQ).blk)
            exact ⟨h9.1 0 (by omega), h9.2 0⟩
          generalize o.X 0 = X at HC1 HDN
          go_wp2_with fail
          refine (unhide HC1).mono ?_
          rintro e w3 ⟨rfl, hw⟩
          subst hw
          go_wp2_with fail
          refine (unhide HC1).mono ?_
          rintro e w3 ⟨rfl, hw⟩
          subst hw
          go_wp2_with fail
          refine (unhide HDN).mono ?_
          rintro e w4 ⟨g4, c4, rfl, ho4, hb4⟩
          obtain ⟨hc4, hf4⟩ := (unhide HWL) _ hb4
          have HN4 := hide ((unhide HNX) _ hb4)
          clear ho4 hb4
          go_wp2
          go_roundw
          case rel => exact ⟨1, by omega, rfl, unhide HN4⟩
          case measure => simp [intOf]
        | 1, _ =>
          have HC1 := hide (Client_some ((unhide HSX) _ (unhide HQ).kp).rep 1 (by omega))
          have HDN := hide (Done_any (((unhide HSX) _ (unhide HQ).kp).rep.c 1 (by omega)) (n := D 1) (hDD 1))
          have HNX := hide (fun w4 (hb : Below wr.heap.size wr w4) => (unhide HQ).next (by omega) hb)
          have HWL : Hid (∀ w4, Below wr.heap.size wr w4 → w4.cell? ⟨WB, 1, none⟩ = some (.int .i64 (((if 1 < 1 then D 1 else 0 : Nat)) : Int)) ∧ w4.frozen? ⟨WB, 1, none⟩ = false) := fun w4 hb => by
            have h9 := i3_cell ((hb.block WB (Array.getElem?_eq_some_iff.1 (unhide HQ).blk).1).trans (unhide HQ).blk)
            exact ⟨h9.1 1 (by omega), h9.2 1⟩
          generalize o.X 1 = X at HC1 HDN
          go_wp2_with fail
          refine (unhide HC1).mono ?_
          rintro e w3 ⟨rfl, hw⟩
          subst hw
          go_wp2_with fail
          refine (unhide HC1).mono ?_
          rintro e w3 ⟨rfl, hw⟩
          subst hw
          go_wp2_with fail
          refine (unhide HDN).mono ?_
          rintro e w4 ⟨g4, c4, rfl, ho4, hb4⟩
          obtain ⟨hc4, hf4⟩ := (unhide HWL) _ hb4
          have HN4 := hide ((unhide HNX) _ hb4)
          clear ho4 hb4
          go_wp2
          go_roundw
          case rel => exact ⟨2, by omega, rfl, unhide HN4⟩
          case measure => simp [intOf]
        | 2, _ =>
          have HC1 := hide (Client_some ((unhide HSX) _ (unhide HQ).kp).rep 2 (by omega))
          have HDN := hide (Done_any (((unhide HSX) _ (unhide HQ).kp).rep.c 2 (by omega)) (n := D 2) (hDD 2))
          have HNX := hide (fun w4 (hb : Below wr.heap.size wr w4) => (unhide HQ).next (by omega) hb)
          have HWL : Hid (∀ w4, Below wr.heap.size wr w4 → w4.cell? ⟨WB, 2, none⟩ = some (.int .i64 (((if 2 < 2 then D 2 else 0 : Nat)) : Int)) ∧ w4.frozen? ⟨WB, 2, none⟩ = false) := fun w4 hb => by
            have h9 := i3_cell ((hb.block WB (Array.getElem?_eq_some_iff.1 (unhide HQ).blk).1).trans (unhide HQ).blk)
            exact ⟨h9.1 2 (by omega), h9.2 2⟩
          generalize o.X 2 = X at HC1 HDN
          go_wp2_with fail
          refine (unhide HC1).mono ?_
          rintro e w3 ⟨rfl, hw⟩
          subst hw
          go_wp2_with fail
          refine (unhide HC1).mono ?_
          rintro e w3 ⟨rfl, hw⟩
          subst hw
          go_wp2_with fail
          refine (unhide HDN).mono ?_
          rintro e w4 ⟨g4, c4, rfl, ho4, hb4⟩
          obtain ⟨hc4, hf4⟩ := (unhide HWL) _ hb4
          have HN4 := hide ((unhide HNX) _ hb4)
          clear ho4 hb4
          go_wp2
          go_roundw
          case rel => exact ⟨3, by omega, rfl, unhide HN4⟩
          case measure => simp [intOf]
        | 3, _ =>
          have hS3 := (unhide HSX) _ (unhide HQ).kp
          have hX3 := (unhide HXK) _ (unhide HQ).kp
          have HST := hide ((unhide HSTEP) _ (unhide HQ).kp)
          have HB3 := hide ((unhide HBV).trans ((unhide HQ).kp.below (unhide HBV).size (fun k hk => by simp at hk; subst hk; exact unhide HGW)))
          have HW3 := hide (unhide HQ).full
          have HS3 := hide hS3
          have HX3 := hide hX3
          have HSZ3 := hide (unhide HQ).kp.size
          obtain ⟨⟨x0, x1, x2, x3⟩, ⟨x4, x5, x6⟩, xf⟩ := seven hX3
          clear hS3 hX3
          go_wp2_with fail
          refine (unhide HST).mono ?_
          rintro e w4 ⟨rfl, hT⟩
          have hb4 := hT.below
          obtain ⟨o4, hr4, hn4⟩ := hT
          have hlX : XB < wr.heap.size := Nat.lt_of_lt_of_le (unhide HLTS).1 (unhide HSZ3)
          have hlW : WB < wr.heap.size := Nat.lt_of_lt_of_le (unhide HLTS).2 (unhide HSZ3)
          obtain ⟨hx41, hx42⟩ := hn4.keep XB hlX (unhide HNXW).1
          obtain ⟨hw41, hw42⟩ := hn4.keep WB hlW (unhide HNXW).2
          obtain ⟨hf41, hf42⟩ := hn4.keep FB (unhide HS3).lt (unhide HNF)
          have HR4 := hide hr4
          have HX4 := hide (hx42.trans (unhide HX3))
          have HW4 := hide (hw42.trans (unhide HW3))
          have HF4 := hide (hf42.trans (unhide HS3).blk)
          have HNF4 := hide hf41
          have HB4 := hide ((unhide HB3).trans hb4)
          obtain ⟨T, hT⟩ : ∃ T, (logB A2.log).length = T := ⟨_, rfl⟩
          have hT2000 : T ≤ 2000 := by rw [← hT]; exact hr4.ss
          have HLG := hide (Log_T hr4.s hr4.ss hT)
          have hsc := hr4.cells.1.1
          generalize o4.S = S at HLG hsc
          obtain ⟨nL, hnL⟩ : ∃ nL, A2.log.length = nL := ⟨_, rfl⟩
          have HNL := hide hnL
          have HTT := hide hT
          have HALL := hide (allR_log (unhide HINV2).good)
          have hnL2 : nL ≤ 2000 := by have h1 := (unhide HINV2).good.few; omega
          clear hnL hT hb4 hr4 hn4 hlX hlW hx41 hx42 hw41 hw42 hf41 hf42 x0 x1 x2 x3 x4 x5 x6 xf
          go_wp2_with fail
          refine (unhide HLG).mono ?_
          rintro e w5 ⟨a5, c5, rfl, ho5, hb5⟩
          obtain ⟨hby5, hnil5, hcap5⟩ := ho5.by (unhide HTT)
          have hro := RecordsOf_by a5 T c5 (logB A2.log) w5 hby5 (unhide HTT) hcap5 (by omega) hnil5
          rw [unhide HALL] at hro
          unfold AllRes at hro
          dsimp only at hro
          rw [unhide HNL, unhide HTT] at hro
          have HRO := hide hro
          have HB45 := hide hb5
          clear ho5 hby5 hnil5 hcap5 hro hb5 hsc
          go_wp2_with fail
          refine (unhide HRO).mono ?_
          rintro e w6 ⟨a6, c6, rfl, ho6, hb6⟩
          have HB46 := hide ((unhide HB45).trans (hb6.mono (unhide HB45).size))
          have HREC6 := hide (recs_row ho6 (unhide HNL))
          have HCAP : Hid (nL ≤ c6) := row_cap ho6
          have HRBL : Hid (∀ A', a6 = some A' → A'.block < w6.heap.size ∧ A'.block ≠ FB) := fun A' hA => by
            subst hA
            obtain ⟨g, hg, _⟩ := row_some ho6
            have h9 := ho6.lt g (by rw [hg]; rfl)
            have h8 := (Array.getElem?_eq_some_iff.1 (unhide HF4)).1
            have h7 := (unhide HB45).size
            rw [hg]
            exact ⟨h9.2, by show g ≠ FB; omega⟩
          have HR6 := hide ((unhide HR4).below (unhide HB46))
          have hX6 := ((unhide HB46).block XB (Array.getElem?_eq_some_iff.1 (unhide HX4)).1).trans (unhide HX4)
          have HW6 := hide (((unhide HB46).block WB (Array.getElem?_eq_some_iff.1 (unhide HW4)).1).trans (unhide HW4))
          have HF6 := hide (((unhide HB46).block FB (Array.getElem?_eq_some_iff.1 (unhide HF4)).1).trans (unhide HF4))
          have HB6 := hide ((unhide HB4).trans ((unhide HB46).mono (unhide HB4).size))
          have HSML := hide ((unhide HINV2).good.small)
          obtain ⟨⟨x0, x1, x2, x3⟩, ⟨x4, x5, x6⟩, xf⟩ := seven hX6
          rw [unhide HNL] at HADV
          clear ho6 hb6 HRO hX6 HB45 HLG
          have hDD := unhide HDD
          by_cases hask : xk = 1 ∧ r1 = 0
          · obtain ⟨rfl, rfl⟩ := hask
            obtain ⟨hn0', hn2, _⟩ := (unhide HCALLS).1 ⟨rfl, rfl⟩
            have hfrb : frB fr ⟨1, xn, xp, ⟨ck, ca, cb, ct⟩⟩ 0 nL = updN fr xn.toNat nL := by unfold frB; rw [if_pos ⟨rfl, rfl, hn0', hn2⟩]
            rw [hfrb] at HADV
            clear hfrb
            obtain ⟨n, rfl⟩ : ∃ n : Nat, xn = (n : Int) := ⟨xn.toNat, by omega⟩
            rw [Int.toNat_natCast] at HADV
            have hn3 : n < 3 := by omega
            have hni3 : (n : Int) < 3 := by omega
            obtain ⟨w7, hw7⟩ : ∃ w7, w7 = w6.setCell ⟨FB, n, none⟩ (.int .i64 (nL : Int)) := ⟨_, rfl⟩
            have hk7 : Kept [FB] w6 w7 := by rw [hw7]; exact kept_setCell [FB] w6 FB n _ (by simp)
            have hF7 : w7.heap[FB]? = some (.cells (i3 (updN fr n nL)) 76 (0, 0)) := by rw [hw7]; exact i3_set (unhide HF6) hn3 nL
            have HS7 : Hid (SerSt w2.heap.size w7 W o4 A2 (updN fr n nL) FB) := ⟨(unhide HR6).kept hk7 (fun b hb hm => by simp at hm; subst hm; exact (unhide HNF4) hb), unhide HINV2, (unhide HADV).1, unhide HFG, hF7, unhide HNF4⟩
            have HADD := hide (unhide HADV).2
            have HW7 := hide ((hk7.block WB (Array.getElem?_eq_some_iff.1 (unhide HW6)).1 (by simp; exact fun e => (unhide HNE).1 e.symm)).trans (unhide HW6))
            have HREC7 := hide ((unhide HREC6).same (W := w7) (fun A' hA => by
              refine hk7.block _ ?_ ?_
              · exact (unhide HRBL) A' hA |>.1
              · have := (unhide HRBL) A' hA |>.2
                simpa using this))
            have HB7 := hide ((unhide HB6).trans (hk7.below (unhide HB6).size (fun k hk => by simp at hk; subst hk; exact unhide HFG)))
            have hfc := (i3_cell (unhide HF6)).1 n hn3
            have hff := (i3_cell (unhide HF6)).2 n
            have HW7e := hide hw7
            have hn0I : (0 : Int) ≤ (n : Int) := by omega
            clear hn2 hn0' HCALLS hw7 hk7 hF7 HADV
            go_wp2_with fail
            obtain ⟨fr', hfr'⟩ : ∃ fr', fr' = updN fr n nL := ⟨_, rfl⟩
            rw [← hfr'] at HS7 HADD
            clear hfr'
            rw [← unhide HW7e]
            go_loopw [12, 13, 14, 15, 16] (fun c _ _ _ _ wr => ∃ q3 : Nat, q3 ≤ 3 ∧ c = .int .i64 (q3 : Int) ∧ Hid (Below w7.heap.size w7 wr)) (fun c _ _ _ _ _ => 3 - (intOf c).toNat)
            case atStart => exact ⟨0, Nat.zero_le _, rfl, Below.refl _ _⟩
            case round =>
              obtain ⟨q3, hq3, rfl, HB3⟩ := hrel
              by_cases hl3 : (q3 : Int) < 3
              · have hq33 : q3 < 3 := by omega
                have HCL := hide (Client_some ((unhide HS7).rep.below (unhide HB3)) q3 hq33)
                obtain ⟨D2, hD2⟩ : ∃ D2, (A2.cl q3).done.length = D2 := ⟨_, rfl⟩
                have HDN := hide (Done_any (((unhide HS7).rep.below (unhide HB3)).c q3 hq33) hD2)
                have hD3 : D2 ≤ 200 := by rw [← hD2]; exact ((unhide HS7).inv.cok q3 hq33).few
                have hadd := (unhide HADD) q3 hq33
                obtain ⟨Dq, hDqe⟩ : ∃ Dq, D q3 = Dq := ⟨_, rfl⟩
                have hDq : (A.cl q3).done.length = Dq := by rw [← hDqe]; exact hDD q3
                have HWC := hide (fun wx (hb : Below w7.heap.size w7 wx) => (i3_cell ((hb.block WB (Array.getElem?_eq_some_iff.1 (unhide HW7)).1).trans (unhide HW7))).1 q3 hq33)
                rw [hDqe] at HWC
                clear hDqe
                have HFC := hide (fun wx (hb : Below w7.heap.size w7 wx) => (i3_cell ((hb.block FB (unhide HS7).lt).trans (unhide HS7).blk)).1 q3 hq33)
                have hq0 : (0 : Int) ≤ (q3 : Int) := by omega
                have HDL := hide hD2
                have HCOK := hide ((unhide HS7).inv.cok q3 hq33)
                generalize o4.X q3 = X at HCL HDN
                clear hD2
                rcases hadd with hsame | ⟨r, hmore, hread⟩
                · have hlen : D2 = Dq := by have h1 := unhide HDL; rw [hsame] at h1; omega
                  subst hlen
                  clear hsame hDq
                  go_wp2_with fail
                  refine (unhide HCL).mono ?_
                  rintro e w75 ⟨rfl, hw⟩
                  subst hw
                  go_wp2_with fail
                  refine (unhide HDN).mono ?_
                  rintro e w76 ⟨g7, c7, rfl, ho7, hb7⟩
                  have HB76 := hide ((unhide HB3).trans (hb7.mono (unhide HB3).size))
                  have hwc := (unhide HWC) _ (unhide HB76)
                  clear ho7 hb7
                  go_wp2
                  go_roundw
                  case rel => exact ⟨q3 + 1, by omega, by go_num, unhide HB76⟩
                  case measure => simp [intOf]; omega
                · have hlen : D2 = Dq + 1 := by have h1 := unhide HDL; rw [hmore, List.length_append, List.length_singleton] at h1; omega
                  have hlast : (A2.cl q3).done[Dq]? = some r := by rw [hmore, ← hDq]; simp
                  have hrsm := ((unhide HCOK).small r (List.mem_of_getElem? hlast)).1
                  have HRSZ : Hid (r.call.name.size ≤ maxLen ∧ r.call.dst.size ≤ maxLen ∧ r.call.text.size ≤ maxLen) := ⟨small_max hrsm.1, small_max hrsm.2.1, small_max hrsm.2.2⟩
                  have HLAST := hide hlast
                  have HREAD := hide hread
                  obtain ⟨z, hz⟩ : ∃ z : Int, (Dq : Int) = z := ⟨_, rfl⟩
                  have hD2z : (D2 : Int) = z + 1 := by omega
                  have hz0 : (0 : Int) ≤ z := by omega
                  have hzlt : z < z + 1 := by omega
                  have hzt : z.toNat = Dq := by omega
                  have hne : (z + 1 == z) = false := beq_eq_false_iff_ne.2 (by omega)
                  have hw0 : wrap64 z = z := by unfold wrap64; omega
                  have hw1 : wrap64 (z + 1) = z + 1 := by unfold wrap64; omega
                  rw [hz] at HWC
                  have HDq := hide hz
                  have hpos : 0 < D2 := by omega
                  clear hz hlen
                  obtain ⟨rc, rn, ⟨rk, ra, rb, rt⟩, rd, ru⟩ := r
                  dsimp only at HREAD HRSZ
                  have HCHG := hide (Changes_any rk)
                  clear hmore hread hlast hrsm hDq
                  go_wp2_with fail
                  refine (unhide HCL).mono ?_
                  rintro e w75 ⟨rfl, hw⟩
                  subst hw
                  go_wp2_with fail
                  refine (unhide HDN).mono ?_
                  rintro e w76 ⟨g7, c7, rfl, ho7, hb7⟩
                  have HB76 := hide ((unhide HB3).trans (hb7.mono (unhide HB3).size))
                  have hwc := (unhide HWC) _ (unhide HB76)
                  have hrr := recs_row ho7 (unhide HDL)
                  obtain ⟨bD, offD, hbD, hcD⟩ := hrr.2 hpos
                  cases hbD
                  have hrat := hcD Dq _ (unhide HLAST)
                  rw [Nat.zero_add] at hrat
                  obtain ⟨W8, hW8⟩ : ∃ V, V = w76.alloc (.cells #[.int .i64 rc, .int .i64 rn, .int .i64 rk, .string ra, .string rb, .string rt, .int .i64 rd, .string ru] 61) := ⟨_, rfl⟩
                  have hB8 : Below w76.heap.size w76 W8 := by rw [hW8]; exact (Below.refl _ _).alloc (Nat.le_refl _) _
                  have hRB8 : W8.heap[w76.heap.size]? = some (.cells #[.int .i64 rc, .int .i64 rn, .int .i64 rk, .string ra, .string rb, .string rt, .int .i64 rd, .string ru] 61 (0, 0)) := by rw [hW8]; exact heap_alloc_new _ _
                  obtain ⟨RB, hRB⟩ : ∃ RB, RB = w76.heap.size := ⟨_, rfl⟩
                  rw [← hRB] at hRB8
                  have HRB8 := hide hRB8
                  have HRBl : Hid (RB < W8.heap.size) := (Array.getElem?_eq_some_iff.1 hRB8).1
                  have HB78 := hide ((unhide HB76).trans (hB8.mono (unhide HB76).size))
                  have HW8 := hide hW8
                  have HRBe := hide hRB
                  obtain ⟨g0, g1, g2, g3, g4, g5, g6, g7'⟩ := hrat
                  dsimp only at g0 g1 g2 g3 g4 g5 g6 g7'
                  clear ho7 hb7 hcD hB8 hRB8 hW8 hRB
                  cases hch : changesB rk
                  · rw [hch] at HCHG
                    obtain ⟨kk, hkk⟩ := (unhide HREAD) hch
                    rw [unhide HNL] at hkk
                    have HKK := hide hkk
                    have HREC8 := hide ((unhide HREC7).below (unhide HB78))
                    clear hch hkk
                    go_wp2_with fail
                    rw [← unhide HW8, ← unhide HRBe]
                    refine ((unhide HCHG) _).mono ?_
                    rintro e w8 ⟨rfl, hw⟩
                    subst hw
                    have hfc := (unhide HFC) _ (unhide HB78)
                    clear g0 g1 g2 g3 g4 g5 g6 g7' hwc
                    go_wp2_with fail
                    go_loopw [15, 16] (fun hh nn wr => ∃ (m : Nat) (b : Bool), m ≤ nL + 1 ∧ nn = .int .i64 (m : Int) ∧ hh = .bool b ∧ Hid (b = false → m ≤ kk) ∧ Hid (Below w8.heap.size w8 wr)) (fun _ nn _ => nL + 2 - (intOf nn).toNat)
                    case atStart => exact ⟨fr' q3, false, by have := (unhide HKK).1; have := (unhide HKK).2.1; omega, rfl, rfl, fun _ => (unhide HKK).1, Below.refl _ _⟩
                    case round =>
                      obtain ⟨m, b, hm, rfl, rfl, HM, HB4⟩ := hrel
                      cases b
                      · have hmk := (unhide HM) rfl
                        have hmn : (m : Int) ≤ (nL : Int) := by have := (unhide HKK).2.1; omega
                        have hmn' : m ≤ nL := by omega
                        have hm0 : (0 : Int) ≤ (m : Int) := by omega
                        have hmc : (m : Int) ≤ (c6 : Int) := by have := unhide HCAP; omega
                        have HBD : Hid (Below w8.heap.size w8 wr.drew) := (unhide HB4).drew
                        have HBEH := hide (Behind_any a6 m c6 (A2.log.take m) wr.drew (((unhide HREC8).below (unhide HBD)).take m hmn') (fun r hr => (unhide HSML) r (List.mem_of_mem_take hr)) (by omega))
                        have HDO := hide (fun w9 D v (hd : DRep w9 wr.drew.heap.size D v (behind (A2.log.take m))) => dDo_any ⟨rk, ra, rb, rt⟩ wr.drew.heap.size D v _ w9 hd (behind_inv _) (unhide HRSZ).1 (unhide HRSZ).2.1 (unhide HRSZ).2.2)
                        have HHIT : Hid (m = kk → (aDo (behind (A2.log.take m)) ⟨rk, ra, rb, rt⟩).code = rd ∧ (aDo (behind (A2.log.take m)) ⟨rk, ra, rb, rt⟩).text = ru) := fun e => by rw [e]; exact (unhide HKK).2.2
                        generalize aDo (behind (A2.log.take m)) ⟨rk, ra, rb, rt⟩ = R at HDO HHIT
                        obtain ⟨ac, at', ast⟩ := R
                        dsimp only at HDO HHIT
                        clear HM
                        go_wp2_with fail
                        refine wp_region_held_drew (S := (fun wx => Below w8.heap.size w8 wx)) (by kernel_rfl) (unhide HBD) (fun hHeld => ?_)
                        refine wpAnyH_take (i := 0) (v := ?_) opn0 (by kernel_rfl) (by kernel_rfl) (by kernel_rfl) (fun _ _ _ h => h) (Or.inl ⟨by kernel_rfl, ?_⟩) (by assumption) ?_
                        rotate_left 1
                        · intro wz hSw
                          try dsimp only at hSw
                          go_simp
                          all_goals with_reducible rfl
                        try simp only [Act.put, List.setIfInBounds_toArray, List.set_cons_zero, List.set_cons_succ]
                        refine wpAnyH_take (i := 1) (v := ?_) opn1 (by kernel_rfl) (by kernel_rfl) (by kernel_rfl) (fun _ _ _ h => h) (Or.inl ⟨by kernel_rfl, ?_⟩) (by assumption) ?_
                        rotate_left 1
                        · intro wz hSw
                          try dsimp only at hSw
                          go_simp
                          all_goals with_reducible rfl
                        try simp only [Act.put, List.setIfInBounds_toArray, List.set_cons_zero, List.set_cons_succ]
                        refine wpAnyH_take (i := 2) (v := ?_) opn2 (by kernel_rfl) (by kernel_rfl) (by kernel_rfl) (fun _ _ _ h => h) (Or.inl ⟨by kernel_rfl, ?_⟩) (by assumption) ?_
                        rotate_left 1
                        · intro wz hSw
                          try dsimp only at hSw
                          go_simp
                          all_goals with_reducible rfl
                        try simp only [Act.put, List.setIfInBounds_toArray, List.set_cons_zero, List.set_cons_succ]
                        refine wpAnyH_take (i := 4) (v := ?_) opn4 (by kernel_rfl) (by kernel_rfl) (by kernel_rfl) (fun _ _ _ h => h) (Or.inl ⟨by kernel_rfl, ?_⟩) (by assumption) ?_
                        rotate_left 1
                        · intro wz hSw
                          try dsimp only at hSw
                          go_simp
                          all_goals with_reducible rfl
                        try simp only [Act.put, List.setIfInBounds_toArray, List.set_cons_zero, List.set_cons_succ]
                        refine wpAnyH_take (i := 5) (v := ?_) opn5 (by kernel_rfl) (by kernel_rfl) (by kernel_rfl) (fun _ _ _ h => h) (Or.inl ⟨by kernel_rfl, ?_⟩) (by assumption) ?_
                        rotate_left 1
                        · intro wz hSw
                          try dsimp only at hSw
                          obtain ⟨⟨y0, y1, y2, y3⟩, ⟨y4, y5, y6, y7⟩, yf⟩ := eightK ((hSw.block RB (unhide HRBl)).trans (unhide HRB8))
                          go_simp
                          all_goals with_reducible rfl
                        try simp only [Act.put, List.setIfInBounds_toArray, List.set_cons_zero, List.set_cons_succ]
                        refine wpAnyH_take (i := 7) (v := ?_) opn7 (by kernel_rfl) (by kernel_rfl) (by kernel_rfl) (fun _ _ _ h => h) (Or.inl ⟨by kernel_rfl, ?_⟩) (by assumption) ?_
                        rotate_left 1
                        · intro wz hSw
                          try dsimp only at hSw
                          go_simp
                          all_goals with_reducible rfl
                        try simp only [Act.put, List.setIfInBounds_toArray, List.set_cons_zero, List.set_cons_succ]
                        refine wpAnyH_take (i := 8) (v := ?_) opn8 (by kernel_rfl) (by kernel_rfl) (by kernel_rfl) (fun _ _ _ h => h) (Or.inl ⟨by kernel_rfl, ?_⟩) (by assumption) ?_
                        rotate_left 1
                        · intro wz hSw
                          try dsimp only at hSw
                          obtain ⟨⟨y0, y1, y2, y3⟩, ⟨y4, y5, y6, y7⟩, yf⟩ := eightK ((hSw.block RB (unhide HRBl)).trans (unhide HRB8))
                          go_simp
                          all_goals with_reducible rfl
                        try simp only [Act.put, List.setIfInBounds_toArray, List.set_cons_zero, List.set_cons_succ]
                        refine wpAnyH_ready (rs := [3]) (by kernel_rfl) (by simp) ?_
                        refine AllReadyH.cons opn3 (fun K hK => ?_) AllReadyH.nil
                        rw [if_pos (by kernel_rfl)]
                        go_simp
                        refine (unhide HBEH).mono ?_
                        rintro e w9 ⟨D9, v9, rfl, hd9, hb9⟩
                        have HD9 := hide ((unhide HDO) _ _ _ hd9)
                        have HDR9 := hide hd9
                        have hb89 := (unhide HBD).trans (hb9.mono (unhide HBD).size)
                        have HB89 := hide hb89
                        have HB9 := hide hb9
                        clear hd9 hb9
                        refine hK.out _ _ (hb89) (fun hHeldN => ?_)
                        clear hHeld hK K
                        have hHeld := hHeldN
                        clear hHeldN
                        try simp only [Act.put, List.setIfInBounds_toArray, List.set_cons_zero, List.set_cons_succ]
                        clear hb89
                        refine wpAnyH_ready (rs := [6]) (by kernel_rfl) (by simp) ?_
                        refine AllReadyH.cons opn6 (fun K hK => ?_) AllReadyH.nil
                        rw [if_pos (by kernel_rfl)]
                        go_simp
                        refine (unhide HD9).mono ?_
                        rintro e w10 ⟨rfl, hT10⟩
                        have hb10 := (DTurned.belowN (unhide HDR9) hT10).1
                        have hbd10 := (unhide HBD).trans (((unhide HB9).trans hb10).mono (unhide HBD).size)
                        have HB10 := hide hbd10
                        clear hT10 hb10
                        refine hK.out _ _ (hbd10) (fun hHeldN => ?_)
                        clear hHeld hK K
                        have hHeld := hHeldN
                        clear hHeldN
                        try simp only [Act.put, List.setIfInBounds_toArray, List.set_cons_zero, List.set_cons_succ]
                        clear hbd10
                        refine wpAnyH_take (i := 9) (v := (.bool (ac == rd && at'.toList == ru.toList))) opn9 (by kernel_rfl) (by kernel_rfl) (by kernel_rfl) (fun _ _ _ h => h) (Or.inl ⟨by kernel_rfl, ?_⟩) (by assumption) ?_
                        · intro wz hSw
                          exact yieldsB rfl (by simp [Act.eval]) (by simp [Act.eval]) (eql34 ac rd at' ru wz) (gd34 _ _ _ _ _ wz (.inr rfl))
                        try simp only [Act.put, List.setIfInBounds_toArray, List.set_cons_zero, List.set_cons_succ]
                        refine wpAnyH_take (i := 10) (v := ?_) opn10 (by kernel_rfl) (by kernel_rfl) (by kernel_rfl) (fun _ _ _ h => h) (Or.inl ⟨by kernel_rfl, ?_⟩) (by assumption) ?_
                        rotate_left 1
                        · intro wz hSw
                          try dsimp only at hSw
                          go_simp
                          all_goals with_reducible rfl
                        try simp only [Act.put, List.setIfInBounds_toArray, List.set_cons_zero, List.set_cons_succ]
                        refine wpAnyH_done (by kernel_rfl) ?_ _
                        obtain ⟨hit, hhit⟩ : ∃ hit, (ac == rd && at'.toList == ru.toList) = hit := ⟨_, rfl⟩
                        rw [hhit]
                        have HNX : Hid (hit = false → m + 1 ≤ kk) := fun e => by
                          have : m ≠ kk := fun e2 => by
                            obtain ⟨e3, e4⟩ := (unhide HHIT) e2
                            rw [← hhit, e3, e4] at e
                            simp at e
                          omega
                        clear hhit
                        go_wp2
                        go_roundw
                        case rel => exact ⟨m + 1, hit, by omega, by go_num, rfl, unhide HNX, unhide HB10⟩
                        case measure => simp [intOf]; omega
                      · clear HM
                        by_cases hmn : (m : Int) ≤ (nL : Int)
                        · go_wp2
                          go_roundw
                          case rel => exact ⟨q3 + 1, by omega, by go_num, (unhide HB78).trans ((unhide HB4).mono (unhide HB78).size)⟩
                          case measure => simp [intOf]; omega
                        · go_wp2
                          go_roundw
                          case rel => exact ⟨q3 + 1, by omega, by go_num, (unhide HB78).trans ((unhide HB4).mono (unhide HB78).size)⟩
                          case measure => simp [intOf]; omega
                  · rw [hch] at HCHG
                    clear hch
                    go_wp2_with fail
                    rw [← unhide HW8, ← unhide HRBe]
                    refine ((unhide HCHG) _).mono ?_
                    rintro e w8 ⟨rfl, hw⟩
                    subst hw
                    go_wp2
                    go_roundw
                    case rel => exact ⟨q3 + 1, by omega, by go_num, unhide HB78⟩
                    case measure => simp [intOf]; omega
              · go_wp2
                go_roundw
                case rel => exact ⟨q + 1, o4, A2, fr', by omega, by go_num, (unhide HS7).below (unhide HB3), (unhide HB7).trans ((unhide HB3).mono (unhide HB7).size)⟩
                case measure => simp [intOf]; omega
          · have hce : frB fr ⟨xk, xn, xp, ⟨ck, ca, cb, ct⟩⟩ r1 nL = fr := by
              unfold frB
              rw [if_neg (fun hh => hask ⟨hh.1, hh.2.1⟩)]
            rw [hce] at HADV
            clear hce
            obtain ⟨w7, hw7⟩ : ∃ w7, w7 = w6 := ⟨_, rfl⟩
            have HS7 : Hid (SerSt w2.heap.size w7 W o4 A2 fr FB) := by rw [hw7]; exact ⟨unhide HR6, unhide HINV2, (unhide HADV).1, unhide HFG, unhide HF6, unhide HNF4⟩
            have HADD := hide (unhide HADV).2
            have HW7 : Hid (w7.heap[WB]? = some (.cells (i3 D) 76 (0, 0))) := by rw [hw7]; exact unhide HW6
            have HREC7 : Hid (RecsAt w7 a6 nL A2.log) := by rw [hw7]; exact unhide HREC6
            have HB7 : Hid (Below w2.heap.size w2 w7) := by rw [hw7]; exact unhide HB6
            clear HADV
            by_cases hx1 : xk = 1
            · have hrb : (r1 == 0) = false := by simp; intro e; exact hask ⟨hx1, e⟩
              subst hx1
              clear hask
              have HW7e := hide hw7
              clear hw7
              obtain ⟨fr', hfr'⟩ : ∃ fr', fr' = fr := ⟨_, rfl⟩
              rw [← hfr'] at HS7 HADD
              clear hfr'
              go_wp2_with fail
              rw [← unhide HW7e]
              go_loopw [12, 13, 14, 15, 16] (fun c _ _ _ _ wr => ∃ q3 : Nat, q3 ≤ 3 ∧ c = .int .i64 (q3 : Int) ∧ Hid (Below w7.heap.size w7 wr)) (fun c _ _ _ _ _ => 3 - (intOf c).toNat)
              case atStart => exact ⟨0, Nat.zero_le _, rfl, Below.refl _ _⟩
              case round =>
                obtain ⟨q3, hq3, rfl, HB3⟩ := hrel
                by_cases hl3 : (q3 : Int) < 3
                · have hq33 : q3 < 3 := by omega
                  have HCL := hide (Client_some ((unhide HS7).rep.below (unhide HB3)) q3 hq33)
                  obtain ⟨D2, hD2⟩ : ∃ D2, (A2.cl q3).done.length = D2 := ⟨_, rfl⟩
                  have HDN := hide (Done_any (((unhide HS7).rep.below (unhide HB3)).c q3 hq33) hD2)
                  have hD3 : D2 ≤ 200 := by rw [← hD2]; exact ((unhide HS7).inv.cok q3 hq33).few
                  have hadd := (unhide HADD) q3 hq33
                  obtain ⟨Dq, hDqe⟩ : ∃ Dq, D q3 = Dq := ⟨_, rfl⟩
                  have hDq : (A.cl q3).done.length = Dq := by rw [← hDqe]; exact hDD q3
                  have HWC := hide (fun wx (hb : Below w7.heap.size w7 wx) => (i3_cell ((hb.block WB (Array.getElem?_eq_some_iff.1 (unhide HW7)).1).trans (unhide HW7))).1 q3 hq33)
                  rw [hDqe] at HWC
                  clear hDqe
                  have HFC := hide (fun wx (hb : Below w7.heap.size w7 wx) => (i3_cell ((hb.block FB (unhide HS7).lt).trans (unhide HS7).blk)).1 q3 hq33)
                  have hq0 : (0 : Int) ≤ (q3 : Int) := by omega
                  have HDL := hide hD2
                  have HCOK := hide ((unhide HS7).inv.cok q3 hq33)
                  generalize o4.X q3 = X at HCL HDN
                  clear hD2
                  rcases hadd with hsame | ⟨r, hmore, hread⟩
                  · have hlen : D2 = Dq := by have h1 := unhide HDL; rw [hsame] at h1; omega
                    subst hlen
                    clear hsame hDq
                    go_wp2_with fail
                    refine (unhide HCL).mono ?_
                    rintro e w75 ⟨rfl, hw⟩
                    subst hw
                    go_wp2_with fail
                    refine (unhide HDN).mono ?_
                    rintro e w76 ⟨g7, c7, rfl, ho7, hb7⟩
                    have HB76 := hide ((unhide HB3).trans (hb7.mono (unhide HB3).size))
                    have hwc := (unhide HWC) _ (unhide HB76)
                    clear ho7 hb7
                    go_wp2
                    go_roundw
                    case rel => exact ⟨q3 + 1, by omega, by go_num, unhide HB76⟩
                    case measure => simp [intOf]; omega
                  · have hlen : D2 = Dq + 1 := by have h1 := unhide HDL; rw [hmore, List.length_append, List.length_singleton] at h1; omega
                    have hlast : (A2.cl q3).done[Dq]? = some r := by rw [hmore, ← hDq]; simp
                    have hrsm := ((unhide HCOK).small r (List.mem_of_getElem? hlast)).1
                    have HRSZ : Hid (r.call.name.size ≤ maxLen ∧ r.call.dst.size ≤ maxLen ∧ r.call.text.size ≤ maxLen) := ⟨small_max hrsm.1, small_max hrsm.2.1, small_max hrsm.2.2⟩
                    have HLAST := hide hlast
                    have HREAD := hide hread
                    obtain ⟨z, hz⟩ : ∃ z : Int, (Dq : Int) = z := ⟨_, rfl⟩
                    have hD2z : (D2 : Int) = z + 1 := by omega
                    have hz0 : (0 : Int) ≤ z := by omega
                    have hzlt : z < z + 1 := by omega
                    have hzt : z.toNat = Dq := by omega
                    have hne : (z + 1 == z) = false := beq_eq_false_iff_ne.2 (by omega)
                    have hw0 : wrap64 z = z := by unfold wrap64; omega
                    have hw1 : wrap64 (z + 1) = z + 1 := by unfold wrap64; omega
                    rw [hz] at HWC
                    have HDq := hide hz
                    have hpos : 0 < D2 := by omega
                    clear hz hlen
                    obtain ⟨rc, rn, ⟨rk, ra, rb, rt⟩, rd, ru⟩ := r
                    dsimp only at HREAD HRSZ
                    have HCHG := hide (Changes_any rk)
                    clear hmore hread hlast hrsm hDq
                    go_wp2_with fail
                    refine (unhide HCL).mono ?_
                    rintro e w75 ⟨rfl, hw⟩
                    subst hw
                    go_wp2_with fail
                    refine (unhide HDN).mono ?_
                    rintro e w76 ⟨g7, c7, rfl, ho7, hb7⟩
                    have HB76 := hide ((unhide HB3).trans (hb7.mono (unhide HB3).size))
                    have hwc := (unhide HWC) _ (unhide HB76)
                    have hrr := recs_row ho7 (unhide HDL)
                    obtain ⟨bD, offD, hbD, hcD⟩ := hrr.2 hpos
                    cases hbD
                    have hrat := hcD Dq _ (unhide HLAST)
                    rw [Nat.zero_add] at hrat
                    obtain ⟨W8, hW8⟩ : ∃ V, V = w76.alloc (.cells #[.int .i64 rc, .int .i64 rn, .int .i64 rk, .string ra, .string rb, .string rt, .int .i64 rd, .string ru] 61) := ⟨_, rfl⟩
                    have hB8 : Below w76.heap.size w76 W8 := by rw [hW8]; exact (Below.refl _ _).alloc (Nat.le_refl _) _
                    have hRB8 : W8.heap[w76.heap.size]? = some (.cells #[.int .i64 rc, .int .i64 rn, .int .i64 rk, .string ra, .string rb, .string rt, .int .i64 rd, .string ru] 61 (0, 0)) := by rw [hW8]; exact heap_alloc_new _ _
                    obtain ⟨RB, hRB⟩ : ∃ RB, RB = w76.heap.size := ⟨_, rfl⟩
                    rw [← hRB] at hRB8
                    have HRB8 := hide hRB8
                    have HRBl : Hid (RB < W8.heap.size) := (Array.getElem?_eq_some_iff.1 hRB8).1
                    have HB78 := hide ((unhide HB76).trans (hB8.mono (unhide HB76).size))
                    have HW8 := hide hW8
                    have HRBe := hide hRB
                    obtain ⟨g0, g1, g2, g3, g4, g5, g6, g7'⟩ := hrat
                    dsimp only at g0 g1 g2 g3 g4 g5 g6 g7'
                    clear ho7 hb7 hcD hB8 hRB8 hW8 hRB
                    cases hch : changesB rk
                    · rw [hch] at HCHG
                      obtain ⟨kk, hkk⟩ := (unhide HREAD) hch
                      rw [unhide HNL] at hkk
                      have HKK := hide hkk
                      have HREC8 := hide ((unhide HREC7).below (unhide HB78))
                      clear hch hkk
                      go_wp2_with fail
                      rw [← unhide HW8, ← unhide HRBe]
                      refine ((unhide HCHG) _).mono ?_
                      rintro e w8 ⟨rfl, hw⟩
                      subst hw
                      have hfc := (unhide HFC) _ (unhide HB78)
                      clear g0 g1 g2 g3 g4 g5 g6 g7' hwc
                      go_wp2_with fail
                      go_loopw [15, 16] (fun hh nn wr => ∃ (m : Nat) (b : Bool), m ≤ nL + 1 ∧ nn = .int .i64 (m : Int) ∧ hh = .bool b ∧ Hid (b = false → m ≤ kk) ∧ Hid (Below w8.heap.size w8 wr)) (fun _ nn _ => nL + 2 - (intOf nn).toNat)
                      case atStart => exact ⟨fr' q3, false, by have := (unhide HKK).1; have := (unhide HKK).2.1; omega, rfl, rfl, fun _ => (unhide HKK).1, Below.refl _ _⟩
                      case round =>
                        obtain ⟨m, b, hm, rfl, rfl, HM, HB4⟩ := hrel
                        cases b
                        · have hmk := (unhide HM) rfl
                          have hmn : (m : Int) ≤ (nL : Int) := by have := (unhide HKK).2.1; omega
                          have hmn' : m ≤ nL := by omega
                          have hm0 : (0 : Int) ≤ (m : Int) := by omega
                          have hmc : (m : Int) ≤ (c6 : Int) := by have := unhide HCAP; omega
                          have HBD : Hid (Below w8.heap.size w8 wr.drew) := (unhide HB4).drew
                          have HBEH := hide (Behind_any a6 m c6 (A2.log.take m) wr.drew (((unhide HREC8).below (unhide HBD)).take m hmn') (fun r hr => (unhide HSML) r (List.mem_of_mem_take hr)) (by omega))
                          have HDO := hide (fun w9 D v (hd : DRep w9 wr.drew.heap.size D v (behind (A2.log.take m))) => dDo_any ⟨rk, ra, rb, rt⟩ wr.drew.heap.size D v _ w9 hd (behind_inv _) (unhide HRSZ).1 (unhide HRSZ).2.1 (unhide HRSZ).2.2)
                          have HHIT : Hid (m = kk → (aDo (behind (A2.log.take m)) ⟨rk, ra, rb, rt⟩).code = rd ∧ (aDo (behind (A2.log.take m)) ⟨rk, ra, rb, rt⟩).text = ru) := fun e => by rw [e]; exact (unhide HKK).2.2
                          generalize aDo (behind (A2.log.take m)) ⟨rk, ra, rb, rt⟩ = R at HDO HHIT
                          obtain ⟨ac, at', ast⟩ := R
                          dsimp only at HDO HHIT
                          clear HM
                          go_wp2_with fail
                          refine wp_region_held_drew (S := (fun wx => Below w8.heap.size w8 wx)) (by kernel_rfl) (unhide HBD) (fun hHeld => ?_)
                          refine wpAnyH_take (i := 0) (v := ?_) opn0 (by kernel_rfl) (by kernel_rfl) (by kernel_rfl) (fun _ _ _ h => h) (Or.inl ⟨by kernel_rfl, ?_⟩) (by assumption) ?_
                          rotate_left 1
                          · intro wz hSw
                            try dsimp only at hSw
                            go_simp
                            all_goals with_reducible rfl
                          try simp only [Act.put, List.setIfInBounds_toArray, List.set_cons_zero, List.set_cons_succ]
                          refine wpAnyH_take (i := 1) (v := ?_) opn1 (by kernel_rfl) (by kernel_rfl) (by kernel_rfl) (fun _ _ _ h => h) (Or.inl ⟨by kernel_rfl, ?_⟩) (by assumption) ?_
                          rotate_left 1
                          · intro wz hSw
                            try dsimp only at hSw
                            go_simp
                            all_goals with_reducible rfl
                          try simp only [Act.put, List.setIfInBounds_toArray, List.set_cons_zero, List.set_cons_succ]
                          refine wpAnyH_take (i := 2) (v := ?_) opn2 (by kernel_rfl) (by kernel_rfl) (by kernel_rfl) (fun _ _ _ h => h) (Or.inl ⟨by kernel_rfl, ?_⟩) (by assumption) ?_
                          rotate_left 1
                          · intro wz hSw
                            try dsimp only at hSw
                            go_simp
                            all_goals with_reducible rfl
                          try simp only [Act.put, List.setIfInBounds_toArray, List.set_cons_zero, List.set_cons_succ]
                          refine wpAnyH_take (i := 4) (v := ?_) opn4 (by kernel_rfl) (by kernel_rfl) (by kernel_rfl) (fun _ _ _ h => h) (Or.inl ⟨by kernel_rfl, ?_⟩) (by assumption) ?_
                          rotate_left 1
                          · intro wz hSw
                            try dsimp only at hSw
                            go_simp
                            all_goals with_reducible rfl
                          try simp only [Act.put, List.setIfInBounds_toArray, List.set_cons_zero, List.set_cons_succ]
                          refine wpAnyH_take (i := 5) (v := ?_) opn5 (by kernel_rfl) (by kernel_rfl) (by kernel_rfl) (fun _ _ _ h => h) (Or.inl ⟨by kernel_rfl, ?_⟩) (by assumption) ?_
                          rotate_left 1
                          · intro wz hSw
                            try dsimp only at hSw
                            obtain ⟨⟨y0, y1, y2, y3⟩, ⟨y4, y5, y6, y7⟩, yf⟩ := eightK ((hSw.block RB (unhide HRBl)).trans (unhide HRB8))
                            go_simp
                            all_goals with_reducible rfl
                          try simp only [Act.put, List.setIfInBounds_toArray, List.set_cons_zero, List.set_cons_succ]
                          refine wpAnyH_take (i := 7) (v := ?_) opn7 (by kernel_rfl) (by kernel_rfl) (by kernel_rfl) (fun _ _ _ h => h) (Or.inl ⟨by kernel_rfl, ?_⟩) (by assumption) ?_
                          rotate_left 1
                          · intro wz hSw
                            try dsimp only at hSw
                            go_simp
                            all_goals with_reducible rfl
                          try simp only [Act.put, List.setIfInBounds_toArray, List.set_cons_zero, List.set_cons_succ]
                          refine wpAnyH_take (i := 8) (v := ?_) opn8 (by kernel_rfl) (by kernel_rfl) (by kernel_rfl) (fun _ _ _ h => h) (Or.inl ⟨by kernel_rfl, ?_⟩) (by assumption) ?_
                          rotate_left 1
                          · intro wz hSw
                            try dsimp only at hSw
                            obtain ⟨⟨y0, y1, y2, y3⟩, ⟨y4, y5, y6, y7⟩, yf⟩ := eightK ((hSw.block RB (unhide HRBl)).trans (unhide HRB8))
                            go_simp
                            all_goals with_reducible rfl
                          try simp only [Act.put, List.setIfInBounds_toArray, List.set_cons_zero, List.set_cons_succ]
                          refine wpAnyH_ready (rs := [3]) (by kernel_rfl) (by simp) ?_
                          refine AllReadyH.cons opn3 (fun K hK => ?_) AllReadyH.nil
                          rw [if_pos (by kernel_rfl)]
                          go_simp
                          refine (unhide HBEH).mono ?_
                          rintro e w9 ⟨D9, v9, rfl, hd9, hb9⟩
                          have HD9 := hide ((unhide HDO) _ _ _ hd9)
                          have HDR9 := hide hd9
                          have hb89 := (unhide HBD).trans (hb9.mono (unhide HBD).size)
                          have HB89 := hide hb89
                          have HB9 := hide hb9
                          clear hd9 hb9
                          refine hK.out _ _ (hb89) (fun hHeldN => ?_)
                          clear hHeld hK K
                          have hHeld := hHeldN
                          clear hHeldN
                          try simp only [Act.put, List.setIfInBounds_toArray, List.set_cons_zero, List.set_cons_succ]
                          clear hb89
                          refine wpAnyH_ready (rs := [6]) (by kernel_rfl) (by simp) ?_
                          refine AllReadyH.cons opn6 (fun K hK => ?_) AllReadyH.nil
                          rw [if_pos (by kernel_rfl)]
                          go_simp
                          refine (unhide HD9).mono ?_
                          rintro e w10 ⟨rfl, hT10⟩
                          have hb10 := (DTurned.belowN (unhide HDR9) hT10).1
                          have hbd10 := (unhide HBD).trans (((unhide HB9).trans hb10).mono (unhide HBD).size)
                          have HB10 := hide hbd10
                          clear hT10 hb10
                          refine hK.out _ _ (hbd10) (fun hHeldN => ?_)
                          clear hHeld hK K
                          have hHeld := hHeldN
                          clear hHeldN
                          try simp only [Act.put, List.setIfInBounds_toArray, List.set_cons_zero, List.set_cons_succ]
                          clear hbd10
                          refine wpAnyH_take (i := 9) (v := (.bool (ac == rd && at'.toList == ru.toList))) opn9 (by kernel_rfl) (by kernel_rfl) (by kernel_rfl) (fun _ _ _ h => h) (Or.inl ⟨by kernel_rfl, ?_⟩) (by assumption) ?_
                          · intro wz hSw
                            exact yieldsB rfl (by simp [Act.eval]) (by simp [Act.eval]) (eql34 ac rd at' ru wz) (gd34 _ _ _ _ _ wz (.inr rfl))
                          try simp only [Act.put, List.setIfInBounds_toArray, List.set_cons_zero, List.set_cons_succ]
                          refine wpAnyH_take (i := 10) (v := ?_) opn10 (by kernel_rfl) (by kernel_rfl) (by kernel_rfl) (fun _ _ _ h => h) (Or.inl ⟨by kernel_rfl, ?_⟩) (by assumption) ?_
                          rotate_left 1
                          · intro wz hSw
                            try dsimp only at hSw
                            go_simp
                            all_goals with_reducible rfl
                          try simp only [Act.put, List.setIfInBounds_toArray, List.set_cons_zero, List.set_cons_succ]
                          refine wpAnyH_done (by kernel_rfl) ?_ _
                          obtain ⟨hit, hhit⟩ : ∃ hit, (ac == rd && at'.toList == ru.toList) = hit := ⟨_, rfl⟩
                          rw [hhit]
                          have HNX : Hid (hit = false → m + 1 ≤ kk) := fun e => by
                            have : m ≠ kk := fun e2 => by
                              obtain ⟨e3, e4⟩ := (unhide HHIT) e2
                              rw [← hhit, e3, e4] at e
                              simp at e
                            omega
                          clear hhit
                          go_wp2
                          go_roundw
                          case rel => exact ⟨m + 1, hit, by omega, by go_num, rfl, unhide HNX, unhide HB10⟩
                          case measure => simp [intOf]; omega
                        · clear HM
                          by_cases hmn : (m : Int) ≤ (nL : Int)
                          · go_wp2
                            go_roundw
                            case rel => exact ⟨q3 + 1, by omega, by go_num, (unhide HB78).trans ((unhide HB4).mono (unhide HB78).size)⟩
                            case measure => simp [intOf]; omega
                          · go_wp2
                            go_roundw
                            case rel => exact ⟨q3 + 1, by omega, by go_num, (unhide HB78).trans ((unhide HB4).mono (unhide HB78).size)⟩
                            case measure => simp [intOf]; omega
                    · rw [hch] at HCHG
                      clear hch
                      go_wp2_with fail
                      rw [← unhide HW8, ← unhide HRBe]
                      refine ((unhide HCHG) _).mono ?_
                      rintro e w8 ⟨rfl, hw⟩
                      subst hw
                      go_wp2
                      go_roundw
                      case rel => exact ⟨q3 + 1, by omega, by go_num, unhide HB78⟩
                      case measure => simp [intOf]; omega
                · go_wp2
                  go_roundw
                  case rel => exact ⟨q + 1, o4, A2, fr', by omega, by go_num, (unhide HS7).below (unhide HB3), (unhide HB7).trans ((unhide HB3).mono (unhide HB7).size)⟩
                  case measure => simp [intOf]; omega
            · have hxb : (xk == 1) = false := by simpa using hx1
              clear hask hx1
              have HW7e := hide hw7
              clear hw7
              obtain ⟨fr', hfr'⟩ : ∃ fr', fr' = fr := ⟨_, rfl⟩
              rw [← hfr'] at HS7 HADD
              clear hfr'
              go_wp2_with fail
              rw [← unhide HW7e]
              go_loopw [12, 13, 14, 15, 16] (fun c _ _ _ _ wr => ∃ q3 : Nat, q3 ≤ 3 ∧ c = .int .i64 (q3 : Int) ∧ Hid (Below w7.heap.size w7 wr)) (fun c _ _ _ _ _ => 3 - (intOf c).toNat)
              case atStart => exact ⟨0, Nat.zero_le _, rfl, Below.refl _ _⟩
              case round =>
                obtain ⟨q3, hq3, rfl, HB3⟩ := hrel
                by_cases hl3 : (q3 : Int) < 3
                · have hq33 : q3 < 3 := by omega
                  have HCL := hide (Client_some ((unhide HS7).rep.below (unhide HB3)) q3 hq33)
                  obtain ⟨D2, hD2⟩ : ∃ D2, (A2.cl q3).done.length = D2 := ⟨_, rfl⟩
                  have HDN := hide (Done_any (((unhide HS7).rep.below (unhide HB3)).c q3 hq33) hD2)
                  have hD3 : D2 ≤ 200 := by rw [← hD2]; exact ((unhide HS7).inv.cok q3 hq33).few
                  have hadd := (unhide HADD) q3 hq33
                  obtain ⟨Dq, hDqe⟩ : ∃ Dq, D q3 = Dq := ⟨_, rfl⟩
                  have hDq : (A.cl q3).done.length = Dq := by rw [← hDqe]; exact hDD q3
                  have HWC := hide (fun wx (hb : Below w7.heap.size w7 wx) => (i3_cell ((hb.block WB (Array.getElem?_eq_some_iff.1 (unhide HW7)).1).trans (unhide HW7))).1 q3 hq33)
                  rw [hDqe] at HWC
                  clear hDqe
                  have HFC := hide (fun wx (hb : Below w7.heap.size w7 wx) => (i3_cell ((hb.block FB (unhide HS7).lt).trans (unhide HS7).blk)).1 q3 hq33)
                  have hq0 : (0 : Int) ≤ (q3 : Int) := by omega
                  have HDL := hide hD2
                  have HCOK := hide ((unhide HS7).inv.cok q3 hq33)
                  generalize o4.X q3 = X at HCL HDN
                  clear hD2
                  rcases hadd with hsame | ⟨r, hmore, hread⟩
                  · have hlen : D2 = Dq := by have h1 := unhide HDL; rw [hsame] at h1; omega
                    subst hlen
                    clear hsame hDq
                    go_wp2_with fail
                    refine (unhide HCL).mono ?_
                    rintro e w75 ⟨rfl, hw⟩
                    subst hw
                    go_wp2_with fail
                    refine (unhide HDN).mono ?_
                    rintro e w76 ⟨g7, c7, rfl, ho7, hb7⟩
                    have HB76 := hide ((unhide HB3).trans (hb7.mono (unhide HB3).size))
                    have hwc := (unhide HWC) _ (unhide HB76)
                    clear ho7 hb7
                    go_wp2
                    go_roundw
                    case rel => exact ⟨q3 + 1, by omega, by go_num, unhide HB76⟩
                    case measure => simp [intOf]; omega
                  · have hlen : D2 = Dq + 1 := by have h1 := unhide HDL; rw [hmore, List.length_append, List.length_singleton] at h1; omega
                    have hlast : (A2.cl q3).done[Dq]? = some r := by rw [hmore, ← hDq]; simp
                    have hrsm := ((unhide HCOK).small r (List.mem_of_getElem? hlast)).1
                    have HRSZ : Hid (r.call.name.size ≤ maxLen ∧ r.call.dst.size ≤ maxLen ∧ r.call.text.size ≤ maxLen) := ⟨small_max hrsm.1, small_max hrsm.2.1, small_max hrsm.2.2⟩
                    have HLAST := hide hlast
                    have HREAD := hide hread
                    obtain ⟨z, hz⟩ : ∃ z : Int, (Dq : Int) = z := ⟨_, rfl⟩
                    have hD2z : (D2 : Int) = z + 1 := by omega
                    have hz0 : (0 : Int) ≤ z := by omega
                    have hzlt : z < z + 1 := by omega
                    have hzt : z.toNat = Dq := by omega
                    have hne : (z + 1 == z) = false := beq_eq_false_iff_ne.2 (by omega)
                    have hw0 : wrap64 z = z := by unfold wrap64; omega
                    have hw1 : wrap64 (z + 1) = z + 1 := by unfold wrap64; omega
                    rw [hz] at HWC
                    have HDq := hide hz
                    have hpos : 0 < D2 := by omega
                    clear hz hlen
                    obtain ⟨rc, rn, ⟨rk, ra, rb, rt⟩, rd, ru⟩ := r
                    dsimp only at HREAD HRSZ
                    have HCHG := hide (Changes_any rk)
                    clear hmore hread hlast hrsm hDq
                    go_wp2_with fail
                    refine (unhide HCL).mono ?_
                    rintro e w75 ⟨rfl, hw⟩
                    subst hw
                    go_wp2_with fail
                    refine (unhide HDN).mono ?_
                    rintro e w76 ⟨g7, c7, rfl, ho7, hb7⟩
                    have HB76 := hide ((unhide HB3).trans (hb7.mono (unhide HB3).size))
                    have hwc := (unhide HWC) _ (unhide HB76)
                    have hrr := recs_row ho7 (unhide HDL)
                    obtain ⟨bD, offD, hbD, hcD⟩ := hrr.2 hpos
                    cases hbD
                    have hrat := hcD Dq _ (unhide HLAST)
                    rw [Nat.zero_add] at hrat
                    obtain ⟨W8, hW8⟩ : ∃ V, V = w76.alloc (.cells #[.int .i64 rc, .int .i64 rn, .int .i64 rk, .string ra, .string rb, .string rt, .int .i64 rd, .string ru] 61) := ⟨_, rfl⟩
                    have hB8 : Below w76.heap.size w76 W8 := by rw [hW8]; exact (Below.refl _ _).alloc (Nat.le_refl _) _
                    have hRB8 : W8.heap[w76.heap.size]? = some (.cells #[.int .i64 rc, .int .i64 rn, .int .i64 rk, .string ra, .string rb, .string rt, .int .i64 rd, .string ru] 61 (0, 0)) := by rw [hW8]; exact heap_alloc_new _ _
                    obtain ⟨RB, hRB⟩ : ∃ RB, RB = w76.heap.size := ⟨_, rfl⟩
                    rw [← hRB] at hRB8
                    have HRB8 := hide hRB8
                    have HRBl : Hid (RB < W8.heap.size) := (Array.getElem?_eq_some_iff.1 hRB8).1
                    have HB78 := hide ((unhide HB76).trans (hB8.mono (unhide HB76).size))
                    have HW8 := hide hW8
                    have HRBe := hide hRB
                    obtain ⟨g0, g1, g2, g3, g4, g5, g6, g7'⟩ := hrat
                    dsimp only at g0 g1 g2 g3 g4 g5 g6 g7'
                    clear ho7 hb7 hcD hB8 hRB8 hW8 hRB
                    cases hch : changesB rk
                    · rw [hch] at HCHG
                      obtain ⟨kk, hkk⟩ := (unhide HREAD) hch
                      rw [unhide HNL] at hkk
                      have HKK := hide hkk
                      have HREC8 := hide ((unhide HREC7).below (unhide HB78))
                      clear hch hkk
                      go_wp2_with fail
                      rw [← unhide HW8, ← unhide HRBe]
                      refine ((unhide HCHG) _).mono ?_
                      rintro e w8 ⟨rfl, hw⟩
                      subst hw
                      have hfc := (unhide HFC) _ (unhide HB78)
                      clear g0 g1 g2 g3 g4 g5 g6 g7' hwc
                      go_wp2_with fail
                      go_loopw [15, 16] (fun hh nn wr => ∃ (m : Nat) (b : Bool), m ≤ nL + 1 ∧ nn = .int .i64 (m : Int) ∧ hh = .bool b ∧ Hid (b = false → m ≤ kk) ∧ Hid (Below w8.heap.size w8 wr)) (fun _ nn _ => nL + 2 - (intOf nn).toNat)
                      case atStart => exact ⟨fr' q3, false, by have := (unhide HKK).1; have := (unhide HKK).2.1; omega, rfl, rfl, fun _ => (unhide HKK).1, Below.refl _ _⟩
                      case round =>
                        obtain ⟨m, b, hm, rfl, rfl, HM, HB4⟩ := hrel
                        cases b
                        · have hmk := (unhide HM) rfl
                          have hmn : (m : Int) ≤ (nL : Int) := by have := (unhide HKK).2.1; omega
                          have hmn' : m ≤ nL := by omega
                          have hm0 : (0 : Int) ≤ (m : Int) := by omega
                          have hmc : (m : Int) ≤ (c6 : Int) := by have := unhide HCAP; omega
                          have HBD : Hid (Below w8.heap.size w8 wr.drew) := (unhide HB4).drew
                          have HBEH := hide (Behind_any a6 m c6 (A2.log.take m) wr.drew (((unhide HREC8).below (unhide HBD)).take m hmn') (fun r hr => (unhide HSML) r (List.mem_of_mem_take hr)) (by omega))
                          have HDO := hide (fun w9 D v (hd : DRep w9 wr.drew.heap.size D v (behind (A2.log.take m))) => dDo_any ⟨rk, ra, rb, rt⟩ wr.drew.heap.size D v _ w9 hd (behind_inv _) (unhide HRSZ).1 (unhide HRSZ).2.1 (unhide HRSZ).2.2)
                          have HHIT : Hid (m = kk → (aDo (behind (A2.log.take m)) ⟨rk, ra, rb, rt⟩).code = rd ∧ (aDo (behind (A2.log.take m)) ⟨rk, ra, rb, rt⟩).text = ru) := fun e => by rw [e]; exact (unhide HKK).2.2
                          generalize aDo (behind (A2.log.take m)) ⟨rk, ra, rb, rt⟩ = R at HDO HHIT
                          obtain ⟨ac, at', ast⟩ := R
                          dsimp only at HDO HHIT
                          clear HM
                          go_wp2_with fail
                          refine wp_region_held_drew (S := (fun wx => Below w8.heap.size w8 wx)) (by kernel_rfl) (unhide HBD) (fun hHeld => ?_)
                          refine wpAnyH_take (i := 0) (v := ?_) opn0 (by kernel_rfl) (by kernel_rfl) (by kernel_rfl) (fun _ _ _ h => h) (Or.inl ⟨by kernel_rfl, ?_⟩) (by assumption) ?_
                          rotate_left 1
                          · intro wz hSw
                            try dsimp only at hSw
                            go_simp
                            all_goals with_reducible rfl
                          try simp only [Act.put, List.setIfInBounds_toArray, List.set_cons_zero, List.set_cons_succ]
                          refine wpAnyH_take (i := 1) (v := ?_) opn1 (by kernel_rfl) (by kernel_rfl) (by kernel_rfl) (fun _ _ _ h => h) (Or.inl ⟨by kernel_rfl, ?_⟩) (by assumption) ?_
                          rotate_left 1
                          · intro wz hSw
                            try dsimp only at hSw
                            go_simp
                            all_goals with_reducible rfl
                          try simp only [Act.put, List.setIfInBounds_toArray, List.set_cons_zero, List.set_cons_succ]
                          refine wpAnyH_take (i := 2) (v := ?_) opn2 (by kernel_rfl) (by kernel_rfl) (by kernel_rfl) (fun _ _ _ h => h) (Or.inl ⟨by kernel_rfl, ?_⟩) (by assumption) ?_
                          rotate_left 1
                          · intro wz hSw
                            try dsimp only at hSw
                            go_simp
                            all_goals with_reducible rfl
                          try simp only [Act.put, List.setIfInBounds_toArray, List.set_cons_zero, List.set_cons_succ]
                          refine wpAnyH_take (i := 4) (v := ?_) opn4 (by kernel_rfl) (by kernel_rfl) (by kernel_rfl) (fun _ _ _ h => h) (Or.inl ⟨by kernel_rfl, ?_⟩) (by assumption) ?_
                          rotate_left 1
                          · intro wz hSw
                            try dsimp only at hSw
                            go_simp
                            all_goals with_reducible rfl
                          try simp only [Act.put, List.setIfInBounds_toArray, List.set_cons_zero, List.set_cons_succ]
                          refine wpAnyH_take (i := 5) (v := ?_) opn5 (by kernel_rfl) (by kernel_rfl) (by kernel_rfl) (fun _ _ _ h => h) (Or.inl ⟨by kernel_rfl, ?_⟩) (by assumption) ?_
                          rotate_left 1
                          · intro wz hSw
                            try dsimp only at hSw
                            obtain ⟨⟨y0, y1, y2, y3⟩, ⟨y4, y5, y6, y7⟩, yf⟩ := eightK ((hSw.block RB (unhide HRBl)).trans (unhide HRB8))
                            go_simp
                            all_goals with_reducible rfl
                          try simp only [Act.put, List.setIfInBounds_toArray, List.set_cons_zero, List.set_cons_succ]
                          refine wpAnyH_take (i := 7) (v := ?_) opn7 (by kernel_rfl) (by kernel_rfl) (by kernel_rfl) (fun _ _ _ h => h) (Or.inl ⟨by kernel_rfl, ?_⟩) (by assumption) ?_
                          rotate_left 1
                          · intro wz hSw
                            try dsimp only at hSw
                            go_simp
                            all_goals with_reducible rfl
                          try simp only [Act.put, List.setIfInBounds_toArray, List.set_cons_zero, List.set_cons_succ]
                          refine wpAnyH_take (i := 8) (v := ?_) opn8 (by kernel_rfl) (by kernel_rfl) (by kernel_rfl) (fun _ _ _ h => h) (Or.inl ⟨by kernel_rfl, ?_⟩) (by assumption) ?_
                          rotate_left 1
                          · intro wz hSw
                            try dsimp only at hSw
                            obtain ⟨⟨y0, y1, y2, y3⟩, ⟨y4, y5, y6, y7⟩, yf⟩ := eightK ((hSw.block RB (unhide HRBl)).trans (unhide HRB8))
                            go_simp
                            all_goals with_reducible rfl
                          try simp only [Act.put, List.setIfInBounds_toArray, List.set_cons_zero, List.set_cons_succ]
                          refine wpAnyH_ready (rs := [3]) (by kernel_rfl) (by simp) ?_
                          refine AllReadyH.cons opn3 (fun K hK => ?_) AllReadyH.nil
                          rw [if_pos (by kernel_rfl)]
                          go_simp
                          refine (unhide HBEH).mono ?_
                          rintro e w9 ⟨D9, v9, rfl, hd9, hb9⟩
                          have HD9 := hide ((unhide HDO) _ _ _ hd9)
                          have HDR9 := hide hd9
                          have hb89 := (unhide HBD).trans (hb9.mono (unhide HBD).size)
                          have HB89 := hide hb89
                          have HB9 := hide hb9
                          clear hd9 hb9
                          refine hK.out _ _ (hb89) (fun hHeldN => ?_)
                          clear hHeld hK K
                          have hHeld := hHeldN
                          clear hHeldN
                          try simp only [Act.put, List.setIfInBounds_toArray, List.set_cons_zero, List.set_cons_succ]
                          clear hb89
                          refine wpAnyH_ready (rs := [6]) (by kernel_rfl) (by simp) ?_
                          refine AllReadyH.cons opn6 (fun K hK => ?_) AllReadyH.nil
                          rw [if_pos (by kernel_rfl)]
                          go_simp
                          refine (unhide HD9).mono ?_
                          rintro e w10 ⟨rfl, hT10⟩
                          have hb10 := (DTurned.belowN (unhide HDR9) hT10).1
                          have hbd10 := (unhide HBD).trans (((unhide HB9).trans hb10).mono (unhide HBD).size)
                          have HB10 := hide hbd10
                          clear hT10 hb10
                          refine hK.out _ _ (hbd10) (fun hHeldN => ?_)
                          clear hHeld hK K
                          have hHeld := hHeldN
                          clear hHeldN
                          try simp only [Act.put, List.setIfInBounds_toArray, List.set_cons_zero, List.set_cons_succ]
                          clear hbd10
                          refine wpAnyH_take (i := 9) (v := (.bool (ac == rd && at'.toList == ru.toList))) opn9 (by kernel_rfl) (by kernel_rfl) (by kernel_rfl) (fun _ _ _ h => h) (Or.inl ⟨by kernel_rfl, ?_⟩) (by assumption) ?_
                          · intro wz hSw
                            exact yieldsB rfl (by simp [Act.eval]) (by simp [Act.eval]) (eql34 ac rd at' ru wz) (gd34 _ _ _ _ _ wz (.inr rfl))
                          try simp only [Act.put, List.setIfInBounds_toArray, List.set_cons_zero, List.set_cons_succ]
                          refine wpAnyH_take (i := 10) (v := ?_) opn10 (by kernel_rfl) (by kernel_rfl) (by kernel_rfl) (fun _ _ _ h => h) (Or.inl ⟨by kernel_rfl, ?_⟩) (by assumption) ?_
                          rotate_left 1
                          · intro wz hSw
                            try dsimp only at hSw
                            go_simp
                            all_goals with_reducible rfl
                          try simp only [Act.put, List.setIfInBounds_toArray, List.set_cons_zero, List.set_cons_succ]
                          refine wpAnyH_done (by kernel_rfl) ?_ _
                          obtain ⟨hit, hhit⟩ : ∃ hit, (ac == rd && at'.toList == ru.toList) = hit := ⟨_, rfl⟩
                          rw [hhit]
                          have HNX : Hid (hit = false → m + 1 ≤ kk) := fun e => by
                            have : m ≠ kk := fun e2 => by
                              obtain ⟨e3, e4⟩ := (unhide HHIT) e2
                              rw [← hhit, e3, e4] at e
                              simp at e
                            omega
                          clear hhit
                          go_wp2
                          go_roundw
                          case rel => exact ⟨m + 1, hit, by omega, by go_num, rfl, unhide HNX, unhide HB10⟩
                          case measure => simp [intOf]; omega
                        · clear HM
                          by_cases hmn : (m : Int) ≤ (nL : Int)
                          · go_wp2
                            go_roundw
                            case rel => exact ⟨q3 + 1, by omega, by go_num, (unhide HB78).trans ((unhide HB4).mono (unhide HB78).size)⟩
                            case measure => simp [intOf]; omega
                          · go_wp2
                            go_roundw
                            case rel => exact ⟨q3 + 1, by omega, by go_num, (unhide HB78).trans ((unhide HB4).mono (unhide HB78).size)⟩
                            case measure => simp [intOf]; omega
                    · rw [hch] at HCHG
                      clear hch
                      go_wp2_with fail
                      rw [← unhide HW8, ← unhide HRBe]
                      refine ((unhide HCHG) _).mono ?_
                      rintro e w8 ⟨rfl, hw⟩
                      subst hw
                      go_wp2
                      go_roundw
                      case rel => exact ⟨q3 + 1, by omega, by go_num, unhide HB78⟩
                      case measure => simp [intOf]; omega
                · go_wp2
                  go_roundw
                  case rel => exact ⟨q + 1, o4, A2, fr', by omega, by go_num, (unhide HS7).below (unhide HB3), (unhide HB7).trans ((unhide HB3).mono (unhide HB7).size)⟩
                  case measure => simp [intOf]; omega
    · have hsc := (unhide HS).rep.cells.1.1
      obtain ⟨T, hT⟩ : ∃ T, (logB A.log).length = T := ⟨_, rfl⟩
      have hT2000 : T ≤ 2000 := by rw [← hT]; exact (unhide HS).rep.ss
      have HLG := hide (Log_T (unhide HS).rep.s (unhide HS).rep.ss hT)
      generalize o.S = S at HLG hsc
      obtain ⟨nL, hnL⟩ : ∃ nL, A.log.length = nL := ⟨_, rfl⟩
      have HNL := hide hnL
      have HTT := hide hT
      have HALL := hide (allR_log (unhide HS).inv.good)
      have hnL2 : nL ≤ 2000 := by have h1 := (unhide HS).inv.good.few; omega
      clear hnL hT HBw HL
      go_wp2_with fail
      refine (unhide HLG).mono ?_
      rintro e w4 ⟨a4, c4, rfl, ho4, hb4⟩
      obtain ⟨hby4, hnil4, hcap4⟩ := ho4.by (unhide HTT)
      have hro := RecordsOf_by a4 T c4 (logB A.log) w4 hby4 (unhide HTT) hcap4 (by omega) hnil4
      rw [unhide HALL] at hro
      unfold AllRes at hro
      dsimp only at hro
      rw [unhide HNL, unhide HTT] at hro
      have HRO := hide hro
      have HB4 := hide hb4
      clear ho4 hby4 hnil4 hcap4 hro hb4 hsc
      go_wp2_with fail
      refine (unhide HRO).mono ?_
      rintro e w5 ⟨a5, c5, rfl, ho5, hb5⟩
      have HB05 := hide ((unhide HB4).trans (hb5.mono (unhide HB4).size))
      have HREC := hide (recs_row ho5 (unhide HNL))
      have HS5 := hide ((unhide HS).below (unhide HB05))
      have HB5 := hide ((unhide HB).trans ((unhide HB05).mono (unhide HB).size))
      obtain ⟨V, hV⟩ : ∃ V, V = (w5.alloc (.cells #[] 101)).alloc (.cells #[.slice (some ⟨w5.heap.size, 0, none⟩) 0 0] 79) := ⟨_, rfl⟩
      have HD0 : Hid (DRep V w5.heap.size (w5.heap.size + 1) (.slice (some ⟨w5.heap.size, 0, none⟩) 0 0) []) := by
        rw [hV]
        refine ⟨by omega, ?_, ?_, by simp [Value.ownBlock]⟩
        · have h := heap_alloc_new (w5.alloc (.cells #[] 101)) (.cells #[.slice (some ⟨w5.heap.size, 0, none⟩) 0 0] 79)
          rw [show (w5.alloc (.cells #[] 101)).heap.size = w5.heap.size + 1 by simp] at h
          exact h
        · exact (World.ownsRow_lit w5 #[] (base := w5.heap.size) (e := 101) (size := 2) 0 (Nat.le_refl _) (by unfold maxLen; omega) rfl).alloc _
      have HBV : Hid (Below w5.heap.size w5 V) := by rw [hV]; exact ((Below.refl w5.heap.size w5).alloc (Nat.le_refl _) (.cells #[] 101)).alloc (by simp) (.cells #[.slice (some ⟨w5.heap.size, 0, none⟩) 0 0] 79)
      have HV := hide hV
      obtain ⟨DB, hDB⟩ : ∃ DB, DB = w5.heap.size + 1 := ⟨_, rfl⟩
      rw [← hDB] at HD0
      have HDBe := hide hDB
      clear ho5 hb5 HRO HB4 HLG hV hDB HS HB
      go_wp2_with fail
      rw [← unhide HV, ← unhide HDBe]
      go_loopw [20] (fun i wr => ∃ (m : Nat) (v : Value), m ≤ nL ∧ i = .int .i64 (m : Int) ∧ Hid (DRep wr w5.heap.size DB v (behind (A.log.take m))) ∧ Hid (Below w5.heap.size w5 wr)) (fun i _ => nL - (intOf i).toNat)
      case atStart => exact ⟨0, _, Nat.zero_le _, rfl, unhide HD0, unhide HBV⟩
      case round =>
        obtain ⟨m, v, hm, rfl, HD, HBm⟩ := hrel
        by_cases hl5 : (m : Int) < (nL : Int)
        · obtain ⟨r, hr⟩ : ∃ r, A.log[m]? = some r := ⟨_, List.getElem?_eq_getElem (by have := unhide HNL; omega)⟩
          obtain ⟨bL, offL, hbL, hcL⟩ := (unhide HREC).2 (by omega)
          have hrat := (hcL m r hr).below (unhide HBm) (hcL m r hr).lt
          have hbl5 := (hcL m r hr).lt
          have hse := (unhide HS5).inv.se m r hr
          have hrs := (unhide HS5).inv.good.small r (List.mem_of_getElem? hr)
          have hsn : A.log.take (m + 1) = A.log.take m ++ [r] := by rw [List.take_add_one, hr]; rfl
          have HNX : Hid (behind (A.log.take (m + 1)) = (aDo (behind (A.log.take m)) r.call).st) := by rw [hsn]; exact behind_snoc _ _
          have HDD := hide ((unhide HD).below (below_drew wr))
          have HDO := hide (dDo_any r.call w5.heap.size DB v _ wr.drew (unhide HDD) (behind_inv _) hrs.1 hrs.2.1 hrs.2.2)
          rw [hse.1, hse.2] at HDO
          have HRAT := hide hrat
          have hmi : (0 : Int) ≤ (m : Int) := by omega
          have HBd : Hid (Below w5.heap.size w5 wr.drew) := (unhide HBm).drew
          have HBL := hide hbl5
          subst hbL
          obtain ⟨rc, rn, ⟨rk, ra, rb, rt⟩, rd, ru⟩ := r
          dsimp only at HDO HNX
          clear hcL hr hse hrs hsn hrat hbl5
          go_wp2_with fail
          refine wp_region_held_drew (S := (fun wx => RecAt wx bL (offL + m * 8) ⟨rc, rn, ⟨rk, ra, rb, rt⟩, rd, ru⟩)) (by kernel_rfl) ((unhide HRAT).same rfl) (fun hHeld => ?_)
          refine wpAnyH_take (i := 0) (v := ?_) opn0 (by kernel_rfl) (by kernel_rfl) (by kernel_rfl) (fun _ _ _ h => h) (Or.inl ⟨by kernel_rfl, ?_⟩) (by assumption) ?_
          rotate_left 1
          · intro wz hSw
            try dsimp only at hSw
            go_simp
            all_goals with_reducible rfl
          try simp only [Act.put, List.setIfInBounds_toArray, List.set_cons_zero, List.set_cons_succ]
          refine wpAnyH_take (i := 1) (v := ?_) opn1 (by kernel_rfl) (by kernel_rfl) (by kernel_rfl) (fun _ _ _ h => h) (Or.inl ⟨by kernel_rfl, ?_⟩) (by assumption) ?_
          rotate_left 1
          · intro wz hSw
            try dsimp only at hSw
            go_simp
            all_goals with_reducible rfl
          try simp only [Act.put, List.setIfInBounds_toArray, List.set_cons_zero, List.set_cons_succ]
          refine wpAnyH_take (i := 2) (v := ?_) opn2 (by kernel_rfl) (by kernel_rfl) (by kernel_rfl) (fun _ _ _ h => h) (Or.inl ⟨by kernel_rfl, ?_⟩) (by assumption) ?_
          rotate_left 1
          · intro wz hSw
            try dsimp only at hSw
            go_simp
            all_goals with_reducible rfl
          try simp only [Act.put, List.setIfInBounds_toArray, List.set_cons_zero, List.set_cons_succ]
          refine wpAnyH_take (i := 3) (v := ?_) opn3 (by kernel_rfl) (by kernel_rfl) (by kernel_rfl) (fun _ _ _ h => h) (Or.inl ⟨by kernel_rfl, ?_⟩) (by assumption) ?_
          rotate_left 1
          · intro wz hSw
            try dsimp only at hSw
            go_simp
            all_goals with_reducible rfl
          try simp only [Act.put, List.setIfInBounds_toArray, List.set_cons_zero, List.set_cons_succ]
          refine wpAnyH_take (i := 4) (v := ?_) opn4 (by kernel_rfl) (by kernel_rfl) (by kernel_rfl) (fun _ _ _ h => h) (Or.inl ⟨by kernel_rfl, ?_⟩) (by assumption) ?_
          rotate_left 1
          · intro wz hSw
            try dsimp only at hSw
            go_simp
            all_goals with_reducible rfl
          try simp only [Act.put, List.setIfInBounds_toArray, List.set_cons_zero, List.set_cons_succ]
          refine wpAnyH_take (i := 5) (v := ?_) opn5 (by kernel_rfl) (by kernel_rfl) (by kernel_rfl) (fun _ _ _ h => h) (Or.inl ⟨by kernel_rfl, ?_⟩) (by assumption) ?_
          rotate_left 1
          · intro wz hSw
            try dsimp only at hSw
            obtain ⟨y0, y1, y2, y3, y4, y5, y6, y7⟩ := hSw
            go_simp
            all_goals with_reducible rfl
          try simp only [Act.put, List.setIfInBounds_toArray, List.set_cons_zero, List.set_cons_succ]
          refine wpAnyH_take (i := 7) (v := ?_) opn7 (by kernel_rfl) (by kernel_rfl) (by kernel_rfl) (fun _ _ _ h => h) (Or.inl ⟨by kernel_rfl, ?_⟩) (by assumption) ?_
          rotate_left 1
          · intro wz hSw
            try dsimp only at hSw
            go_simp
            all_goals with_reducible rfl
          try simp only [Act.put, List.setIfInBounds_toArray, List.set_cons_zero, List.set_cons_succ]
          refine wpAnyH_take (i := 8) (v := ?_) opn8 (by kernel_rfl) (by kernel_rfl) (by kernel_rfl) (fun _ _ _ h => h) (Or.inl ⟨by kernel_rfl, ?_⟩) (by assumption) ?_
          rotate_left 1
          · intro wz hSw
            try dsimp only at hSw
            go_simp
            all_goals with_reducible rfl
          try simp only [Act.put, List.setIfInBounds_toArray, List.set_cons_zero, List.set_cons_succ]
          refine wpAnyH_take (i := 9) (v := ?_) opn9 (by kernel_rfl) (by kernel_rfl) (by kernel_rfl) (fun _ _ _ h => h) (Or.inl ⟨by kernel_rfl, ?_⟩) (by assumption) ?_
          rotate_left 1
          · intro wz hSw
            try dsimp only at hSw
            go_simp
            all_goals with_reducible rfl
          try simp only [Act.put, List.setIfInBounds_toArray, List.set_cons_zero, List.set_cons_succ]
          refine wpAnyH_take (i := 10) (v := ?_) opn10 (by kernel_rfl) (by kernel_rfl) (by kernel_rfl) (fun _ _ _ h => h) (Or.inl ⟨by kernel_rfl, ?_⟩) (by assumption) ?_
          rotate_left 1
          · intro wz hSw
            try dsimp only at hSw
            go_simp
            all_goals with_reducible rfl
          try simp only [Act.put, List.setIfInBounds_toArray, List.set_cons_zero, List.set_cons_succ]
          refine wpAnyH_take (i := 11) (v := ?_) opn11 (by kernel_rfl) (by kernel_rfl) (by kernel_rfl) (fun _ _ _ h => h) (Or.inl ⟨by kernel_rfl, ?_⟩) (by assumption) ?_
          rotate_left 1
          · intro wz hSw
            try dsimp only at hSw
            obtain ⟨y0, y1, y2, y3, y4, y5, y6, y7⟩ := hSw
            go_simp
            all_goals with_reducible rfl
          try simp only [Act.put, List.setIfInBounds_toArray, List.set_cons_zero, List.set_cons_succ]
          refine wpAnyH_ready (rs := [6]) (by kernel_rfl) (by simp) ?_
          refine AllReadyH.cons opn6 (fun K hK => ?_) AllReadyH.nil
          rw [if_pos (by kernel_rfl)]
          go_simp
          refine (unhide HDO).mono ?_
          rintro e w6 ⟨rfl, hT6⟩
          obtain ⟨hb6, v6, hd6⟩ := DTurned.belowN (unhide HDD) hT6
          have hx6 := (unhide HRAT).same (W := w6) (hb6.block bL (unhide HBL))
          have HD6 := hide hd6
          have HB6 := hide ((unhide HBd).trans hb6)
          clear hT6 hb6 hd6
          refine hK.out _ _ (hx6) (fun hHeldN => ?_)
          clear hHeld hK K
          have hHeld := hHeldN
          clear hHeldN
          try simp only [Act.put, List.setIfInBounds_toArray, List.set_cons_zero, List.set_cons_succ]
          clear hx6
          refine wpAnyH_take (i := 12) (v := (.bool false)) opn12 (by kernel_rfl) (by kernel_rfl) (by kernel_rfl) (fun _ _ _ h => h) (Or.inl ⟨by kernel_rfl, ?_⟩) (by assumption) ?_
          · intro wz hSw
            exact yieldsB rfl (by simp [Act.eval]) (by simp [Act.eval]) (nq34 rd ru wz) (gd34 _ _ _ _ _ wz (.inl rfl))
          try simp only [Act.put, List.setIfInBounds_toArray, List.set_cons_zero, List.set_cons_succ]
          refine wpAnyH_done (by kernel_rfl) ?_ _
          go_wp2
          go_roundw
          case rel => exact ⟨m + 1, v6, by omega, by go_num, by rw [unhide HNX]; exact unhide HD6, unhide HB6⟩
          case measure => simp [intOf]; omega
        · obtain rfl : m = nL := by omega
          have hfull : A.log.take m = A.log := List.take_of_length_le (by have := unhide HNL; omega)
          rw [hfull] at HD
          clear hfull
          obtain ⟨M, hM⟩ : ∃ M, (behind A.log).length = M := ⟨_, rfl⟩
          have hM1000 : M ≤ 1000 := behind_few A.log hM
          have HMM := hide hM
          obtain ⟨va, vc, hv⟩ := (unhide HD).form2
          subst hv
          rw [hM] at HD
          have hsr := (unhide HS5).rep.below (unhide HBm)
          have HSC := hide (fun wx (hb : Below wr.heap.size wr wx) => (hsr.below hb).cells.1.1)
          have HSB := hide (fun wx (hb : Below wr.heap.size wr wx) => (hsr.below hb).s.ptr)
          have HNM := hide (Names_M ((hsr.below (below_drew wr)).s.files) hM)
          have HDC := hide (fun wx (hb : Below wr.heap.size wr wx) => ((unhide HD).below hb).cell0)
          have HDN := hide (fun wx (hb : Below wr.heap.size wr wx) => (dNames_M ((unhide HD).below hb) hM).2)
          have HBf := hide ((unhide HB5).trans ((unhide HBm).mono (unhide HB5).size))
          generalize o.S = S at HSC HSB
          generalize o.B = B at HSB HNM
          clear hM hsr
          go_wp2_with fail
          refine wp_region_held_drew (S := (fun wx => Below wr.heap.size wr wx)) (by kernel_rfl) (below_drew wr) (fun hHeld => ?_)
          refine wpAnyH_take (i := 0) (v := ?_) opn0 (by kernel_rfl) (by kernel_rfl) (by kernel_rfl) (fun _ _ _ h => h) (Or.inl ⟨by kernel_rfl, ?_⟩) (by assumption) ?_
          rotate_left 1
          · intro wz hSw
            try dsimp only at hSw
            go_simp
            all_goals with_reducible rfl
          try simp only [Act.put, List.setIfInBounds_toArray, List.set_cons_zero, List.set_cons_succ]
          refine wpAnyH_take (i := 1) (v := ?_) opn1 (by kernel_rfl) (by kernel_rfl) (by kernel_rfl) (fun _ _ _ h => h) (Or.inl ⟨by kernel_rfl, ?_⟩) (by assumption) ?_
          rotate_left 1
          · intro wz hSw
            try dsimp only at hSw
            go_simp
            all_goals with_reducible rfl
          try simp only [Act.put, List.setIfInBounds_toArray, List.set_cons_zero, List.set_cons_succ]
          refine wpAnyH_take (i := 2) (v := ?_) opn2 (by kernel_rfl) (by kernel_rfl) (by kernel_rfl) (fun _ _ _ h => h) (Or.inl ⟨by kernel_rfl, ?_⟩) (by assumption) ?_
          rotate_left 1
          · intro wz hSw
            try dsimp only at hSw
            go_simp
            all_goals with_reducible rfl
          try simp only [Act.put, List.setIfInBounds_toArray, List.set_cons_zero, List.set_cons_succ]
          refine wpAnyH_take (i := 3) (v := ?_) opn3 (by kernel_rfl) (by kernel_rfl) (by kernel_rfl) (fun _ _ _ h => h) (Or.inl ⟨by kernel_rfl, ?_⟩) (by assumption) ?_
          rotate_left 1
          · intro wz hSw
            try dsimp only at hSw
            have hq := (unhide HSC) _ hSw
            go_simp
            all_goals with_reducible rfl
          try simp only [Act.put, List.setIfInBounds_toArray, List.set_cons_zero, List.set_cons_succ]
          refine wpAnyH_take (i := 4) (v := ?_) opn4 (by kernel_rfl) (by kernel_rfl) (by kernel_rfl) (fun _ _ _ h => h) (Or.inl ⟨by kernel_rfl, ?_⟩) (by assumption) ?_
          rotate_left 1
          · intro wz hSw
            try dsimp only at hSw
            go_simp
            all_goals with_reducible rfl
          try simp only [Act.put, List.setIfInBounds_toArray, List.set_cons_zero, List.set_cons_succ]
          refine wpAnyH_take (i := 5) (v := ?_) opn5 (by kernel_rfl) (by kernel_rfl) (by kernel_rfl) (fun _ _ _ h => h) (Or.inl ⟨by kernel_rfl, ?_⟩) (by assumption) ?_
          rotate_left 1
          · intro wz hSw
            try dsimp only at hSw
            go_simp
            all_goals with_reducible rfl
          try simp only [Act.put, List.setIfInBounds_toArray, List.set_cons_zero, List.set_cons_succ]
          refine wpAnyH_take (i := 6) (v := ?_) opn6 (by kernel_rfl) (by kernel_rfl) (by kernel_rfl) (fun _ _ _ h => h) (Or.inl ⟨by kernel_rfl, ?_⟩) (by assumption) ?_
          rotate_left 1
          · intro wz hSw
            try dsimp only at hSw
            have hq := (unhide HSB) _ hSw
            go_simp
            all_goals with_reducible rfl
          try simp only [Act.put, List.setIfInBounds_toArray, List.set_cons_zero, List.set_cons_succ]
          refine wpAnyH_take (i := 8) (v := ?_) opn8 (by kernel_rfl) (by kernel_rfl) (by kernel_rfl) (fun _ _ _ h => h) (Or.inl ⟨by kernel_rfl, ?_⟩) (by assumption) ?_
          rotate_left 1
          · intro wz hSw
            try dsimp only at hSw
            go_simp
            all_goals with_reducible rfl
          try simp only [Act.put, List.setIfInBounds_toArray, List.set_cons_zero, List.set_cons_succ]
          refine wpAnyH_take (i := 9) (v := ?_) opn9 (by kernel_rfl) (by kernel_rfl) (by kernel_rfl) (fun _ _ _ h => h) (Or.inl ⟨by kernel_rfl, ?_⟩) (by assumption) ?_
          rotate_left 1
          · intro wz hSw
            try dsimp only at hSw
            go_simp
            all_goals with_reducible rfl
          try simp only [Act.put, List.setIfInBounds_toArray, List.set_cons_zero, List.set_cons_succ]
          refine wpAnyH_take (i := 10) (v := ?_) opn10 (by kernel_rfl) (by kernel_rfl) (by kernel_rfl) (fun _ _ _ h => h) (Or.inl ⟨by kernel_rfl, ?_⟩) (by assumption) ?_
          rotate_left 1
          · intro wz hSw
            try dsimp only at hSw
            have hq := (unhide HDC) _ hSw
            go_simp
            all_goals with_reducible rfl
          try simp only [Act.put, List.setIfInBounds_toArray, List.set_cons_zero, List.set_cons_succ]
          refine wpAnyH_ready (rs := [7]) (by kernel_rfl) (by simp) ?_
          refine AllReadyH.cons opn7 (fun K hK => ?_) AllReadyH.nil
          rw [if_pos (by kernel_rfl)]
          go_simp
          refine (unhide HNM).mono ?_
          rintro e w6 ⟨g6, c6, rfl, ho6, hb6⟩
          have HO6 := hide ho6
          have hb06 := (below_drew wr).trans hb6
          have HB06 := hide hb06
          have HDX := hide ((unhide HDN) _ hb06)
          clear ho6 hb6
          refine hK.out _ _ (hb06) (fun hHeldN => ?_)
          clear hHeld hK K
          have hHeld := hHeldN
          clear hHeldN
          try simp only [Act.put, List.setIfInBounds_toArray, List.set_cons_zero, List.set_cons_succ]
          clear hb06
          refine wpAnyH_ready (rs := [11]) (by kernel_rfl) (by simp) ?_
          refine AllReadyH.cons opn11 (fun K hK => ?_) AllReadyH.nil
          rw [if_pos (by kernel_rfl)]
          go_simp
          refine (unhide HDX).mono ?_
          rintro e w7 ⟨a7, c7, rfl, ho7, hb7⟩
          have hb07 := (unhide HB06).trans (hb7.mono (unhide HB06).size)
          have HB07 := hide hb07
          have hst := SameTexts_any (some ⟨g6, 0, none⟩) a7 M M c6 c7 _ _ w7 (ownsRow_base (ownsRow_same (unhide HO6) (fun k hk => hb7.block k ((unhide HO6).lt k hk).2)) (Nat.zero_le _)) (ownsRow_base ho7 (Nat.zero_le _)) hM1000 hM1000
          rw [decide_eq_true (rfl : sNames (behind A.log) = sNames (behind A.log))] at hst
          have HST := hide hst
          clear ho7 hb7 hst
          refine hK.out _ _ (hb07) (fun hHeldN => ?_)
          clear hHeld hK K
          have hHeld := hHeldN
          clear hHeldN
          try simp only [Act.put, List.setIfInBounds_toArray, List.set_cons_zero, List.set_cons_succ]
          clear hb07
          refine wpAnyH_ready (rs := [12]) (by kernel_rfl) (by simp) ?_
          refine AllReadyH.cons opn12 (fun K hK => ?_) AllReadyH.nil
          rw [if_pos (by kernel_rfl)]
          go_simp
          refine (unhide HST).mono ?_
          rintro e w8 ⟨rfl, hb8⟩
          have hb08 := (unhide HB07).trans (hb8.mono (unhide HB07).size)
          have HB08 := hide hb08
          clear hb8
          refine hK.out _ _ (hb08) (fun hHeldN => ?_)
          clear hHeld hK K
          have hHeld := hHeldN
          clear hHeldN
          try simp only [Act.put, List.setIfInBounds_toArray, List.set_cons_zero, List.set_cons_succ]
          clear hb08
          refine wpAnyH_take (i := 13) (v := ?_) opn13 (by kernel_rfl) (by kernel_rfl) (by kernel_rfl) (fun _ _ _ h => h) (Or.inl ⟨by kernel_rfl, ?_⟩) (by assumption) ?_
          rotate_left 1
          · intro wz hSw
            try dsimp only at hSw
            go_simp
            all_goals with_reducible rfl
          try simp only [Act.put, List.setIfInBounds_toArray, List.set_cons_zero, List.set_cons_succ]
          refine wpAnyH_done (by kernel_rfl) ?_ _
          go_wp2
          go_ret
          exact ⟨rfl, (unhide HB2).trans (((unhide HBf).trans ((unhide HB08).mono (unhide HBf).size)).mono hz2)⟩

end Go.Proofs.YtmbhbnoifimeaabGreat

namespace Go.Proofs.YtmbhbnoifimeaabGreat
open Go.ChangeShapes Go.WideShapes Go.ChangeAt Go.RowKit Go.Deep Go.Joins
set_option linter.unusedSimpArgs false
set_option linter.unusedVariables false

theorem reach48 {s : ByteArray} (h : s.data.toList.length ≤ reachBytes) : s.size ≤ 281474976710656 := by
  have h1 : s.size = s.data.toList.length := by show s.data.size = _; rw [Array.length_toList]
  unfold reachBytes at h
  omega

section
variable {H : Type} {enc : TypeId × Value → H} {w : World} {base : Nat} {spare : Nat → Bool} {held : Bool}

theorem trodS4 {P : Program} {t : TypeId} {f0 f1 f2 f3 : Field} {fuel : Nat} {cs : List Value} {x : DataW H × List MemPlace} (ht : P.underlying t = some (.struct #[f0, f1, f2, f3])) (h : DataW.trod enc P w base spare held fuel t cs = some x) :
    ∃ y0 y1 y2 y3 n, x.1 = .agg [y0.1, y1.1, y2.1, y3.1] ∧ cs.length = P.cellsOf t ∧ DataW.trod enc P w base spare held n f0.type ((cs.drop f0.offset).take (P.cellsOf f0.type)) = some y0 ∧ DataW.trod enc P w base spare held n f1.type ((cs.drop f1.offset).take (P.cellsOf f1.type)) = some y1 ∧ DataW.trod enc P w base spare held n f2.type ((cs.drop f2.offset).take (P.cellsOf f2.type)) = some y2 ∧ DataW.trod enc P w base spare held n f3.type ((cs.drop f3.offset).take (P.cellsOf f3.type)) = some y3 := by
  obtain ⟨xs, n, _, rfl, hl, hlen, hf⟩ := DataW.trod_struct ht h
  match xs, hlen with
  | [y0, y1, y2, y3], _ => exact ⟨y0, y1, y2, y3, n, rfl, hl, by simpa using hf 0 f0 rfl, by simpa using hf 1 f1 rfl, by simpa using hf 2 f2 rfl, by simpa using hf 3 f3 rfl⟩
set_option maxRecDepth 100000 in
/-- A call's four cells. -/
theorem open_callW {fuel : Nat} {cs : List Value} {x : DataW H × List MemPlace} (h : DataW.trod enc Tryz.prog w base spare held fuel 32 cs = some x) (hw : ∀ n ∈ x.1.weights Tryz.prog 32, n ≤ reachBytes) :
    ∃ c : ACall, cs = [.int .i64 c.kind, .string c.name, .string c.dst, .string c.text] ∧ c.name.size ≤ 281474976710656 ∧ c.dst.size ≤ 281474976710656 ∧ c.text.size ≤ 281474976710656 := by
  obtain ⟨y0, y1, y2, y3, n, hx, hl, h0, h1, h2, h3⟩ := trodS4 Tryz.underlying32 h
  rw [cells32] at hl
  obtain ⟨c0, c1, c2, c3, hcs⟩ := array4 (cs := cs.toArray) (by simpa using hl)
  have hcs : cs = [c0, c1, c2, c3] := by simpa using congrArg Array.toList hcs
  subst hcs
  simp only [cells3, cells9, List.drop, List.take] at h0 h1 h2 h3
  obtain ⟨k, e0, f0, wk⟩ := DataW.trod_int Tryz.underlying3 h0
  obtain ⟨a, e1, f1, wa⟩ := DataW.trod_string Tryz.underlying9 h1
  obtain ⟨b, e2, f2, wb⟩ := DataW.trod_string Tryz.underlying9 h2
  obtain ⟨t, e3, f3, wt⟩ := DataW.trod_string Tryz.underlying9 h3
  simp at e0 e1 e2 e3
  rw [hx] at hw
  subst e0 e1 e2 e3 f0 f1 f2 f3
  simp only [DataW.weights, Tryz.underlying32, List.map, DataW.weightsEach, List.nil_append, List.append_nil, List.mem_append, List.mem_singleton] at hw
  exact ⟨⟨k, a, b, t⟩, rfl, reach48 (hw _ (by simp)), reach48 (hw _ (by simp)), reach48 (hw _ (by simp))⟩

theorem mem_weightsAll {e : TypeId} : ∀ {l : List (DataW H)} {d : DataW H}, d ∈ l → ∀ n ∈ d.weights Tryz.prog e, n ∈ DataW.weightsAll Tryz.prog e l
  | x :: l, d, hd, n, hn => by
    simp only [DataW.weightsAll, List.mem_append]
    rcases List.mem_cons.1 hd with rfl | h
    · exact .inl hn
    · exact .inr (mem_weightsAll h n hn)
end

end Go.Proofs.YtmbhbnoifimeaabGreat

namespace Go.Proofs.YtmbhbnoifimeaabGreat
open Go.ChangeShapes Go.WideShapes Go.ChangeAt Go.RowKit Go.Deep Go.Joins
set_option linter.unusedSimpArgs false
set_option linter.unusedVariables false

theorem cells69 : Tryz.prog.cellsOf 69 = 7 := by kernel_rfl
theorem list7 {α : Type} {l : List α} (h : l.length = 7) : ∃ c0 c1 c2 c3 c4 c5 c6, l = [c0, c1, c2, c3, c4, c5, c6] := by
  match l, h with
  | [c0, c1, c2, c3, c4, c5, c6], _ => exact ⟨_, _, _, _, _, _, _, rfl⟩
set_option maxRecDepth 100000 in
/-- A step's seven cells. -/
theorem open_xW {H : Type} {enc : TypeId × Value → H} {w : World} {base : Nat} {spare : Nat → Bool} {held : Bool} {fuel : Nat} {cs : List Value} {x : DataW H × List MemPlace} (h : DataW.trod enc Tryz.prog w base spare held fuel 69 cs = some x) (hw : ∀ n ∈ x.1.weights Tryz.prog 69, n ≤ reachBytes) :
    ∃ s : AX, cs = wxcells s ∧ SmallC s.call := by
  obtain ⟨y0, y1, y2, y3, n, hx, hl, h0, h1, h2, h3⟩ := trodS4 Tryz.underlying69 h
  rw [cells69] at hl
  obtain ⟨c0, c1, c2, c3, c4, c5, c6, rfl⟩ := list7 hl
  rw [hx] at hw
  simp only [DataW.weights, Tryz.underlying69, List.map, DataW.weightsEach, List.append_nil, List.mem_append] at hw
  simp only [cells3, cells32, List.drop, List.take] at h0 h1 h2 h3
  obtain ⟨k0, f0, _, _⟩ := DataW.trod_int Tryz.underlying3 h0
  obtain ⟨k1, f1, _, _⟩ := DataW.trod_int Tryz.underlying3 h1
  obtain ⟨k2, f2, _, _⟩ := DataW.trod_int Tryz.underlying3 h2
  obtain ⟨c, f3, s1, s2, s3⟩ := open_callW h3 (fun n hn => hw n (by simp [hn]))
  simp at f0 f1 f2 f3
  obtain ⟨rfl, rfl, rfl, rfl⟩ := f3
  subst f0 f1 f2
  exact ⟨⟨k0, k1, k2, c⟩, rfl, s1, s2, s3⟩

/-- A row of steps. -/
theorem open_xs {H : Type} {enc : TypeId × Value → H} {w : World} {base : Nat} {held : Bool} {fuel : Nat} {a0 : Option Addr} {len cap : Nat} {x : DataW H × List MemPlace}
    (h : DataW.trod enc Tryz.prog w base (fun _ => true) held fuel 22 [.slice a0 len cap] = some x) (hw : ∀ n ∈ x.1.weights Tryz.prog 22, n ≤ reachBytes) : ∃ xs : List AX, XsAt w a0 len xs := by
  rcases open_slice Tryz.underlying22 h with ⟨hcs, _⟩ | ⟨a, len', cap', m, n, D, Pl, hcs, _, hl, hm, hmm, hxe, hx⟩
  · simp at hcs
    obtain ⟨rfl, rfl, rfl⟩ := hcs
    exact ⟨[], rfl, Nat.zero_le _, by simp, fun h => absurd h (Nat.lt_irrefl _)⟩
  · simp at hcs
    obtain ⟨rfl, rfl, rfl⟩ := hcs
    simp only [if_true] at hmm
    subst hmm
    rw [cells69] at hx
    have hwD : ∀ i, i < len → ∀ n ∈ (D i).weights Tryz.prog 69, n ≤ reachBytes := fun i hi n hn => hw n (by
      rw [hxe]
      simp only [DataW.weights, Tryz.underlying22, List.mem_cons, List.mem_append]
      exact .inr (.inl (mem_weightsAll (List.mem_map.2 ⟨i, List.mem_range.2 hi, rfl⟩) n hn)))
    obtain ⟨f, hf⟩ : ∃ f : Nat → AX, ∀ i, i < len → w.cells? base (a.add (i * 7)) 7 = some (wxcells (f i)) ∧ SmallC (f i).call := by
      classical
      have hc : ∀ i, i < len → ∃ r : AX, w.cells? base (a.add (i * 7)) 7 = some (wxcells r) ∧ SmallC r.call := fun i hi => by
        obtain ⟨cs', h1, h2⟩ := hx i (by omega)
        obtain ⟨r, rfl, w1⟩ := open_xW h2 (hwD i hi)
        exact ⟨r, h1, w1⟩
      refine ⟨fun i => if hi : i < len then Classical.choose (hc i hi) else ⟨0, 0, 0, zeroCall⟩, fun i hi => ?_⟩
      simp only [dif_pos hi]
      exact Classical.choose_spec (hc i hi)
    refine ⟨(List.range len).map f, by simp, by omega, fun r hr => ?_, fun h0 => ?_⟩
    · simp at hr
      obtain ⟨i, hi, rfl⟩ := hr
      exact (hf i hi).2
    · have hs : ∀ i, i < len → ∀ j, j < 7 → w.cell? ((a.add (i * 7)).add j) = (wxcells (f i))[j]? := fun i hi j hj => by
        obtain ⟨_, hlen, hcell⟩ := World.cells?_some (hf i hi).1
        exact hcell j hj
      have e0 := hs 0 h0 0 (by omega)
      have ea : a = ⟨a.block, a.off, none⟩ := by
        have : (a.add (0 * 7)).add 0 = a := by simp [Addr.add]
        rw [this] at e0
        exact spot_none e0
      refine ⟨a.block, a.off, by rw [← ea], fun j r hj => ?_⟩
      have hj' : j < len := by have := (List.getElem?_eq_some_iff.1 hj).1; simpa using this
      have hr : r = f j := by
        rw [List.getElem?_map, List.getElem?_range hj'] at hj
        simpa using hj.symm
      subst hr
      have hq : ∀ i, i < 7 → w.cell? ⟨a.block, a.off + j * 7 + i, none⟩ = (wxcells (f j))[i]? := fun i hi => by
        have := hs j hj' i hi
        rw [ea, addr_add, addr_add] at this
        exact this
      exact ⟨hq 0 (by omega), hq 1 (by omega), hq 2 (by omega), hq 3 (by omega), hq 4 (by omega), hq 5 (by omega), hq 6 (by omega)⟩

end Go.Proofs.YtmbhbnoifimeaabGreat
