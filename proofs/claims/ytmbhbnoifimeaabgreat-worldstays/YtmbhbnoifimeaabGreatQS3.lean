/- Texts joined, what is needed of them: Sj Ct Sk Sl Sd Sm Sf Sn So Sp Sq Sr Rg0 Pa Pb. -/
import Derived.Test.YtmbhbnoifimeaabGreatQS2
import Derived.BigRegion
import Derived.Deep.RegionHeld
import Derived.Laws.Rows
import Derived.Laws.Tables
namespace Go.Proofs.YtmbhbnoifimeaabGreat
open Go.RowKit
set_option linter.unusedSimpArgs false
set_option linter.unusedVariables false

/-- A store at block S: its files at B and its last records; whatever its log is. -/
structure SCore (N : Nat) (w : World) (S B : Nat) (own : List Nat) (lv : Value) (L : List ARec) : Prop where
  new : N ≤ S
  blk : ∃ C : Array Value, w.heap[S]? = some (.cells C 64 (0, 0)) ∧ C.toList = sCells B lv (lastR L 0) (lastR L 1) (lastR L 2)
  files : OObj N w B own (behind L)
  sB : S ∉ own
theorem SRep.core {N : Nat} {w : World} {S B : Nat} {own : List Nat} {lv : Value} {L : List ARec} (h : SRep N w S B own lv L) : SCore N w S B own lv L := ⟨h.new, h.blk, h.files, h.sB⟩
theorem SCore.lt {N : Nat} {w : World} {S B : Nat} {own : List Nat} {lv : Value} {L : List ARec} (h : SCore N w S B own lv L) : S < w.heap.size := by
  obtain ⟨C, hC, _⟩ := h.blk
  exact (Array.getElem?_eq_some_iff.1 hC).1
theorem SCore.at {N : Nat} {w : World} {S B : Nat} {own : List Nat} {lv : Value} {L : List ARec} (h : SCore N w S B own lv L) (j : Nat) : w.cell? ⟨S, j, none⟩ = (sCells B lv (lastR L 0) (lastR L 1) (lastR L 2))[j]? ∧ w.frozen? ⟨S, j, none⟩ = false := by
  obtain ⟨C, hC, hl⟩ := h.blk
  refine ⟨?_, frozen_of_row w S j _ _ hC⟩
  rw [cell_of_row w S _ _ _ _ hC, ← hl, Array.getElem?_toList]
theorem SCore.ptr {N : Nat} {w : World} {S B : Nat} {own : List Nat} {lv : Value} {L : List ARec} (h : SCore N w S B own lv L) : w.cell? ⟨S, 0, none⟩ = some (.pointer (some ⟨B, 0, none⟩)) := (h.at 0).1
theorem SCore.below {N : Nat} {w w' : World} {S B : Nat} {own : List Nat} {lv : Value} {L : List ARec} (h : SCore N w S B own lv L) (hb : Below w.heap.size w w') : SCore N w' S B own lv L := by
  obtain ⟨C, hC, hl⟩ := h.blk
  exact ⟨h.new, ⟨C, (hb.block S h.lt).trans hC, hl⟩, ⟨h.files.rep.below hb, h.files.inv, h.files.own⟩, h.sB⟩
/-- Eight cells written, from o on. -/
def set8o (w : World) (b o : Nat) (y0 y1 y2 y3 y4 y5 y6 y7 : Value) : World :=
  (((((((w.setCell ⟨b, o, none⟩ y0).setCell ⟨b, o + 1, none⟩ y1).setCell ⟨b, o + 2, none⟩ y2).setCell ⟨b, o + 3, none⟩ y3).setCell ⟨b, o + 4, none⟩ y4).setCell ⟨b, o + 5, none⟩ y5).setCell ⟨b, o + 6, none⟩ y6).setCell ⟨b, o + 7, none⟩ y7
theorem set_mid (A Z : List Value) (x0 x1 x2 x3 x4 x5 x6 x7 y0 y1 y2 y3 y4 y5 y6 y7 : Value) :
    ((((((((A ++ x0 :: x1 :: x2 :: x3 :: x4 :: x5 :: x6 :: x7 :: Z).set A.length y0).set (A.length + 1) y1).set (A.length + 2) y2).set (A.length + 3) y3).set (A.length + 4) y4).set (A.length + 5) y5).set (A.length + 6) y6).set (A.length + 7) y7 = A ++ y0 :: y1 :: y2 :: y3 :: y4 :: y5 :: y6 :: y7 :: Z := by
  induction A with
  | nil => rfl
  | cons a A ih =>
    simp only [List.cons_append, List.length_cons, show A.length + 1 + 1 = A.length + 1 + 1 from rfl, Nat.add_right_comm A.length 1, List.set_cons_succ]
    rw [ih]
theorem set8o_blk {w : World} {b o : Nat} {C : Array Value} {e : TypeId} (h : w.heap[b]? = some (.cells C e (0, 0))) (A Z : List Value) (x0 x1 x2 x3 x4 x5 x6 x7 : Value) (hC : C.toList = A ++ x0 :: x1 :: x2 :: x3 :: x4 :: x5 :: x6 :: x7 :: Z) (hA : A.length = o) (y0 y1 y2 y3 y4 y5 y6 y7 : Value) :
    ∃ C', (set8o w b o y0 y1 y2 y3 y4 y5 y6 y7).heap[b]? = some (.cells C' e (0, 0)) ∧ C'.toList = A ++ y0 :: y1 :: y2 :: y3 :: y4 :: y5 :: y6 :: y7 :: Z := by
  have h0 := heap_setCell_same h (o := o) y0
  have h1 := heap_setCell_same h0 (o := o + 1) y1
  have h2 := heap_setCell_same h1 (o := o + 2) y2
  have h3 := heap_setCell_same h2 (o := o + 3) y3
  have h4 := heap_setCell_same h3 (o := o + 4) y4
  have h5 := heap_setCell_same h4 (o := o + 5) y5
  have h6 := heap_setCell_same h5 (o := o + 6) y6
  have h7 := heap_setCell_same h6 (o := o + 7) y7
  refine ⟨_, h7, ?_⟩
  simp only [Array.toList_setIfInBounds, hC, ← hA]
  exact set_mid A Z x0 x1 x2 x3 x4 x5 x6 x7 y0 y1 y2 y3 y4 y5 y6 y7
theorem set8o_kept (w : World) (b o : Nat) (y0 y1 y2 y3 y4 y5 y6 y7 : Value) : Kept [b] w (set8o w b o y0 y1 y2 y3 y4 y5 y6 y7) := by
  have k : ∀ (w : World) (o : Nat) (y : Value), Kept [b] w (w.setCell ⟨b, o, none⟩ y) := fun w o y => kept_setCell [b] w b o y (by simp)
  have s : ∀ x, x ∈ [b] → x ∈ [b] ∨ w.heap.size ≤ x := fun x hx => .inl hx
  unfold set8o
  exact (((((((k _ _ _).trans (k _ _ _) s).trans (k _ _ _) s).trans (k _ _ _) s).trans (k _ _ _) s).trans (k _ _ _) s).trans (k _ _ _) s).trans (k _ _ _) s

/-- The last record of a client set: the records are those with it behind them. -/
theorem sCells_set (B : Nat) (lv : Value) (L : List ARec) (r : ARec) (c : Nat) (hc : c < 3) (hr : r.client = (c : Int)) :
    ∃ A Z, A.length = 2 + c * 8 ∧ sCells B lv (lastR L 0) (lastR L 1) (lastR L 2) = A ++ (rcells (lastR L c) ++ Z) ∧ sCells B lv (lastR (L ++ [r]) 0) (lastR (L ++ [r]) 1) (lastR (L ++ [r]) 2) = A ++ (rcells r ++ Z) := by
  simp only [lastR_snoc, hr]
  match c, hc with
  | 0, _ => exact ⟨[.pointer (some ⟨B, 0, none⟩), lv], rcells (lastR L 1) ++ rcells (lastR L 2), rfl, by simp [sCells], by simp [sCells]⟩
  | 1, _ => exact ⟨[.pointer (some ⟨B, 0, none⟩), lv] ++ rcells (lastR L 0), rcells (lastR L 2), rfl, by simp [sCells], by simp [sCells]⟩
  | 2, _ => exact ⟨[.pointer (some ⟨B, 0, none⟩), lv] ++ rcells (lastR L 0) ++ rcells (lastR L 1), [], rfl, by simp [sCells], by simp [sCells]⟩

theorem St.keptS {w w' : World} {B : Nat} {own own2 : List Nat} {st : List AFile} (h : St w B own st) (hk : Kept own2 w w') (hd : ∀ k, k ∈ own → k ∉ own2) : St w' B own st := by
  obtain ⟨v, fs, hr, rfl, rfl⟩ := h
  exact ⟨v, fs, hr.kept hk hd, rfl, rfl⟩
/-- A record done: by the files (from w to w1), then it is its client's last one. -/
theorem SCore.done {N : Nat} {w w1 : World} {S B : Nat} {own own1 : List Nat} {lv : Value} {L : List ARec} {r : ARec} {c : Nat} (h : SCore N w S B own lv L) (ho : OObj N w1 B own1 (aDo (behind L) r.call).st) (hn : Next N w w1 own own1) (hc : c < 3) (hr : r.client = (c : Int)) :
    SCore N (set8o w1 S (2 + c * 8) (.int .i64 r.client) (.int .i64 r.no) (.int .i64 r.call.kind) (.string r.call.name) (.string r.call.dst) (.string r.call.text) (.int .i64 r.code) (.string r.ans)) S B own1 lv (L ++ [r]) := by
  obtain ⟨C, hC, hl⟩ := h.blk
  obtain ⟨hs1, hs2⟩ := hn.keep S h.lt h.sB
  obtain ⟨A, Z, hA, e1, e2⟩ := sCells_set B lv L r c hc hr
  rw [e1] at hl
  obtain ⟨C', h1, h2⟩ := set8o_blk (hs2.trans hC) A Z _ _ _ _ _ _ _ _ hl hA (.int .i64 r.client) (.int .i64 r.no) (.int .i64 r.call.kind) (.string r.call.name) (.string r.call.dst) (.string r.call.text) (.int .i64 r.code) (.string r.ans)
  have hk := set8o_kept w1 S (2 + c * 8) (.int .i64 r.client) (.int .i64 r.no) (.int .i64 r.call.kind) (.string r.call.name) (.string r.call.dst) (.string r.call.text) (.int .i64 r.code) (.string r.ans)
  refine ⟨h.new, ⟨C', h1, by rw [h2, e2]; rfl⟩, ?_, hs1⟩
  rw [behind_snoc]
  exact ⟨ho.rep.keptS hk (by intro k hk1 hm; rw [List.mem_singleton.1 hm] at hk1; exact hs1 hk1), ho.inv, ho.own⟩

end Go.Proofs.YtmbhbnoifimeaabGreat

namespace Go.Proofs.YtmbhbnoifimeaabGreat
open Go.RowKit
set_option linter.unusedSimpArgs false
set_option linter.unusedVariables false

theorem allF_few : ∀ (f : Nat) (bs : List UInt8), (allF f bs).1.length ≤ bs.length
  | 0, _ => by simp [allF]
  | f + 1, bs => by
    rw [allF]
    by_cases h : (decR bs).code ≠ 0
    · rw [if_pos h]; simp
    · rw [if_neg h]
      have hn := decR_n (by simpa using h)
      have := allF_few f (bs.drop (decR bs).n.toNat)
      rw [List.length_drop] at this
      simp only [List.length_cons]
      omega
theorem allR_few (bs : List UInt8) : (allR bs).1.length ≤ bs.length := allF_few _ _

theorem All_by (a0 : Option Addr) (L cap : Nat) (bs : List UInt8) (w : World) (hb : ByAt w a0 bs) (hL : bs.length = L) (hcap : L ≤ cap) (hm : L ≤ 1000000) (hnil : a0 = none → L = 0 ∧ cap = 0) : Calls Tryz.prog 101 #[.slice a0 L cap] w (AllRes w (allR bs)) := by
  cases a0 with
  | none =>
    obtain ⟨rfl, rfl⟩ := hnil rfl
    rw [List.length_eq_zero_iff.1 hL]
    exact All_none w
  | some A =>
    rcases Nat.eq_zero_or_pos L with h | h
    · subst h
      rw [List.length_eq_zero_iff.1 hL]
      exact All_empty A cap w
    · obtain ⟨b, off, e, hc⟩ := hb (fun h0 => by rw [h0] at hL; simp at hL; omega)
      cases e
      obtain ⟨x, hx⟩ : ∃ x, bs[0]? = some x := ⟨_, List.getElem?_eq_getElem (by omega)⟩
      exact All_some b off L cap bs w hc (World.block_lt_of_cell? w _ (hc 0 x hx)) hL hcap hm
end Go.Proofs.YtmbhbnoifimeaabGreat

namespace Go.Proofs.YtmbhbnoifimeaabGreat
open Go.RowKit
set_option linter.unusedSimpArgs false
set_option linter.unusedVariables false

/-- The bytes that were read are those of the records. -/
theorem allF_good : ∀ (f : Nat) (bs : List UInt8), bs.length < f → Good (allF f bs).1 ∧ bs.take (allF f bs).2 = logB (allF f bs).1 ∧ (allF f bs).2 = (logB (allF f bs).1).length ∧ (allF f bs).2 ≤ bs.length
  | 0, _, h => by omega
  | f + 1, bs, hf => by
    rw [allF]
    by_cases h : (decR bs).code ≠ 0
    · rw [if_pos h]; exact ⟨Good.nil, by simp [logB], by simp [logB], by simp⟩
    · have h0 : (decR bs).code = 0 := by simpa using h
      obtain ⟨e1, e2, e3, e4⟩ := decR_inv h0
      have h5 := (encL_le e1).1
      rw [if_neg h]
      have hn : (decR bs).n.toNat = (encL (decR bs).rcd).length := by rw [e2]; simp
      rw [hn]
      obtain ⟨i1, i2, i3, i4⟩ := allF_good f (bs.drop (encL (decR bs).rcd).length) (by rw [List.length_drop]; omega)
      dsimp only
      have hl : logB ((decR bs).rcd :: (allF f (bs.drop (encL (decR bs).rcd).length)).1) = encL (decR bs).rcd ++ logB (allF f (bs.drop (encL (decR bs).rcd).length)).1 := by simp [logB]
      refine ⟨fun r hr => ?_, ?_, ?_, ?_⟩
      · rcases List.mem_cons.1 hr with rfl | hr
        · exact e1
        · exact i1 r hr
      · rw [hl, ← i2, List.take_add, e3]
      · rw [hl, List.length_append, ← i3]
      · rw [List.length_drop] at i4; omega
theorem allR_good (bs : List UInt8) : Good (allR bs).1 ∧ bs.take (allR bs).2 = logB (allR bs).1 ∧ (allR bs).2 = (logB (allR bs).1).length ∧ (allR bs).2 ≤ bs.length := allF_good _ _ (by omega)

theorem SRep.base {N M : Nat} {w : World} {S B : Nat} {own : List Nat} {lv : Value} {L : List ARec} (h : SRep M w S B own lv L) (hN : N ≤ M) : SRep N w S B own lv L :=
  ⟨Nat.le_trans hN h.new, h.blk, ⟨h.files.rep, h.files.inv, fun k hk => Nat.le_trans hN (h.files.own k hk)⟩, ownsRow_base h.log hN, h.good, h.sB, h.sL, h.lB⟩
/-- Its log laid. -/
theorem SCore.setLog {N : Nat} {w : World} {S B : Nat} {own : List Nat} {lv lv' : Value} {L : List ARec} (h : SCore N w S B own lv L) (hl : BRow w N lv' (logB L)) (h1 : lv'.ownBlock ≠ some S) (h2 : ∀ k, lv'.ownBlock = some k → k ∉ own) (hg : Good L) :
    SRep N (w.setCell ⟨S, 1, none⟩ lv') S B own lv' L := by
  obtain ⟨C, hC, hl2⟩ := h.blk
  have hs := heap_setCell_same hC (o := 1) lv'
  have hk := kept_setCell [S] w S 1 lv' (by simp)
  refine ⟨h.new, ⟨_, hs, ?_⟩, ⟨h.files.rep.keptS hk (fun k hk1 hm => ?_), h.files.inv, h.files.own⟩, ?_, hg, h.sB, h1, h2⟩
  · rw [Array.toList_setIfInBounds, hl2]; rfl
  · rw [List.mem_singleton.1 hm] at hk1; exact h.sB hk1
  · exact ownsRow_same hl (fun j hj => hk.block j (hl.lt j hj).2 (fun hm => h1 (by rw [List.mem_singleton.1 hm] at hj; exact hj)))

set_option maxRecDepth 100000 in
set_option maxHeartbeats 8000000 in
theorem Open_any (a0 : Option Addr) (n cap : Nat) (bs : List UInt8) (w : World) (hb : ByAt w a0 bs) (hn : bs.length = n) (hcap : n ≤ cap) (hm : n ≤ 1000000) (hnil : a0 = none → n = 0 ∧ cap = 0) :
    Calls Tryz.prog 75 #[.slice a0 n cap] w fun e w' => ∃ S B own lv, e = .returned (.tuple #[.pointer (some ⟨S, 0, none⟩), .int .i64 ((n : Int) - ((allR bs).2 : Int))]) ∧ SRep w.heap.size w' S B own lv (allR bs).1 ∧ Below w.heap.size w w' := by
  obtain ⟨hg, ht, hk2, hkn⟩ := allR_good bs
  have hfew := allR_few bs
  have HAL := hide (All_by a0 n cap bs w hb hn hcap hm hnil)
  have HCL : Hid (∀ W, Below w.heap.size w W → Calls Tryz.prog 40 #[.slice a0 (allR bs).2 cap] W fun e w' => ∃ a c', e = .returned (.slice a (allR bs).2 c') ∧ BRow w' W.heap.size (.slice a (allR bs).2 c') (logB (allR bs).1) ∧ Below W.heap.size W w') := fun W hW => by
    rw [← ht]
    refine Clone_by a0 (allR bs).2 cap (bs.take (allR bs).2) W (fun h0 => ?_) (by rw [List.length_take]; omega) (by omega) (fun h => ?_)
    · obtain ⟨b, off, rfl, hc⟩ := (hb.below hW) (fun h1 => h0 (by rw [h1]; simp))
      refine ⟨b, off, rfl, fun j x hx => hc j x ?_⟩
      rw [List.getElem?_take] at hx
      split at hx
      · exact hx
      · cases hx
    · have := hnil h; omega
  generalize allR bs = al at *
  obtain ⟨rs, k⟩ := al
  dsimp only at *
  have HG := hide hg
  have HNW := hide (fun W => SNew_any W)
  have HK2 := hide hk2
  obtain ⟨m, hmm⟩ : ∃ m, rs.length = m := ⟨_, rfl⟩
  have hkc : (k : Int) ≤ (cap : Int) := by omega
  have hm5 : m ≤ 1000000 := by omega
  have hkn' : k ≤ n := by omega
  clear hb hn hnil hg ht hk2 hkn hfew
  go_enter Tryz.func75, Tryz.ntmps75
  go_wp2_with fail
  refine (unhide HAL).mono ?_
  rintro e w1 ⟨ga, ca, rfl, oa, b1⟩
  dsimp only
  rw [hmm] at oa ⊢
  have HRS := hide (recs_row oa hmm)
  have HB1 := hide b1
  have HRL : Hid (∀ b, (Value.slice ga m ca).ownBlock = some b → b < w1.heap.size) := fun b h => (oa.lt b h).2
  clear oa b1
  go_wp2_with fail
  refine ((unhide HNW) _).mono ?_
  rintro e w2 ⟨S, B, own0, lv0, rfl, hs2, b2⟩
  have HS2 := hide hs2.core
  have HB2 := hide b2
  clear hs2 b2
  go_wp2_with fail
  go_loopw [17, 8] (fun i _ wr => ∃ (q : Nat) (own : List Nat), q ≤ m ∧ i = .int .i64 (q : Int) ∧ Hid (SCore w1.heap.size wr S B own lv0 (rs.take q)) ∧ Hid (Below w1.heap.size w1 wr)) (fun i _ _ => m - (intOf i).toNat)
  case atStart => exact ⟨0, own0, Nat.zero_le _, rfl, hide (by rw [List.take_zero]; exact unhide HS2), unhide HB2⟩
  case round =>
    obtain ⟨q, own, hq, rfl, HS, HB⟩ := hrel
    by_cases hlt : (q : Int) < (m : Int)
    · obtain ⟨r, hr⟩ : ∃ r, rs[q]? = some r := ⟨_, List.getElem?_eq_getElem (by omega)⟩
      obtain ⟨b, off, rfl, hx⟩ := ((unhide HRS).below (unhide HB)).2 (by omega)
      obtain ⟨x0, x1, x2, x3, x4, x5, x6, x7⟩ := hx q r hr
      have hok := rec_ok ((unhide HG) r (List.mem_of_getElem? hr))
      obtain ⟨c, hc⟩ : ∃ c : Nat, r.client = (c : Int) := ⟨r.client.toNat, by have := hok.c0; omega⟩
      have hc3 : c < 3 := by have := hok.c1; omega
      have htk : rs.take (q + 1) = rs.take q ++ [r] := by rw [List.take_add_one, hr]; rfl
      have HDo : Hid (∀ W, Below wr.heap.size wr W → Calls Tryz.prog 102 #[.pointer (some ⟨B, 0, none⟩), .agg #[.int .i64 r.call.kind, .string r.call.name, .string r.call.dst, .string r.call.text]] W fun e w' => ∃ d u, e = .returned (.agg #[.int .i64 d, .string u]) ∧ ∃ own', OObj w1.heap.size w' B own' (aDo (behind (rs.take q)) r.call).st ∧ Next w1.heap.size W w' own own') := fun W hW => by
        have h := ((unhide HS).below hW).files
        refine (Do_obj r.call h (by have := hok.name; unfold maxLen; omega) (by have := hok.dst; unfold maxLen; omega) (by have := hok.text; unfold maxLen; omega)).mono ?_
        rintro e w' ⟨rfl, own', h1, h2⟩
        exact ⟨_, _, rfl, own', h1, h2⟩
      have HDN : Hid (∀ W w' own', Below wr.heap.size wr W → OObj w1.heap.size w' B own' (aDo (behind (rs.take q)) r.call).st → Next w1.heap.size W w' own own' → SCore w1.heap.size (set8o w' S (2 + c * 8) (.int .i64 r.client) (.int .i64 r.no) (.int .i64 r.call.kind) (.string r.call.name) (.string r.call.dst) (.string r.call.text) (.int .i64 r.code) (.string r.ans)) S B own' lv0 (rs.take (q + 1)) ∧ ∀ j, j < 26 → (∃ v, w'.cell? ⟨S, j, none⟩ = some v) ∧ w'.frozen? ⟨S, j, none⟩ = false) := fun W w' own' hW ho hn => by
        have h := (unhide HS).below hW
        refine ⟨by rw [htk]; exact h.done ho hn hc3 hc, fun j hj => ?_⟩
        obtain ⟨_, hs2⟩ := hn.keep S h.lt h.sB
        obtain ⟨C, hC, hl⟩ := h.blk
        have h26 : C.size = 26 := by rw [← Array.length_toList, hl]; rfl
        refine ⟨⟨C[j], ?_⟩, frozen_of_row w' S j _ _ (hs2.trans hC)⟩
        rw [cell_of_row w' S _ _ _ _ (hs2.trans hC)]
        exact Array.getElem?_eq_getElem (by omega)
      have hptr := (unhide HS).ptr
      have hSl := (unhide HS).lt
      have hown : ∀ j, j ∈ own → j < wr.heap.size := fun j hj => (unhide HS).files.rep.lt hj
      have HOW := hide hown
      clear hx hr hok htk hown
      obtain ⟨rc, rn, ⟨rk, ra, rb, rt⟩, rd, ru⟩ := r
      dsimp only at *
      subst hc
      have HBW : Hid (Below wr.heap.size wr (wr.alloc (.cells #[.int .i64 (c : Int), .int .i64 rn, .int .i64 rk, .string ra, .string rb, .string rt, .int .i64 rd, .string ru] 61)).drew) := ((Below.refl _ _).alloc (Nat.le_refl _) _).drew
      have hRn : wr.heap.size ∉ own := fun h => by have := (unhide HOW) _ h; omega
      go_wp2_with fail
      go_region_law (first | (go_simp; go_at_call 102; refine ((unhide HDo) _ (unhide HBW)).mono ?_; rintro e w3 ⟨d, u, rfl, own3, ho3, hn3⟩; have HDN3 := hide ((unhide HDN) _ w3 own3 (unhide HBW) ho3 hn3); have HBN3 := hide hn3.below; have hr3 := (hn3.keep wr.heap.size (by show _ < (wr.alloc _).heap.size; simp) hRn).2.trans (heap_alloc_new wr (.cells #[.int .i64 (c : Int), .int .i64 rn, .int .i64 rk, .string ra, .string rb, .string rt, .int .i64 rd, .string ru] 61)); have HR3 := hide hr3; clear ho3 hn3 hr3) | fail)
      all_goals
        obtain ⟨⟨y0, y1, y2, y3⟩, ⟨y4, y5, y6, y7⟩, _⟩ := eight (unhide HR3)
        obtain ⟨⟨v0, f0⟩, g0⟩ := (unhide HDN3).2 (2 + c * 8) (by omega)
        obtain ⟨⟨v1, f1⟩, g1⟩ := (unhide HDN3).2 (2 + c * 8 + 1) (by omega)
        obtain ⟨⟨v2, f2⟩, g2⟩ := (unhide HDN3).2 (2 + c * 8 + 2) (by omega)
        obtain ⟨⟨v3, f3⟩, g3⟩ := (unhide HDN3).2 (2 + c * 8 + 3) (by omega)
        obtain ⟨⟨v4, f4⟩, g4⟩ := (unhide HDN3).2 (2 + c * 8 + 4) (by omega)
        obtain ⟨⟨v5, f5⟩, g5⟩ := (unhide HDN3).2 (2 + c * 8 + 5) (by omega)
        obtain ⟨⟨v6, f6⟩, g6⟩ := (unhide HDN3).2 (2 + c * 8 + 6) (by omega)
        obtain ⟨⟨v7, f7⟩, g7⟩ := (unhide HDN3).2 (2 + c * 8 + 7) (by omega)
        have hci : (c : Int) < 3 := by omega
        have hRS : wr.heap.size ≠ S := by omega
        have hSR : S ≠ wr.heap.size := by omega
        go_wp2_with fail
        go_region
        go_wp2
        have hk8 := set8o_kept w3 S (2 + c * 8) (.int .i64 (c : Int)) (.int .i64 rn) (.int .i64 rk) (.string ra) (.string rb) (.string rt) (.int .i64 rd) (.string ru)
        have hb3 : Below w1.heap.size w1 w3 := ((unhide HB).alloc (unhide HB).size (.cells #[.int .i64 (c : Int), .int .i64 rn, .int .i64 rk, .string ra, .string rb, .string rt, .int .i64 rd, .string ru] 61)).drew.trans (unhide HBN3)
        have HB4 := hide (hb3.trans (hk8.below hb3.size (fun j hj => by rw [List.mem_singleton.1 hj]; exact (unhide HS).new))).drew
        have HS4 := hide (((unhide HDN3).1).below ((Below.refl _ _).drew))
        clear hk8 hb3 y0 y1 y2 y3 y4 y5 y6 y7 f0 f1 f2 f3 f4 f5 f6 f7 g0 g1 g2 g3 g4 g5 g6 g7
        go_roundw
        case rel => exact ⟨q + 1, own3, by omega, by go_num, unhide HS4, unhide HB4⟩
        case measure => simp [intOf]; omega
    · obtain rfl : q = m := by omega
      have hfull : rs.take q = rs := List.take_of_length_le (by omega)
      rw [hfull] at HS
      have hBw := (unhide HB1).trans ((unhide HB).mono (unhide HB1).size)
      have HCL2 := hide ((unhide HCL) wr hBw)
      have HBW := hide hBw
      clear hfull hBw
      go_wp2_with fail
      refine (unhide HCL2).mono ?_
      rintro e w4 ⟨al, cl, rfl, ol, b4⟩
      have hs4 := (unhide HS).below b4
      have hc1 := (hs4.at 1).1
      have hc2 := (hs4.at 1).2
      have hR := hs4.setLog (ownsRow_base ol (unhide HB).size) (fun e => by have := (ol.lt S e).1; have := (unhide HS).lt; omega) (fun j hj hm => by have := (ol.lt j hj).1; have := (unhide HS).files.rep.lt hm; omega) (unhide HG)
      have HR := hide (hR.base (unhide HB1).size)
      have hb4' := (unhide HBW).trans (b4.mono (unhide HBW).size)
      have hkS := kept_setCell [S] w4 S 1 (.slice al k cl) (by simp)
      have HB5 := hide (hb4'.trans (hkS.below hb4'.size (fun j hj => by rw [List.mem_singleton.1 hj]; exact Nat.le_trans (unhide HB1).size (unhide HS).new)))
      have hsub : IntKind.i64.wrap ((n : Int) - (k : Int)) = (n : Int) - (k : Int) := by rw [IntKind.wrap_i64]; omega
      clear ol b4 hs4 hR hb4' hkS
      go_wp2
      go_ret2
      exact ⟨S, B, own, _, rfl, unhide HR, unhide HB5⟩

end Go.Proofs.YtmbhbnoifimeaabGreat

namespace Go.Proofs.YtmbhbnoifimeaabGreat
open Go.RowKit
set_option linter.unusedSimpArgs false
set_option linter.unusedVariables false

/-- From w to w' the store at S has come to L'. -/
def STurned (N : Nat) (w : World) (S : Nat) (own : List Nat) (lv : Value) (w' : World) (L' : List ARec) : Prop :=
  ∃ B' own' lv', SRep N w' S B' own' lv' L' ∧ Next N w w' (sown S own lv) (sown S own' lv')

theorem sown_ge {N : Nat} {w : World} {S B : Nat} {own : List Nat} {lv : Value} {L : List ARec} (h : SRep N w S B own lv L) : ∀ k, k ∈ sown S own lv → N ≤ k ∧ k < w.heap.size := fun k hk => by
  rcases List.mem_cons.1 hk with rfl | hk
  · exact ⟨h.new, h.lt⟩
  rcases List.mem_append.1 hk with hk | hk
  · exact h.log.lt k (by simpa using hk)
  · exact ⟨h.files.own k hk, h.files.rep.lt hk⟩

/-- A store's block laid over by another one's: all that is its own is the other's. -/
theorem SRep.over {N : Nat} {w w2 w3 : World} {S B S2 B2 : Nat} {own own2 : List Nat} {lv lv2 : Value} {L L2 : List ARec} {C : Array Value} (h : SRep N w S B own lv L) (hb : Below w.heap.size w w2) (h2 : SRep w.heap.size w2 S2 B2 own2 lv2 L2)
    (hC : C.toList = sCells B2 lv2 (lastR L2 0) (lastR L2 1) (lastR L2 2)) (h3 : w3.heap[S]? = some (.cells C 64 (0, 0))) (hk : Kept [S] w2 w3) (hN : N ≤ w.heap.size) : STurned N w S own lv w3 L2 := by
  have hS := h.lt
  have n1 : S ∉ own2 := fun hm => by have := h2.files.own S hm; omega
  have n2 : lv2.ownBlock ≠ some S := fun e => by have := (h2.log.lt S e).1; omega
  refine ⟨B2, own2, lv2, ⟨h.new, ⟨C, h3, hC⟩, ⟨h2.files.rep.keptS hk (fun k hk1 hm => by rw [List.mem_singleton.1 hm] at hk1; exact n1 hk1), h2.files.inv, fun k hk => Nat.le_trans hN (h2.files.own k hk)⟩, ?_, h2.good, n1, n2, h2.lB⟩, ?_, fun b hb1 hb2 => ⟨fun hm => ?_, ?_⟩⟩
  · exact ownsRow_base (ownsRow_same h2.log (fun j hj => hk.block j (h2.log.lt j hj).2 (fun hm => n2 (by rw [List.mem_singleton.1 hm] at hj; exact hj)))) hN
  · exact (hb.mono hN).trans (hk.below (Nat.le_trans hN hb.size) (fun j hj => by rw [List.mem_singleton.1 hj]; exact h.new))
  · have hbS : b ≠ S := fun e => hb2 (by rw [e]; exact List.mem_cons_self)
    rcases List.mem_cons.1 hm with h4 | h4
    · exact hbS h4
    rcases List.mem_append.1 h4 with h4 | h4
    · have := (h2.log.lt b (by simpa using h4)).1; omega
    · have := h2.files.own b h4; omega
  · have hbS : b ≠ S := fun e => hb2 (by rw [e]; exact List.mem_cons_self)
    exact (hk.block b (Nat.lt_of_lt_of_le hb1 hb.size) (by simpa using hbS)).trans (hb.block b hb1)

theorem info2073 : (Tryz.prog.info? 64).map (·.size) = some 26 := by kernel_rfl

set_option maxRecDepth 100000 in
set_option maxHeartbeats 4000000 in
theorem Crash_any {N : Nat} {w : World} {S B : Nat} {own : List Nat} {lv : Value} {L : List ARec} (h : SRep N w S B own lv L) (hs : (logB L).length ≤ 1000000) (hN : N ≤ w.heap.size) :
    Calls Tryz.prog 49 #[.pointer (some ⟨S, 0, none⟩)] w fun e w' => e = .returned (.tuple #[]) ∧ STurned N w S own lv w' L := by
  obtain ⟨n, hn⟩ : ∃ n, (logB L).length = n := ⟨_, rfl⟩
  have hl := h.log
  obtain ⟨a, c, rfl⟩ := row_form hl
  have hc := h.lg
  rw [hn] at hl hc hs
  obtain ⟨h1, h2, h3⟩ := hl.by hn
  have HOP := hide (Open_any a n c (logB L) w h1 hn h3 hs h2)
  rw [allR_log h.good] at HOP
  have HH := hide h
  rw [hn] at HH
  have hSl := h.lt
  clear h hl h1 h2
  go_enter Tryz.func49, Tryz.ntmps49
  go_wp2_with fail
  refine (unhide HOP).mono ?_
  rintro e w2 ⟨S2, B2, own2, lv2, rfl, hs2, b2⟩
  dsimp only at hs2 ⊢
  obtain ⟨C2, hC2, hl2⟩ := hs2.blk
  obtain ⟨C, hC, hl⟩ := (unhide HH).blk
  have hSb := (b2.block S hSl).trans hC
  have h26 : C2.size = 26 := by rw [← Array.length_toList, hl2]; rfl
  have h26' : C.size = 26 := by rw [← Array.length_toList, hl]; rfl
  have hone : C2.all (·.oneCell') = true := by
    rw [Array.all_eq_true_iff_forall_mem]
    intro v hv
    have hv' : v ∈ C2.toList := by simpa using hv
    rw [hl2] at hv'
    obtain ⟨al, cl, rfl⟩ := row_form hs2.log
    simp [sCells, rcells] at hv'
    rcases hv' with rfl | rfl | rfl | rfl | rfl | rfl | rfl | rfl | rfl | rfl | rfl | rfl | rfl | rfl | rfl | rfl | rfl | rfl | rfl | rfl | rfl | rfl | rfl | rfl | rfl | rfl <;> rfl
  have HS2 := hide hs2
  have HB2 := hide b2
  have HL2 := hide hl2
  clear hs2 b2 hl hl2
  go_wp2_with (first
    | (refine wpList_load_row rfl 64 _ rfl S2 rfl 64 C2 (0, 0) _ hC2 Tryz.underlying64 rfl (by rw [h26]; exact info2073) ?_)
    | (refine wpList_store_row rfl 64 _ _ rfl S C2 rfl rfl 64 C hSb (by rw [h26]; exact info2073) (by rw [h26, h26']) hone ?_))
  have hT : STurned N w S own (.slice a n c) (w2.setRow S C2) L := by
    refine (unhide HH).over (unhide HB2) (unhide HS2) (unhide HL2) (setRow_heap w2 S C C2 64 (0, 0) hSb) ⟨rfl, rfl, rfl, by simp [World.setRow], fun k hk hm => setRow_other w2 S k C2 (fun e => hm (by simp [e]))⟩ hN
  refine bodyPost_end (v := .tuple #[]) (by simp [results, Tryz.results49, go_sem]) rfl ?_
  exact ⟨rfl, hT⟩

end Go.Proofs.YtmbhbnoifimeaabGreat

namespace Go.Proofs.YtmbhbnoifimeaabGreat
open Go.RowKit
set_option linter.unusedSimpArgs false
set_option linter.unusedVariables false

/-- Two cells written, one behind the other. -/
def set2 (w : World) (b : Nat) (y0 y1 : Value) : World := (w.setCell ⟨b, 0, none⟩ y0).setCell ⟨b, 1, none⟩ y1
theorem set2_blk {w : World} {b : Nat} {x0 x1 : Value} {e : TypeId} (h : w.heap[b]? = some (.cells #[x0, x1] e (0, 0))) (y0 y1 : Value) : (set2 w b y0 y1).heap[b]? = some (.cells #[y0, y1] e (0, 0)) := by
  have h0 := heap_setCell_same h (o := 0) y0
  simp only [List.setIfInBounds_toArray, List.set_cons_zero, List.set_cons_succ] at h0
  have h1 := heap_setCell_same h0 (o := 1) y1
  simp only [List.setIfInBounds_toArray, List.set_cons_zero, List.set_cons_succ] at h1
  exact h1
theorem set2_kept (w : World) (b : Nat) (y0 y1 : Value) : Kept [b] w (set2 w b y0 y1) := by
  have k : ∀ (w : World) (o : Nat) (y : Value), Kept [b] w (w.setCell ⟨b, o, none⟩ y) := fun w o y => kept_setCell [b] w b o y (by simp)
  exact (k _ _ _).trans (k _ _ _) (fun x hx => .inl hx)
theorem two {w : World} {b : Nat} {x0 x1 : Value} {e : TypeId} (h : w.heap[b]? = some (.cells #[x0, x1] e (0, 0))) :
    (w.cell? ⟨b, 0, none⟩ = some x0 ∧ w.cell? ⟨b, 1, none⟩ = some x1) ∧ ∀ j, w.frozen? ⟨b, j, none⟩ = false := by
  refine ⟨⟨?_, ?_⟩, fun j => frozen_of_row w b j _ _ h⟩ <;> rw [cell_of_row w b _ _ _ _ h] <;> rfl
theorem four {w : World} {b : Nat} {x0 x1 x2 x3 : Value} {e : TypeId} (h : w.heap[b]? = some (.cells #[x0, x1, x2, x3] e (0, 0))) :
    (w.cell? ⟨b, 0, none⟩ = some x0 ∧ w.cell? ⟨b, 1, none⟩ = some x1 ∧ w.cell? ⟨b, 2, none⟩ = some x2 ∧ w.cell? ⟨b, 3, none⟩ = some x3) ∧ ∀ j, w.frozen? ⟨b, j, none⟩ = false := by
  refine ⟨⟨?_, ?_, ?_, ?_⟩, fun j => frozen_of_row w b j _ _ h⟩ <;> rw [cell_of_row w b _ _ _ _ h] <;> rfl

end Go.Proofs.YtmbhbnoifimeaabGreat

namespace Go.Proofs.YtmbhbnoifimeaabGreat
open Go.RowKit
set_option linter.unusedSimpArgs false
set_option linter.unusedVariables false

/-- A store in the midst of a call: its last records are those of L, its files are behind L'. -/
structure SMid (N : Nat) (w : World) (S B : Nat) (own : List Nat) (lv : Value) (L L' : List ARec) : Prop where
  blk : ∃ C : Array Value, w.heap[S]? = some (.cells C 64 (0, 0)) ∧ C.toList = sCells B lv (lastR L 0) (lastR L 1) (lastR L 2)
  files : OObj N w B own (behind L')
  sB : S ∉ own
theorem SMid.lt {N : Nat} {w : World} {S B : Nat} {own : List Nat} {lv : Value} {L L' : List ARec} (h : SMid N w S B own lv L L') : S < w.heap.size := by
  obtain ⟨C, hC, _⟩ := h.blk
  exact (Array.getElem?_eq_some_iff.1 hC).1
theorem SMid.at {N : Nat} {w : World} {S B : Nat} {own : List Nat} {lv : Value} {L L' : List ARec} (h : SMid N w S B own lv L L') (j : Nat) : w.cell? ⟨S, j, none⟩ = (sCells B lv (lastR L 0) (lastR L 1) (lastR L 2))[j]? ∧ w.frozen? ⟨S, j, none⟩ = false := by
  obtain ⟨C, hC, hl⟩ := h.blk
  refine ⟨?_, frozen_of_row w S j _ _ hC⟩
  rw [cell_of_row w S _ _ _ _ hC, ← hl, Array.getElem?_toList]
theorem SMid.kept {N : Nat} {w w' : World} {S B : Nat} {own o : List Nat} {lv : Value} {L L' : List ARec} (h : SMid N w S B own lv L L') (hk : Kept o w w') (h1 : S ∉ o) (h2 : ∀ k, k ∈ own → k ∉ o) : SMid N w' S B own lv L L' := by
  obtain ⟨C, hC, hl⟩ := h.blk
  exact ⟨⟨C, (hk.block S h.lt h1).trans hC, hl⟩, ⟨h.files.rep.keptS hk h2, h.files.inv, h.files.own⟩, h.sB⟩
theorem SMid.below {N : Nat} {w w' : World} {S B : Nat} {own : List Nat} {lv : Value} {L L' : List ARec} (h : SMid N w S B own lv L L') (hb : Below w.heap.size w w') : SMid N w' S B own lv L L' := h.kept (o := []) (Kept.of_below hb) (by simp) (by simp)
/-- The files have done it. -/
theorem SRep.mid {N : Nat} {w w1 : World} {S B : Nat} {own own1 : List Nat} {lv : Value} {L : List ARec} {r : ARec} (h : SRep N w S B own lv L) (ho : OObj N w1 B own1 (aDo (behind L) r.call).st) (hn : Next N w w1 own own1) : SMid N w1 S B own1 lv L (L ++ [r]) := by
  obtain ⟨C, hC, hl⟩ := h.blk
  obtain ⟨hs1, hs2⟩ := hn.keep S h.lt h.sB
  exact ⟨⟨C, hs2.trans hC, hl⟩, by rw [behind_snoc]; exact ho, hs1⟩
theorem SMid.log {N : Nat} {w : World} {S B : Nat} {own : List Nat} {lv : Value} {L L' : List ARec} (h : SMid N w S B own lv L L') (lv' : Value) : SMid N (w.setCell ⟨S, 1, none⟩ lv') S B own lv' L L' := by
  obtain ⟨C, hC, hl⟩ := h.blk
  have hs := heap_setCell_same hC (o := 1) lv'
  have hk := kept_setCell [S] w S 1 lv' (by simp)
  refine ⟨⟨_, hs, by rw [Array.toList_setIfInBounds, hl]; rfl⟩, ⟨h.files.rep.keptS hk (fun k hk1 hm => ?_), h.files.inv, h.files.own⟩, h.sB⟩
  rw [List.mem_singleton.1 hm] at hk1; exact h.sB hk1
theorem SMid.last {N : Nat} {w : World} {S B : Nat} {own : List Nat} {lv : Value} {L : List ARec} {r : ARec} {c : Nat} (h : SMid N w S B own lv L (L ++ [r])) (hN : N ≤ S) (hc : c < 3) (hr : r.client = (c : Int)) :
    SCore N (set8o w S (2 + c * 8) (.int .i64 r.client) (.int .i64 r.no) (.int .i64 r.call.kind) (.string r.call.name) (.string r.call.dst) (.string r.call.text) (.int .i64 r.code) (.string r.ans)) S B own lv (L ++ [r]) := by
  obtain ⟨C, hC, hl⟩ := h.blk
  obtain ⟨A, Z, hA, e1, e2⟩ := sCells_set B lv L r c hc hr
  rw [e1] at hl
  obtain ⟨C', h1, h2⟩ := set8o_blk hC A Z _ _ _ _ _ _ _ _ hl hA (.int .i64 r.client) (.int .i64 r.no) (.int .i64 r.call.kind) (.string r.call.name) (.string r.call.dst) (.string r.call.text) (.int .i64 r.code) (.string r.ans)
  have hk := set8o_kept w S (2 + c * 8) (.int .i64 r.client) (.int .i64 r.no) (.int .i64 r.call.kind) (.string r.call.name) (.string r.call.dst) (.string r.call.text) (.int .i64 r.code) (.string r.ans)
  refine ⟨hN, ⟨C', h1, by rw [h2, e2]; rfl⟩, ⟨h.files.rep.keptS hk (fun j hj hm => ?_), h.files.inv, h.files.own⟩, h.sB⟩
  rw [List.mem_singleton.1 hm] at hj; exact h.sB hj

/-- What add answers. -/
def AddRes (N : Nat) (w : World) (S : Nat) (own : List Nat) (lv : Value) (R : CRes) (e : Ending) (w' : World) : Prop :=
  e = .returned (.tuple #[.agg #[.int .i64 R.code, .string R.text], .int .i64 R.err]) ∧ STurned N w S own lv w' R.log
theorem STurned.of_below {N : Nat} {w w' : World} {S B : Nat} {own : List Nat} {lv : Value} {L : List ARec} (h : SRep N w S B own lv L) (hb : Below w.heap.size w w') (hN : N ≤ w.heap.size) : STurned N w S own lv w' L :=
  ⟨B, own, lv, h.below hb, hb.mono hN, fun b h1 h2 => ⟨h2, hb.block b h1⟩⟩

theorem Next.kept {N : Nat} {w w' : World} {own own' : List Nat} (h : Next N w w' own own') : Kept own w w' := ⟨h.below.os, h.below.tape, h.below.output, h.below.size, fun k hk hn => (h.keep k hk hn).2⟩
theorem SRep.kept {N : Nat} {w w' : World} {S B : Nat} {own o : List Nat} {lv : Value} {L : List ARec} (h : SRep N w S B own lv L) (hk : Kept o w w') (hd : ∀ k, k ∈ sown S own lv → k ∉ o) : SRep N w' S B own lv L := by
  obtain ⟨C, hC, hl⟩ := h.blk
  refine ⟨h.new, ⟨C, (hk.block S h.lt (hd S List.mem_cons_self)).trans hC, hl⟩, ⟨h.files.rep.keptS hk (fun k hk1 => hd k (List.mem_cons_of_mem _ (List.mem_append_right _ hk1))), h.files.inv, h.files.own⟩, ?_, h.good, h.sB, h.sL, h.lB⟩
  exact ownsRow_same h.log (fun j hj => hk.block j (h.log.lt j hj).2 (hd j (List.mem_cons_of_mem _ (List.mem_append_left _ (by simpa using hj)))))
theorem STurned.mk' {N : Nat} {w w' : World} {S B B' : Nat} {own own' : List Nat} {lv lv' : Value} {L L' : List ARec} (h0 : SRep N w S B own lv L) (hr : SRep N w' S B' own' lv' L') (hk : Kept (sown S own lv) w w') (hN : N ≤ w.heap.size) (hn : ∀ k, k ∈ sown S own' lv' → k ∈ sown S own lv ∨ w.heap.size ≤ k) : STurned N w S own lv w' L' :=
  ⟨B', own', lv', hr, hk.below hN (fun k h => (sown_ge h0 k h).1), fun b h1 h2 => ⟨fun hm => by
    rcases hn b hm with h3 | h3
    · exact h2 h3
    · omega, hk.block b h1 h2⟩⟩
theorem grown_kept {w w' : World} {o : Option Nat} (h : w.grownBy w' o) : Kept o.toList w w' := ⟨h.os, h.tape, h.output, h.size, fun k hk hn => h.block k hk (fun e => hn (by rw [← e]; simp))⟩

set_option maxRecDepth 100000 in
set_option maxHeartbeats 8000000 in
theorem add_any {N : Nat} {w : World} {S B : Nat} {own : List Nat} {lv : Value} {L : List ARec} (h : SRep N w S B own lv L) (cc : Nat) (no k : Int) (a b t : ByteArray) (hs : (logB L).length ≤ 100000) (hcc : cc < 3) (hN : N ≤ w.heap.size)
    (ok0 : recI ⟨(cc : Int), no, ⟨k, a, b, t⟩, 0, ⟨#[]⟩⟩ = 0) (ok1 : recI ⟨(cc : Int), no, ⟨k, a, b, t⟩, (aDo (behind L) ⟨k, a, b, t⟩).code, (aDo (behind L) ⟨k, a, b, t⟩).text⟩ = 0) (ok2 : (encL ⟨(cc : Int), no, ⟨k, a, b, t⟩, (aDo (behind L) ⟨k, a, b, t⟩).code, (aDo (behind L) ⟨k, a, b, t⟩).text⟩).length = (encL ⟨(cc : Int), no, ⟨k, a, b, t⟩, 0, ⟨#[]⟩⟩).length) :
    Calls Tryz.prog 128 #[.pointer (some ⟨S, 0, none⟩), .agg #[.int .i64 (cc : Int), .int .i64 no, .int .i64 k, .string a, .string b, .string t, .int .i64 0, .string ⟨#[]⟩]] w (AddRes N w S own lv (if 2000 < (logB L).length + (encL ⟨(cc : Int), no, ⟨k, a, b, t⟩, 0, ⟨#[]⟩⟩).length then ⟨0, ⟨#[]⟩, 7, L⟩
     else ⟨(aDo (behind L) ⟨k, a, b, t⟩).code, (aDo (behind L) ⟨k, a, b, t⟩).text, 0, L ++ [⟨(cc : Int), no, ⟨k, a, b, t⟩, (aDo (behind L) ⟨k, a, b, t⟩).code, (aDo (behind L) ⟨k, a, b, t⟩).text⟩]⟩)) := by
  have hsz := rec_ok ok0
  obtain ⟨nE, hnE⟩ : ∃ n, (encL ⟨(cc : Int), no, ⟨k, a, b, t⟩, 0, ⟨#[]⟩⟩).length = n := ⟨_, rfl⟩
  obtain ⟨T, hT⟩ : ∃ n, (logB L).length = n := ⟨_, rfl⟩
  have hnE255 : nE ≤ 255 := by rw [← hnE]; exact (encL_le ok0).2
  have HE0 : Hid (∀ W, Calls Tryz.prog 137 #[.agg #[.int .i64 (cc : Int), .int .i64 no, .int .i64 k, .string a, .string b, .string t, .int .i64 0, .string ⟨#[]⟩]] W fun e w' => ∃ g cap, e = .returned (.tuple #[.slice (some ⟨g, 0, none⟩) nE cap, .int .i64 0]) ∧ Below W.heap.size W w') := fun W => by
    refine (Encode_brow ⟨(cc : Int), no, ⟨k, a, b, t⟩, 0, ⟨#[]⟩⟩ W nE _ rfl hnE ok0).mono ?_
    rintro e w' ⟨g, cap, rfl, _, hb⟩
    exact ⟨g, cap, rfl, hb⟩
  have HDo : Hid (∀ W, Below w.heap.size w W → Calls Tryz.prog 102 #[.pointer (some ⟨B, 0, none⟩), .agg #[.int .i64 k, .string a, .string b, .string t]] W fun e w' => e = .returned (.agg #[.int .i64 (aDo (behind L) ⟨k, a, b, t⟩).code, .string (aDo (behind L) ⟨k, a, b, t⟩).text]) ∧ ∃ own', OObj N w' B own' (aDo (behind L) ⟨k, a, b, t⟩).st ∧ Next N W w' own own') := fun W hW => Do_obj ⟨k, a, b, t⟩ (h.below hW).files (by have := hsz.name; unfold maxLen; dsimp only at this ⊢; omega) (by have := hsz.dst; unfold maxLen; dsimp only at this ⊢; omega) (by have := hsz.text; unfold maxLen; dsimp only at this ⊢; omega)
  have HMID : Hid (∀ W w' own' d u, Below w.heap.size w W → OObj N w' B own' (aDo (behind L) ⟨k, a, b, t⟩).st → Next N W w' own own' → SMid N w' S B own' lv L (L ++ [⟨(cc : Int), no, ⟨k, a, b, t⟩, d, u⟩])) := fun W w' own' d u hW ho hn => (h.below hW).mid (r := ⟨(cc : Int), no, ⟨k, a, b, t⟩, d, u⟩) ho hn
  rw [hnE, hT]
  generalize aDo (behind L) ⟨k, a, b, t⟩ = ad at *
  obtain ⟨dcode, dtext, dst⟩ := ad
  dsimp only at *
  obtain ⟨E, hE⟩ : ∃ E, encL ⟨(cc : Int), no, ⟨k, a, b, t⟩, dcode, dtext⟩ = E := ⟨_, rfl⟩
  have hEn : E.length = nE := by rw [← hE, ok2, hnE]
  have HE1 : Hid (∀ W, Calls Tryz.prog 137 #[.agg #[.int .i64 (cc : Int), .int .i64 no, .int .i64 k, .string a, .string b, .string t, .int .i64 dcode, .string dtext]] W fun e w' => ∃ g cap, e = .returned (.tuple #[.slice (some ⟨g, 0, none⟩) nE cap, .int .i64 0]) ∧ BRow w' W.heap.size (.slice (some ⟨g, 0, none⟩) nE cap) E ∧ Below W.heap.size W w') := fun W => Encode_brow ⟨(cc : Int), no, ⟨k, a, b, t⟩, dcode, dtext⟩ W nE E hE hEn ok1
  have HDE : Hid (∀ W g cap, ByAt W (some ⟨g, 0, none⟩) E → nE ≤ cap → Calls Tryz.prog 115 #[.slice (some ⟨g, 0, none⟩) nE cap] W fun e w' => e = .returned (.tuple #[.agg #[.int .i64 (cc : Int), .int .i64 no, .int .i64 k, .string a, .string b, .string t, .int .i64 dcode, .string dtext], .int .i64 (nE : Int), .int .i64 0]) ∧ Below W.heap.size W w') := fun W g cap hby hcap => by
    have hd := decR_enc ok1 []
    rw [hE, List.append_nil, hEn] at hd
    refine (Decode_any (some ⟨g, 0, none⟩) nE cap E W hby hEn hcap (by unfold maxLen; omega)).mono ?_
    rw [hd]
    rintro e w' ⟨hb, rfl⟩
    exact ⟨rfl, hb⟩
  have HLG : Hid (logB (L ++ [⟨(cc : Int), no, ⟨k, a, b, t⟩, dcode, dtext⟩]) = logB L ++ E) := by show _ = _; rw [logB_snoc, hE]
  have HGD := hide (h.good.snoc ok1)
  obtain ⟨RR, hRR⟩ : ∃ R : CRes, R = (if 2000 < T + nE then ⟨0, ⟨#[]⟩, 7, L⟩ else ⟨dcode, dtext, 0, L ++ [⟨(cc : Int), no, ⟨k, a, b, t⟩, dcode, dtext⟩]⟩) := ⟨_, rfl⟩
  rw [← hRR]
  have HRR := hide hRR
  obtain ⟨la, lc, rfl⟩ := row_form h.log
  rw [hT] at h HMID ⊢
  have HH := hide h
  have hSl := h.lt
  have HBL : Hid (Below w.heap.size w ((w.alloc (.cells #[.int .i64 (cc : Int), .int .i64 no, .int .i64 k, .string a, .string b, .string t, .int .i64 0, .string ⟨#[]⟩] 61)).alloc (.cells #[.int .i64 0, .string ⟨#[]⟩] 59))) := ((Below.refl w.heap.size w).alloc (Nat.le_refl _) _).alloc (by simp) _
  have hVK : ∀ W, Below (w.heap.size + 2) ((w.alloc (.cells #[.int .i64 (cc : Int), .int .i64 no, .int .i64 k, .string a, .string b, .string t, .int .i64 0, .string ⟨#[]⟩] 61)).alloc (.cells #[.int .i64 0, .string ⟨#[]⟩] 59)) W → W.heap[w.heap.size]? = some (.cells #[.int .i64 (cc : Int), .int .i64 no, .int .i64 k, .string a, .string b, .string t, .int .i64 0, .string ⟨#[]⟩] 61 (0, 0)) ∧ W.heap[w.heap.size + 1]? = some (.cells #[.int .i64 0, .string ⟨#[]⟩] 59 (0, 0)) ∧ Below w.heap.size w W ∧ w.heap.size + 2 ≤ W.heap.size := fun W hW => by
    have c3 : ((w.alloc (.cells #[.int .i64 (cc : Int), .int .i64 no, .int .i64 k, .string a, .string b, .string t, .int .i64 0, .string ⟨#[]⟩] 61)).alloc (.cells #[.int .i64 0, .string ⟨#[]⟩] 59)).heap[w.heap.size + 1]? = some (.cells #[.int .i64 0, .string ⟨#[]⟩] 59 (0, 0)) := by
      have h := heap_alloc_new (w.alloc (.cells #[.int .i64 (cc : Int), .int .i64 no, .int .i64 k, .string a, .string b, .string t, .int .i64 0, .string ⟨#[]⟩] 61)) (.cells #[.int .i64 0, .string ⟨#[]⟩] 59)
      rw [show (w.alloc (.cells #[.int .i64 (cc : Int), .int .i64 no, .int .i64 k, .string a, .string b, .string t, .int .i64 0, .string ⟨#[]⟩] 61)).heap.size = w.heap.size + 1 by simp] at h
      exact h
    refine ⟨(hW.block _ (by omega)).trans ((Below.heap_alloc _ _ _ (by simp)).trans (heap_alloc_new w _)), (hW.block _ (by omega)).trans c3, (unhide HBL).trans (hW.mono (by omega)), ?_⟩
    have := hW.size; simp at this; omega
  have HVK := hide hVK
  have hTn : T ≤ 100000 := by omega
  clear h hVK ok0 ok1 ok2 hsz hRR hE hnE hs
  go_enter Tryz.func128, Tryz.ntmps128
  go_wp2_with fail
  refine ((unhide HE0) _).mono ?_
  rintro e w1 ⟨gx, cx, rfl, b1⟩
  have HB1 : Hid (Below (w.heap.size + 2) ((w.alloc (.cells #[.int .i64 (cc : Int), .int .i64 no, .int .i64 k, .string a, .string b, .string t, .int .i64 0, .string ⟨#[]⟩] 61)).alloc (.cells #[.int .i64 0, .string ⟨#[]⟩] 59)) w1) := b1.mono (by simp)
  clear b1
  obtain ⟨gg1, gg2, gg3, gg4⟩ := (unhide HVK) w1 (unhide HB1)
  have hs1 := (unhide HH).below gg3
  have hlg := hs1.lg
  have hpt := hs1.ptr
  obtain ⟨⟨r0, r1, r2, r3⟩, ⟨r4, r5, r6, r7⟩, fr⟩ := eight gg1
  obtain ⟨⟨z0, z1⟩, fz⟩ := two gg2
  have HA1 := hide gg2
  have HB1w := hide gg3
  have HR1 := hide gg1
  clear gg1 gg2 gg3 hs1
  by_cases hfull : (2000 : Int) < (T : Int) + (nE : Int)
  · have HRF := hide ((unhide HRR).trans (if_pos (by omega)))
    go_wp2
    have hb2 := set2_blk (unhide HA1) (.int .i64 0) (.string ⟨#[]⟩)
    have hk2 := set2_kept w1 (w.heap.size + 1) (.int .i64 0) (.string ⟨#[]⟩)
    unfold set2 at hb2 hk2
    generalize hw8 : ((w1.setCell ⟨w.heap.size + 1, 0, none⟩ (.int .i64 0)).setCell ⟨w.heap.size + 1, 1, none⟩ (.string ⟨#[]⟩)) = w99 at hb2 hk2 ⊢
    obtain ⟨⟨p0, p1⟩, _⟩ := two hb2
    have bel : Below w.heap.size w w99 := (unhide HB1w).trans (hk2.below (unhide HB1w).size (by simp))
    refine bodyPost_ret (v := .tuple #[.agg #[.int .i64 0, .string ⟨#[]⟩], .int .i64 7]) (by simp [results, Tryz.results128, go_sem, p0, p1]) rfl ?_
    rw [HRF.out]
    exact ⟨rfl, STurned.of_below (unhide HH) bel hN⟩
  · have HRF := hide ((unhide HRR).trans (if_neg (by omega)))
    go_wp2_with fail
    go_region_law (first | (go_simp; go_at_call 102; refine ((unhide HDo) _ (unhide HB1w).drew).mono ?_; rintro e w2 ⟨rfl, own2, ho2, hn2⟩; have HM2 := hide ((unhide HMID) _ w2 own2 dcode dtext (unhide HB1w).drew ho2 hn2); have HN2 := hide hn2; have hq1 := (hn2.keep w.heap.size (by show _ < w1.heap.size; omega) (fun hm => by have := (unhide HH).files.rep.lt hm; omega)); have hq2 := (hn2.keep (w.heap.size + 1) (by show _ < w1.heap.size; omega) (fun hm => by have := (unhide HH).files.rep.lt hm; omega)); have HR2 := hide (hq1.2.trans (unhide HR1)); have HA2 := hide (hq2.2.trans (unhide HA1)); have HRN := hide hq1.1; have HAN := hide hq2.1; obtain ⟨⟨s0, s1, s2, s3⟩, ⟨s4, s5, s6, s7⟩, fs⟩ := eight (unhide HR2); clear ho2 hn2 hq1 hq2) | fail)
    all_goals
      have s6' := heap_setCell_same (unhide HR2) (o := 6) (.int .i64 dcode)
      simp only [List.setIfInBounds_toArray, List.set_cons_zero, List.set_cons_succ] at s6'
      have s7' := heap_setCell_same s6' (o := 7) (.string dtext)
      simp only [List.setIfInBounds_toArray, List.set_cons_zero, List.set_cons_succ] at s7'
      have k6 := kept_setCell [w.heap.size] w2 w.heap.size 6 (.int .i64 dcode) (by simp)
      have k7 := kept_setCell [w.heap.size] (w2.setCell ⟨w.heap.size, 6, none⟩ (.int .i64 dcode)) w.heap.size 7 (.string dtext) (by simp)
      have hk3 := k6.trans k7 (fun x hx => .inl hx)
      clear s6' k6 k7 s0 s1 s2 s3 s4 s5 s6 s7 r0 r1 r2 r3 r4 r5 r6 r7
      generalize hw3 : ((w2.setCell ⟨w.heap.size, 6, none⟩ (.int .i64 dcode)).setCell ⟨w.heap.size, 7, none⟩ (.string dtext)) = w3 at s7' hk3 ⊢
      have hm3 := (unhide HM2).kept hk3 (by simp; omega) (fun j hj hm => (unhide HRN) (by rw [List.mem_singleton.1 hm] at hj; exact hj))
      have HR3 := hide s7'
      have HA3 := hide ((hk3.block (w.heap.size + 1) (Array.getElem?_eq_some_iff.1 (unhide HA2)).1 (by simp)).trans (unhide HA2))
      have hlr : ∀ j, (Value.slice la T lc).ownBlock = some j → j < w.heap.size ∧ j ∉ own ∧ j ≠ S := fun j hj => ⟨((unhide HH).log.lt j hj).2, (unhide HH).lB j hj, fun e => (unhide HH).sL (by rw [← e]; exact hj)⟩
      have hl2 : BRow w2 N (.slice la T lc) (logB L) := ownsRow_same ((unhide HH).log.below (unhide HB1w)) (fun j hj => ((unhide HN2).keep j (by show j < w1.heap.size; have := (hlr j hj).1; omega) (hlr j hj).2.1).2)
      have hl3 : BRow w3 N (.slice la T lc) (logB L) := ownsRow_same hl2 (fun j hj => hk3.block j (hl2.lt j hj).2 (by have := (hlr j hj).1; simp; omega))
      have hz3 : w.heap.size + 2 ≤ w3.heap.size := by have := hk3.size; have h2 : w1.heap.size ≤ w2.heap.size := (unhide HN2).size; omega
      have HM3 := hide hm3
      have HL3 := hide hl3
      have HK3 := hide hk3
      obtain ⟨⟨r0, r1, r2, r3⟩, ⟨r4, r5, r6, r7⟩, _⟩ := eight s7'
      clear hm3 hl2 hl3 hk3 s7' hw3
      go_wp2_with fail
      refine ((unhide HE1) _).mono ?_
      rintro e w4 ⟨gy, cy, rfl, oy, b4⟩
      clear r0 r1 r2 r3 r4 r5 r6 r7
      have HM4 := hide ((unhide HM3).below b4)
      have HL4 := hide ((unhide HL3).below b4)
      have HR4 := hide ((b4.block w.heap.size (by omega)).trans (unhide HR3))
      have HA4 := hide ((b4.block (w.heap.size + 1) (by omega)).trans (unhide HA3))
      have HY4 := hide oy
      have HB4 := hide b4
      have hz4 : w.heap.size + 2 ≤ w4.heap.size := by have := b4.size; omega
      have hgy : w3.heap.size ≤ gy := (oy.lt gy rfl).1
      have hcS := ((unhide HM4).at 1)
      have hcS1 : w4.cell? ⟨S, 1, none⟩ = some (.slice la T lc) := hcS.1
      have HCS : Hid (Can w4 S 1 (.slice la T lc)) := ⟨hcS1, hcS.2⟩
      have hnS : (Value.slice la T lc).ownBlock ≠ some S := fun e => (hlr S e).2.2 rfl
      have hN4 : N ≤ w4.heap.size := by omega
      clear oy b4 hcS
      go_wp2_with (at_builtin; refine wpList_bytes' _ rfl _ _ rfl N (.slice la T lc) (logB L) rfl (unhide HL4) (.slice (some ⟨gy, 0, none⟩) nE cy) nE E rfl hEn (unhide HY4).lies (by rw [hT]; omega) hN4 ?_; intro ad5 c5 w5 ho5 hg5 hat5; rw [hT] at ho5 hat5; have hD := (unhide HCS).grown hg5 hnS; have hD0 := hD.1; have hD1 := hD.2; have HO5 := hide ho5; have HG5 := hide hg5; have HAT5 := hide hat5; clear ho5 hg5 hat5 hD)
      obtain ⟨w6, hw6⟩ : ∃ w6, w6 = w5.setCell ⟨S, 1, none⟩ (.slice ad5 (T + nE) c5) := ⟨_, rfl⟩
      rw [← hw6]
      have hkS := kept_setCell [S] w5 S 1 (.slice ad5 (T + nE) c5) (by simp)
      rw [← hw6] at hkS
      have hk5 := grown_kept (unhide HG5)
      have hlo2 : ∀ j, j ∈ own2 → j ∉ (Value.slice la T lc).ownBlock.toList := fun j hj hm => by
        have hj' : (Value.slice la T lc).ownBlock = some j := by simpa using hm
        exact ((unhide HN2).keep j (by show j < w1.heap.size; have := (hlr j hj').1; omega) (hlr j hj').2.1).1 hj
      have hm5 := (unhide HM4).kept hk5 (by simpa using hnS) hlo2
      have hm6 : SMid N w6 S B own2 (.slice ad5 (T + nE) c5) L (L ++ [⟨(cc : Int), no, ⟨k, a, b, t⟩, dcode, dtext⟩]) := by rw [hw6]; exact hm5.log _
      have nlR : ∀ j, w.heap.size ≤ j → j ∉ (Value.slice la T lc).ownBlock.toList := fun j hj hm => by have := (hlr j (by simpa using hm)).1; omega
      have blk6 : ∀ j o, w.heap.size ≤ j → w4.heap[j]? = some o → w6.heap[j]? = some o := fun j o hj hc => by
        have hlt : j < w4.heap.size := (Array.getElem?_eq_some_iff.1 hc).1
        rw [hkS.block j (Nat.lt_of_lt_of_le hlt hk5.size) (by simp; omega), hk5.block j hlt (nlR j hj)]
        exact hc
      have HR6 := hide (blk6 _ _ (Nat.le_refl _) (unhide HR4))
      have HA6 := hide (blk6 _ _ (by omega) (unhide HA4))
      have hgy4 := ((unhide HY4).lt gy rfl).2
      have hy6 : BRow w6 w3.heap.size (.slice (some ⟨gy, 0, none⟩) nE cy) E := ownsRow_same (unhide HY4) (fun j hj => by
        have : j = gy := by simpa [Value.ownBlock] using hj.symm
        subst this
        rw [hkS.block j (Nat.lt_of_lt_of_le hgy4 hk5.size) (by simp; omega), hk5.block j hgy4 (nlR j (by omega))])
      have hnS' : (Value.slice ad5 (T + nE) c5).ownBlock ≠ some S := fun e => by
        rcases unhide HAT5 with h1 | h1
        · exact hnS (h1.symm.trans e)
        · rw [h1] at e; simp at e; omega
      have hl6 : BRow w6 N (.slice ad5 (T + nE) c5) (logB L ++ E) := ownsRow_same (unhide HO5) (fun j hj => hkS.block j ((unhide HO5).lt j hj).2 (fun hm => hnS' (by rw [List.mem_singleton.1 hm] at hj; exact hj)))
      have hin : ∀ x, x = S ∨ (Value.slice la T lc).ownBlock = some x ∨ x ∈ own → x ∈ sown S own (.slice la T lc) := fun x hx => by
        unfold sown
        rcases hx with rfl | hx | hx
        · exact List.mem_cons_self
        · exact List.mem_cons_of_mem _ (List.mem_append_left _ (by simp [hx]))
        · exact List.mem_cons_of_mem _ (List.mem_append_right _ hx)
      have K2 : Kept (sown S own (.slice la T lc)) w w2 := (Kept.of_below (own := sown S own (.slice la T lc)) (unhide HB1w).drew).trans (unhide HN2).kept (fun x hx => .inl (hin x (.inr (.inr hx))))
      have K6 := (((K2.trans (unhide HK3) (fun x hx => .inr (by rw [List.mem_singleton.1 hx]; exact Nat.le_refl _))).trans (Kept.of_below (own := []) (unhide HB4)) (by simp)).trans hk5 (fun x hx => .inl (hin x (.inr (.inl (by simpa using hx)))))).trans hkS (fun x hx => .inl (hin x (.inl (List.mem_singleton.1 hx))))
      have hatN : ∀ j, (Value.slice ad5 (T + nE) c5).ownBlock = some j → (Value.slice la T lc).ownBlock = some j ∨ w4.heap.size = j := fun j hj => by
        rcases unhide HAT5 with h1 | h1
        · exact .inl (h1.symm.trans hj)
        · rw [h1] at hj; exact .inr (by simpa using hj)
      have HM6 := hide hm6
      have HY6 := hide hy6
      have HL6 := hide hl6
      have HK6 := hide K6
      have HATN := hide hatN
      have hcy : nE ≤ cy := by have h1 := row_cap (n := nE) (c := cy) (by have h2 := unhide HY4; unfold BRow at h2; rw [hEn] at h2; exact h2); exact h1
      have hz6 : w.heap.size + 2 ≤ w6.heap.size := by have h1 := hkS.size; have h2 := hk5.size; omega
      have HO2 : Hid (∀ j, j ∈ own2 → j ∈ own ∨ w.heap.size ≤ j) := fun j hj => by
        by_cases h1 : j < w.heap.size
        · left
          by_cases h2 : j ∈ own
          · exact h2
          · exact absurd hj ((unhide HN2).keep j (by show j < w1.heap.size; omega) h2).1
        · right; omega
      have HO2l : Hid (∀ j, j ∈ own2 → j < w2.heap.size) := fun j hj => (unhide HM2).files.rep.lt hj
      have hz24 : w2.heap.size ≤ w4.heap.size := Nat.le_trans (unhide HK3).size (unhide HB4).size
      obtain ⟨⟨r0, r1, r2, r3⟩, ⟨r4, r5, r6, r7⟩, _⟩ := eight (unhide HR6)
      clear hkS hk5 hm5 hm6 blk6 hy6 hl6 hin K2 K6 hatN hD0 hD1 hw6 hcS1 nlR hlo2
      have HDE6 : Hid (Calls Tryz.prog 115 #[.slice (some ⟨gy, 0, none⟩) nE cy] w6.drew fun e w7 => e = .returned (.tuple #[.agg #[.int .i64 (cc : Int), .int .i64 no, .int .i64 k, .string a, .string b, .string t, .int .i64 dcode, .string dtext], .int .i64 (nE : Int), .int .i64 0]) ∧ SMid N w7 S B own2 (.slice ad5 (T + nE) c5) L (L ++ [⟨(cc : Int), no, ⟨k, a, b, t⟩, dcode, dtext⟩]) ∧ w7.heap[w.heap.size]? = some (.cells #[.int .i64 (cc : Int), .int .i64 no, .int .i64 k, .string a, .string b, .string t, .int .i64 dcode, .string dtext] 61 (0, 0)) ∧ Below w6.heap.size w6 w7) := by
        refine ((unhide HDE) w6.drew gy cy (fun _ => ⟨gy, 0, rfl, fun j x hx => (unhide HY6).cells j x hx⟩) hcy).mono ?_
        rintro e w7 ⟨rfl, b7⟩
        have hb : Below w6.heap.size w6 w7 := (Below.refl w6.heap.size w6).drew.trans b7
        exact ⟨rfl, (unhide HM6).below hb, (hb.block w.heap.size (by omega)).trans (unhide HR6), hb⟩
      have HEX : Hid (∀ W, SMid N W S B own2 (.slice ad5 (T + nE) c5) L (L ++ [⟨(cc : Int), no, ⟨k, a, b, t⟩, dcode, dtext⟩]) → ∀ i, i < 26 → (∃ v, W.cell? ⟨S, i, none⟩ = some v) ∧ W.frozen? ⟨S, i, none⟩ = false) := fun W hW i hi => ⟨⟨_, (hW.at i).1.trans (List.getElem?_eq_getElem (by show i < 26; exact hi))⟩, (hW.at i).2⟩
      have hci : (cc : Int) < 3 := by omega
      go_wp2_with fail
      go_region_law (first | (go_simp; go_at_call 115; refine (unhide HDE6).mono ?_; rintro e w7 ⟨rfl, hm7, hr7, hb7⟩; have hex := (unhide HEX) w7 hm7; obtain ⟨⟨v0, f0⟩, g0⟩ := hex (2 + cc * 8) (by omega); obtain ⟨⟨v1, f1⟩, g1⟩ := hex (2 + cc * 8 + 1) (by omega); obtain ⟨⟨v2, f2⟩, g2⟩ := hex (2 + cc * 8 + 2) (by omega); obtain ⟨⟨v3, f3⟩, g3⟩ := hex (2 + cc * 8 + 3) (by omega); obtain ⟨⟨v4, f4⟩, g4⟩ := hex (2 + cc * 8 + 4) (by omega); obtain ⟨⟨v5, f5⟩, g5⟩ := hex (2 + cc * 8 + 5) (by omega); obtain ⟨⟨v6, f6⟩, g6⟩ := hex (2 + cc * 8 + 6) (by omega); obtain ⟨⟨v7, f7⟩, g7⟩ := hex (2 + cc * 8 + 7) (by omega);  have HM7 := hide hm7; have HR7 := hide hr7; have HB7 := hide hb7; obtain ⟨⟨u0, u1, u2, u3⟩, ⟨u4, u5, u6, u7⟩, _⟩ := eight hr7; clear hm7 hr7 hb7 hex) | fail)
      all_goals
        have hk8 := set8o_kept w7 S (2 + cc * 8) (.int .i64 (cc : Int)) (.int .i64 no) (.int .i64 k) (.string a) (.string b) (.string t) (.int .i64 dcode) (.string dtext)
        have hc8 := (unhide HM7).last (r := ⟨(cc : Int), no, ⟨k, a, b, t⟩, dcode, dtext⟩) (unhide HH).new hcc rfl
        unfold set8o at hk8 hc8
        dsimp only at hc8
        generalize hw8 : ((((((((w7.setCell ⟨S, 2 + cc * 8, none⟩ (.int .i64 (cc : Int))).setCell ⟨S, 2 + cc * 8 + 1, none⟩ (.int .i64 no)).setCell ⟨S, 2 + cc * 8 + 2, none⟩ (.int .i64 k)).setCell ⟨S, 2 + cc * 8 + 3, none⟩ (.string a)).setCell ⟨S, 2 + cc * 8 + 4, none⟩ (.string b)).setCell ⟨S, 2 + cc * 8 + 5, none⟩ (.string t)).setCell ⟨S, 2 + cc * 8 + 6, none⟩ (.int .i64 dcode)).setCell ⟨S, 2 + cc * 8 + 7, none⟩ (.string dtext)) = w8 at hk8 hc8 ⊢
        have hz7 := (unhide HB7).size
        have HR8 := hide ((hk8.block w.heap.size (by omega) (by simp; omega)).trans (unhide HR7))
        have HA8 := hide ((hk8.block (w.heap.size + 1) (by omega) (by simp; omega)).trans (((unhide HB7).block (w.heap.size + 1) (by omega)).trans (unhide HA6)))
        have hl7 := (unhide HL6).below (unhide HB7)
        have hl8 : BRow w8 N (.slice ad5 (T + nE) c5) (logB (L ++ [⟨(cc : Int), no, ⟨k, a, b, t⟩, dcode, dtext⟩])) := by
          rw [unhide HLG]
          exact ownsRow_same hl7 (fun j hj => hk8.block j (hl7.lt j hj).2 (fun hm => hnS' (by rw [List.mem_singleton.1 hm] at hj; exact hj)))
        have hlB : ∀ j, (Value.slice ad5 (T + nE) c5).ownBlock = some j → j ∉ own2 := fun j hj hm => by
          rcases (unhide HATN) j hj with h1 | h1
          · exact ((unhide HN2).keep j (by show j < w1.heap.size; have := (hlr j h1).1; omega) (hlr j h1).2.1).1 hm
          · have := (unhide HO2l) j hm; omega
        have hr8 : SRep N w8 S B own2 (.slice ad5 (T + nE) c5) (L ++ [⟨(cc : Int), no, ⟨k, a, b, t⟩, dcode, dtext⟩]) := ⟨hc8.new, hc8.blk, hc8.files, hl8, unhide HGD, hc8.sB, hnS', hlB⟩
        have K8 := ((unhide HK6).trans (Kept.of_below (own := []) (unhide HB7)) (by simp)).trans hk8 (fun x hx => .inl (by rw [List.mem_singleton.1 hx]; exact List.mem_cons_self))
        have HS8 := hide hr8
        have HK8 := hide K8
        have hz8 := hk8.size
        clear hk8 hc8 hl7 hl8 hlB hr8 K8 hw8 u0 u1 u2 u3 u4 u5 u6 u7 f0 f1 f2 f3 f4 f5 f6 f7 g0 g1 g2 g3 g4 g5 g6 g7
        obtain ⟨⟨u0, u1, u2, u3⟩, ⟨u4, u5, u6, u7⟩, _⟩ := eight (unhide HR8)
        obtain ⟨⟨y0, y1⟩, fy⟩ := two (unhide HA8)
        have hzR : w.heap.size < w8.heap.size := by omega
        go_wp2
        have hb2 := set2_blk (unhide HA8) (.int .i64 dcode) (.string dtext)
        have hk2 := set2_kept w8 (w.heap.size + 1) (.int .i64 dcode) (.string dtext)
        unfold set2 at hb2 hk2
        generalize hw8 : ((w8.setCell ⟨w.heap.size + 1, 0, none⟩ (.int .i64 dcode)).setCell ⟨w.heap.size + 1, 1, none⟩ (.string dtext)) = w99 at hb2 hk2 ⊢
        obtain ⟨⟨p0, p1⟩, _⟩ := two hb2
        refine bodyPost_ret (v := .tuple #[.agg #[.int .i64 dcode, .string dtext], .int .i64 0]) (by simp [results, Tryz.results128, go_sem, p0, p1]) rfl ?_
        rw [HRF.out]
        have hsn : ∀ x, x ∈ sown S own2 (.slice ad5 (T + nE) c5) → x ∈ sown S own (.slice la T lc) ∨ w.heap.size ≤ x := fun x hx => by
          rcases List.mem_cons.1 hx with rfl | hx
          · exact .inl List.mem_cons_self
          rcases List.mem_append.1 hx with hx | hx
          · rcases (unhide HATN) x (by simpa using hx) with h1 | h1
            · exact .inl (List.mem_cons_of_mem _ (List.mem_append_left _ (by simp [h1])))
            · exact .inr (by omega)
          · rcases (unhide HO2) x hx with h1 | h1
            · exact .inl (List.mem_cons_of_mem _ (List.mem_append_right _ h1))
            · exact .inr h1
        have hA2 : ∀ x, x ∈ sown S own2 (.slice ad5 (T + nE) c5) → x ∉ [w.heap.size + 1] := fun x hx hm => by
          have hx1 := List.mem_singleton.1 hm
          rcases List.mem_cons.1 hx with h1 | hx
          · omega
          rcases List.mem_append.1 hx with hx | hx
          · rcases (unhide HATN) x (by simpa using hx) with h1 | h1
            · have := (hlr x h1).1; omega
            · omega
          · exact (unhide HAN) (by rw [← hx1]; exact hx)
        exact ⟨rfl, STurned.mk' (unhide HH) ((unhide HS8).kept hk2 hA2) ((unhide HK8).trans hk2 (fun x hx => .inr (by rw [List.mem_singleton.1 hx]; omega))) hN hsn⟩

end Go.Proofs.YtmbhbnoifimeaabGreat

namespace Go.Proofs.YtmbhbnoifimeaabGreat
open Go.RowKit
set_option linter.unusedSimpArgs false
set_option linter.unusedVariables false

theorem eql32 (c c' : ACall) (w : World) : (binOp .eql 32 (.agg (callCells c)) (.agg (callCells c'))).run Tryz.prog w = .ok (.bool (callB c c')) w := by
  have h := equal32 9998 c c' w
  rw [run_eql_struct, h]
  rfl

end Go.Proofs.YtmbhbnoifimeaabGreat

namespace Go.Proofs.YtmbhbnoifimeaabGreat
open Go.RowKit
set_option linter.unusedSimpArgs false
set_option linter.unusedVariables false

theorem recI_range {client no k : Int} {a b t : ByteArray} : recI ⟨client, no, ⟨k, a, b, t⟩, 0, ⟨#[]⟩⟩ = 9 ↔ (client < 0 ∨ 2 < client ∨ no < 1 ∨ 200 < no) := by
  have h4 := checkI_range ⟨k, a, b, t⟩
  unfold recI
  dsimp only
  constructor
  · intro h
    by_cases h1 : client < 0 ∨ 2 < client ∨ no < 1 ∨ 200 < no
    · exact h1
    · rw [if_neg h1] at h
      split at h
      · omega
      split at h
      · omega
      split at h
      · omega
      split at h
      · omega
      · omega
  · intro h
    rw [if_pos h]

set_option maxRecDepth 100000 in
set_option maxHeartbeats 8000000 in
theorem SCall_range {N : Nat} {w : World} {S B : Nat} {own : List Nat} {lv : Value} {L : List ARec} (h : SRep N w S B own lv L) (client no k : Int) (a b t : ByteArray) (hs : (logB L).length ≤ 100000) (hN : N ≤ w.heap.size) (ha : a.size ≤ maxLen) (hb : b.size ≤ maxLen) (ht : t.size ≤ maxLen) (hr : client < 0 ∨ 2 < client ∨ no < 1 ∨ 200 < no) :
    Calls Tryz.prog 114 #[.pointer (some ⟨S, 0, none⟩), .int .i64 client, .int .i64 no, .agg #[.int .i64 k, .string a, .string b, .string t]] w (AddRes N w S own lv (aCall L client no ⟨k, a, b, t⟩)) := by
  rw [aCall, if_pos hr]

  have HCC := hide (fun W => cCheck_any client no k a b t 0 ⟨#[]⟩ W ha hb ht)
  have HFC := hide (fun W => Check_any k a b t W ha hb ht)
  have HCH := hide (fun W => Changes_any k W)
  have HH := hide h
  have hSl := h.lt
  have hVK : ∀ W, Below (w.heap.size + 3) (((w.alloc (.cells #[.int .i64 k, .string a, .string b, .string t] 32)).alloc (.cells #[.int .i64 0, .string ⟨#[]⟩] 59)).alloc (.cells #[.int .i64 client, .int .i64 no, .int .i64 k, .string a, .string b, .string t, .int .i64 0, .string ⟨#[]⟩] 61)) W → W.heap[w.heap.size]? = some (.cells #[.int .i64 k, .string a, .string b, .string t] 32 (0, 0)) ∧ W.heap[w.heap.size + 1]? = some (.cells #[.int .i64 0, .string ⟨#[]⟩] 59 (0, 0)) ∧ W.heap[w.heap.size + 2]? = some (.cells #[.int .i64 client, .int .i64 no, .int .i64 k, .string a, .string b, .string t, .int .i64 0, .string ⟨#[]⟩] 61 (0, 0)) ∧ Below w.heap.size w W ∧ w.heap.size + 3 ≤ W.heap.size := fun W hW => by
    have c0 : (((w.alloc (.cells #[.int .i64 k, .string a, .string b, .string t] 32)).alloc (.cells #[.int .i64 0, .string ⟨#[]⟩] 59)).alloc (.cells #[.int .i64 client, .int .i64 no, .int .i64 k, .string a, .string b, .string t, .int .i64 0, .string ⟨#[]⟩] 61)).heap[w.heap.size]? = some (.cells #[.int .i64 k, .string a, .string b, .string t] 32 (0, 0)) := (Below.heap_alloc _ _ _ (by simp; omega)).trans ((Below.heap_alloc _ _ _ (by simp)).trans (heap_alloc_new w _))
    have c1 : (((w.alloc (.cells #[.int .i64 k, .string a, .string b, .string t] 32)).alloc (.cells #[.int .i64 0, .string ⟨#[]⟩] 59)).alloc (.cells #[.int .i64 client, .int .i64 no, .int .i64 k, .string a, .string b, .string t, .int .i64 0, .string ⟨#[]⟩] 61)).heap[w.heap.size + 1]? = some (.cells #[.int .i64 0, .string ⟨#[]⟩] 59 (0, 0)) := by
      have h := heap_alloc_new (w.alloc (.cells #[.int .i64 k, .string a, .string b, .string t] 32)) (.cells #[.int .i64 0, .string ⟨#[]⟩] 59)
      rw [show (w.alloc (.cells #[.int .i64 k, .string a, .string b, .string t] 32)).heap.size = w.heap.size + 1 by simp] at h
      exact (Below.heap_alloc _ _ _ (by simp)).trans h
    have c2 : (((w.alloc (.cells #[.int .i64 k, .string a, .string b, .string t] 32)).alloc (.cells #[.int .i64 0, .string ⟨#[]⟩] 59)).alloc (.cells #[.int .i64 client, .int .i64 no, .int .i64 k, .string a, .string b, .string t, .int .i64 0, .string ⟨#[]⟩] 61)).heap[w.heap.size + 2]? = some (.cells #[.int .i64 client, .int .i64 no, .int .i64 k, .string a, .string b, .string t, .int .i64 0, .string ⟨#[]⟩] 61 (0, 0)) := by
      have h := heap_alloc_new ((w.alloc (.cells #[.int .i64 k, .string a, .string b, .string t] 32)).alloc (.cells #[.int .i64 0, .string ⟨#[]⟩] 59)) (.cells #[.int .i64 client, .int .i64 no, .int .i64 k, .string a, .string b, .string t, .int .i64 0, .string ⟨#[]⟩] 61)
      rw [show ((w.alloc (.cells #[.int .i64 k, .string a, .string b, .string t] 32)).alloc (.cells #[.int .i64 0, .string ⟨#[]⟩] 59)).heap.size = w.heap.size + 2 by simp] at h
      exact h
    have c4 : Below w.heap.size w (((w.alloc (.cells #[.int .i64 k, .string a, .string b, .string t] 32)).alloc (.cells #[.int .i64 0, .string ⟨#[]⟩] 59)).alloc (.cells #[.int .i64 client, .int .i64 no, .int .i64 k, .string a, .string b, .string t, .int .i64 0, .string ⟨#[]⟩] 61)) := (((Below.refl w.heap.size w).alloc (Nat.le_refl _) _).alloc (by simp) _).alloc (by simp; omega) _
    refine ⟨(hW.block _ (by omega)).trans c0, (hW.block _ (by omega)).trans c1, (hW.block _ (by omega)).trans c2, c4.trans (hW.mono (by omega)), ?_⟩
    have := hW.size; simp at this; omega
  have HVK := hide hVK
  clear hVK
  rw [recI_range.2 hr] at HCC
  clear h hr

  go_enter Tryz.func114, Tryz.ntmps114
  go_wp2_with fail
  refine ((unhide HCC) _).mono ?_
  rintro e w1 ⟨rfl, b1⟩
  have HB1 : Hid (Below (w.heap.size + 3) (((w.alloc (.cells #[.int .i64 k, .string a, .string b, .string t] 32)).alloc (.cells #[.int .i64 0, .string ⟨#[]⟩] 59)).alloc (.cells #[.int .i64 client, .int .i64 no, .int .i64 k, .string a, .string b, .string t, .int .i64 0, .string ⟨#[]⟩] 61)) w1) := b1.mono (by simp)
  obtain ⟨k0, k1, k2, k3, k4⟩ := (unhide HVK) w1 (unhide HB1)
  obtain ⟨⟨x0, x1, x2, x3⟩, _⟩ := four k0
  obtain ⟨⟨z0, z1⟩, fz⟩ := two k1
  obtain ⟨⟨r0, r1, r2, r3⟩, ⟨r4, r5, r6, r7⟩, _⟩ := eight k2
  have HA1 := hide k1
  have HW1 := hide k3
  clear k0 k1 k2 k3
  clear b1

  go_wp2
  have hb2 := set2_blk (unhide HA1) (.int .i64 0) (.string ⟨#[]⟩)
  have hk2 := set2_kept w1 (w.heap.size + 1) (.int .i64 0) (.string ⟨#[]⟩)
  unfold set2 at hb2 hk2

  generalize hw8 : ((w1.setCell ⟨w.heap.size + 1, 0, none⟩ (.int .i64 0)).setCell ⟨w.heap.size + 1, 1, none⟩ (.string ⟨#[]⟩)) = w99 at hb2 hk2 ⊢
  obtain ⟨⟨p0, p1⟩, _⟩ := two hb2
  refine bodyPost_ret (v := .tuple #[.agg #[.int .i64 0, .string ⟨#[]⟩], .int .i64 9]) (by simp [results, Tryz.results114, go_sem, p0, p1]) rfl ?_
  exact ⟨rfl, STurned.of_below (unhide HH) ((unhide HW1).trans (hk2.below (unhide HW1).size (by simp))) hN⟩

set_option maxRecDepth 100000 in
set_option maxHeartbeats 8000000 in
theorem SCall_code {N : Nat} {w : World} {S B : Nat} {own : List Nat} {lv : Value} {L : List ARec} (h : SRep N w S B own lv L) (client no k : Int) (a b t : ByteArray) (hs : (logB L).length ≤ 100000) (hN : N ≤ w.heap.size) (ha : a.size ≤ maxLen) (hb : b.size ≤ maxLen) (ht : t.size ≤ maxLen) (hr : ¬ (client < 0 ∨ 2 < client ∨ no < 1 ∨ 200 < no)) (hc : checkI ⟨k, a, b, t⟩ ≠ 0) :
    Calls Tryz.prog 114 #[.pointer (some ⟨S, 0, none⟩), .int .i64 client, .int .i64 no, .agg #[.int .i64 k, .string a, .string b, .string t]] w (AddRes N w S own lv (aCall L client no ⟨k, a, b, t⟩)) := by
  rw [aCall, if_neg hr, if_pos hc]

  have HCC := hide (fun W => cCheck_any client no k a b t 0 ⟨#[]⟩ W ha hb ht)
  have HFC := hide (fun W => Check_any k a b t W ha hb ht)
  have HCH := hide (fun W => Changes_any k W)
  have HH := hide h
  have hSl := h.lt
  have hVK : ∀ W, Below (w.heap.size + 3) (((w.alloc (.cells #[.int .i64 k, .string a, .string b, .string t] 32)).alloc (.cells #[.int .i64 0, .string ⟨#[]⟩] 59)).alloc (.cells #[.int .i64 client, .int .i64 no, .int .i64 k, .string a, .string b, .string t, .int .i64 0, .string ⟨#[]⟩] 61)) W → W.heap[w.heap.size]? = some (.cells #[.int .i64 k, .string a, .string b, .string t] 32 (0, 0)) ∧ W.heap[w.heap.size + 1]? = some (.cells #[.int .i64 0, .string ⟨#[]⟩] 59 (0, 0)) ∧ W.heap[w.heap.size + 2]? = some (.cells #[.int .i64 client, .int .i64 no, .int .i64 k, .string a, .string b, .string t, .int .i64 0, .string ⟨#[]⟩] 61 (0, 0)) ∧ Below w.heap.size w W ∧ w.heap.size + 3 ≤ W.heap.size := fun W hW => by
    have c0 : (((w.alloc (.cells #[.int .i64 k, .string a, .string b, .string t] 32)).alloc (.cells #[.int .i64 0, .string ⟨#[]⟩] 59)).alloc (.cells #[.int .i64 client, .int .i64 no, .int .i64 k, .string a, .string b, .string t, .int .i64 0, .string ⟨#[]⟩] 61)).heap[w.heap.size]? = some (.cells #[.int .i64 k, .string a, .string b, .string t] 32 (0, 0)) := (Below.heap_alloc _ _ _ (by simp; omega)).trans ((Below.heap_alloc _ _ _ (by simp)).trans (heap_alloc_new w _))
    have c1 : (((w.alloc (.cells #[.int .i64 k, .string a, .string b, .string t] 32)).alloc (.cells #[.int .i64 0, .string ⟨#[]⟩] 59)).alloc (.cells #[.int .i64 client, .int .i64 no, .int .i64 k, .string a, .string b, .string t, .int .i64 0, .string ⟨#[]⟩] 61)).heap[w.heap.size + 1]? = some (.cells #[.int .i64 0, .string ⟨#[]⟩] 59 (0, 0)) := by
      have h := heap_alloc_new (w.alloc (.cells #[.int .i64 k, .string a, .string b, .string t] 32)) (.cells #[.int .i64 0, .string ⟨#[]⟩] 59)
      rw [show (w.alloc (.cells #[.int .i64 k, .string a, .string b, .string t] 32)).heap.size = w.heap.size + 1 by simp] at h
      exact (Below.heap_alloc _ _ _ (by simp)).trans h
    have c2 : (((w.alloc (.cells #[.int .i64 k, .string a, .string b, .string t] 32)).alloc (.cells #[.int .i64 0, .string ⟨#[]⟩] 59)).alloc (.cells #[.int .i64 client, .int .i64 no, .int .i64 k, .string a, .string b, .string t, .int .i64 0, .string ⟨#[]⟩] 61)).heap[w.heap.size + 2]? = some (.cells #[.int .i64 client, .int .i64 no, .int .i64 k, .string a, .string b, .string t, .int .i64 0, .string ⟨#[]⟩] 61 (0, 0)) := by
      have h := heap_alloc_new ((w.alloc (.cells #[.int .i64 k, .string a, .string b, .string t] 32)).alloc (.cells #[.int .i64 0, .string ⟨#[]⟩] 59)) (.cells #[.int .i64 client, .int .i64 no, .int .i64 k, .string a, .string b, .string t, .int .i64 0, .string ⟨#[]⟩] 61)
      rw [show ((w.alloc (.cells #[.int .i64 k, .string a, .string b, .string t] 32)).alloc (.cells #[.int .i64 0, .string ⟨#[]⟩] 59)).heap.size = w.heap.size + 2 by simp] at h
      exact h
    have c4 : Below w.heap.size w (((w.alloc (.cells #[.int .i64 k, .string a, .string b, .string t] 32)).alloc (.cells #[.int .i64 0, .string ⟨#[]⟩] 59)).alloc (.cells #[.int .i64 client, .int .i64 no, .int .i64 k, .string a, .string b, .string t, .int .i64 0, .string ⟨#[]⟩] 61)) := (((Below.refl w.heap.size w).alloc (Nat.le_refl _) _).alloc (by simp) _).alloc (by simp; omega) _
    refine ⟨(hW.block _ (by omega)).trans c0, (hW.block _ (by omega)).trans c1, (hW.block _ (by omega)).trans c2, c4.trans (hW.mono (by omega)), ?_⟩
    have := hW.size; simp at this; omega
  have HVK := hide hVK
  clear hVK
  have h9 : recI ⟨client, no, ⟨k, a, b, t⟩, 0, ⟨#[]⟩⟩ ≠ 9 := fun h => hr (recI_range.1 h)
  generalize recI ⟨client, no, ⟨k, a, b, t⟩, 0, ⟨#[]⟩⟩ = rr at HCC h9
  have h9b : (rr == 9) = false := by simpa using h9
  generalize checkI ⟨k, a, b, t⟩ = code at hc HFC ⊢
  clear h hr h9

  go_enter Tryz.func114, Tryz.ntmps114
  go_wp2_with fail
  refine ((unhide HCC) _).mono ?_
  rintro e w1 ⟨rfl, b1⟩
  have HB1 : Hid (Below (w.heap.size + 3) (((w.alloc (.cells #[.int .i64 k, .string a, .string b, .string t] 32)).alloc (.cells #[.int .i64 0, .string ⟨#[]⟩] 59)).alloc (.cells #[.int .i64 client, .int .i64 no, .int .i64 k, .string a, .string b, .string t, .int .i64 0, .string ⟨#[]⟩] 61)) w1) := b1.mono (by simp)
  obtain ⟨k0, k1, k2, k3, k4⟩ := (unhide HVK) w1 (unhide HB1)
  obtain ⟨⟨x0, x1, x2, x3⟩, _⟩ := four k0
  obtain ⟨⟨z0, z1⟩, fz⟩ := two k1
  obtain ⟨⟨r0, r1, r2, r3⟩, ⟨r4, r5, r6, r7⟩, _⟩ := eight k2
  have HA1 := hide k1
  have HW1 := hide k3
  clear k0 k1 k2 k3
  clear b1

  go_wp2_with fail
  refine ((unhide HFC) _).mono ?_
  rintro e w2 ⟨rfl, b2⟩
  clear x0 x1 x2 x3 z0 z1 fz r0 r1 r2 r3 r4 r5 r6 r7 k4

  have HB2 : Hid (Below (w.heap.size + 3) (((w.alloc (.cells #[.int .i64 k, .string a, .string b, .string t] 32)).alloc (.cells #[.int .i64 0, .string ⟨#[]⟩] 59)).alloc (.cells #[.int .i64 client, .int .i64 no, .int .i64 k, .string a, .string b, .string t, .int .i64 0, .string ⟨#[]⟩] 61)) w2) := (unhide HB1).trans (b2.mono (by have := ((unhide HVK) w1 (unhide HB1)).2.2.2.2; omega))
  obtain ⟨k0, k1, k2, k3, k4⟩ := (unhide HVK) w2 (unhide HB2)
  obtain ⟨⟨x0, x1, x2, x3⟩, _⟩ := four k0
  obtain ⟨⟨z0, z1⟩, fz⟩ := two k1
  obtain ⟨⟨r0, r1, r2, r3⟩, ⟨r4, r5, r6, r7⟩, _⟩ := eight k2
  have HA2 := hide k1
  have HW2 := hide k3
  clear k0 k1 k2 k3
  clear b2

  go_wp2
  have hb2 := set2_blk (unhide HA2) (.int .i64 0) (.string ⟨#[]⟩)
  have hk2 := set2_kept w2 (w.heap.size + 1) (.int .i64 0) (.string ⟨#[]⟩)
  unfold set2 at hb2 hk2

  generalize hw8 : ((w2.setCell ⟨w.heap.size + 1, 0, none⟩ (.int .i64 0)).setCell ⟨w.heap.size + 1, 1, none⟩ (.string ⟨#[]⟩)) = w99 at hb2 hk2 ⊢
  obtain ⟨⟨p0, p1⟩, _⟩ := two hb2
  refine bodyPost_ret (v := .tuple #[.agg #[.int .i64 0, .string ⟨#[]⟩], .int .i64 code]) (by simp [results, Tryz.results114, go_sem, p0, p1]) rfl ?_
  exact ⟨rfl, STurned.of_below (unhide HH) ((unhide HW2).trans (hk2.below (unhide HW2).size (by simp))) hN⟩

set_option maxRecDepth 100000 in
set_option maxHeartbeats 8000000 in
theorem SCall_ask {N : Nat} {w : World} {S B : Nat} {own : List Nat} {lv : Value} {L : List ARec} (h : SRep N w S B own lv L) (client no k : Int) (a b t : ByteArray) (hs : (logB L).length ≤ 100000) (hN : N ≤ w.heap.size) (ha : a.size ≤ maxLen) (hb : b.size ≤ maxLen) (ht : t.size ≤ maxLen) (hr : ¬ (client < 0 ∨ 2 < client ∨ no < 1 ∨ 200 < no)) (hc : checkI ⟨k, a, b, t⟩ = 0) (hch : changesB k = false) :
    Calls Tryz.prog 114 #[.pointer (some ⟨S, 0, none⟩), .int .i64 client, .int .i64 no, .agg #[.int .i64 k, .string a, .string b, .string t]] w (AddRes N w S own lv (aCall L client no ⟨k, a, b, t⟩)) := by
  rw [aCall, if_neg hr, if_neg (by simp [hc]), if_pos hch]
  have HDo : Hid (∀ W, Below w.heap.size w W → Calls Tryz.prog 102 #[.pointer (some ⟨B, 0, none⟩), .agg #[.int .i64 k, .string a, .string b, .string t]] W fun e w' => e = .returned (.agg #[.int .i64 (aDo (behind L) ⟨k, a, b, t⟩).code, .string (aDo (behind L) ⟨k, a, b, t⟩).text]) ∧ ∃ own', OObj N w' B own' (aDo (behind L) ⟨k, a, b, t⟩).st ∧ Next N W w' own own') := fun W hW => Do_obj ⟨k, a, b, t⟩ (h.below hW).files ha hb ht
  rw [aDo_ask (c := ⟨k, a, b, t⟩) (behind L) hch] at HDo

  have HCC := hide (fun W => cCheck_any client no k a b t 0 ⟨#[]⟩ W ha hb ht)
  have HFC := hide (fun W => Check_any k a b t W ha hb ht)
  have HCH := hide (fun W => Changes_any k W)
  have HH := hide h
  have hSl := h.lt
  have hVK : ∀ W, Below (w.heap.size + 3) (((w.alloc (.cells #[.int .i64 k, .string a, .string b, .string t] 32)).alloc (.cells #[.int .i64 0, .string ⟨#[]⟩] 59)).alloc (.cells #[.int .i64 client, .int .i64 no, .int .i64 k, .string a, .string b, .string t, .int .i64 0, .string ⟨#[]⟩] 61)) W → W.heap[w.heap.size]? = some (.cells #[.int .i64 k, .string a, .string b, .string t] 32 (0, 0)) ∧ W.heap[w.heap.size + 1]? = some (.cells #[.int .i64 0, .string ⟨#[]⟩] 59 (0, 0)) ∧ W.heap[w.heap.size + 2]? = some (.cells #[.int .i64 client, .int .i64 no, .int .i64 k, .string a, .string b, .string t, .int .i64 0, .string ⟨#[]⟩] 61 (0, 0)) ∧ Below w.heap.size w W ∧ w.heap.size + 3 ≤ W.heap.size := fun W hW => by
    have c0 : (((w.alloc (.cells #[.int .i64 k, .string a, .string b, .string t] 32)).alloc (.cells #[.int .i64 0, .string ⟨#[]⟩] 59)).alloc (.cells #[.int .i64 client, .int .i64 no, .int .i64 k, .string a, .string b, .string t, .int .i64 0, .string ⟨#[]⟩] 61)).heap[w.heap.size]? = some (.cells #[.int .i64 k, .string a, .string b, .string t] 32 (0, 0)) := (Below.heap_alloc _ _ _ (by simp; omega)).trans ((Below.heap_alloc _ _ _ (by simp)).trans (heap_alloc_new w _))
    have c1 : (((w.alloc (.cells #[.int .i64 k, .string a, .string b, .string t] 32)).alloc (.cells #[.int .i64 0, .string ⟨#[]⟩] 59)).alloc (.cells #[.int .i64 client, .int .i64 no, .int .i64 k, .string a, .string b, .string t, .int .i64 0, .string ⟨#[]⟩] 61)).heap[w.heap.size + 1]? = some (.cells #[.int .i64 0, .string ⟨#[]⟩] 59 (0, 0)) := by
      have h := heap_alloc_new (w.alloc (.cells #[.int .i64 k, .string a, .string b, .string t] 32)) (.cells #[.int .i64 0, .string ⟨#[]⟩] 59)
      rw [show (w.alloc (.cells #[.int .i64 k, .string a, .string b, .string t] 32)).heap.size = w.heap.size + 1 by simp] at h
      exact (Below.heap_alloc _ _ _ (by simp)).trans h
    have c2 : (((w.alloc (.cells #[.int .i64 k, .string a, .string b, .string t] 32)).alloc (.cells #[.int .i64 0, .string ⟨#[]⟩] 59)).alloc (.cells #[.int .i64 client, .int .i64 no, .int .i64 k, .string a, .string b, .string t, .int .i64 0, .string ⟨#[]⟩] 61)).heap[w.heap.size + 2]? = some (.cells #[.int .i64 client, .int .i64 no, .int .i64 k, .string a, .string b, .string t, .int .i64 0, .string ⟨#[]⟩] 61 (0, 0)) := by
      have h := heap_alloc_new ((w.alloc (.cells #[.int .i64 k, .string a, .string b, .string t] 32)).alloc (.cells #[.int .i64 0, .string ⟨#[]⟩] 59)) (.cells #[.int .i64 client, .int .i64 no, .int .i64 k, .string a, .string b, .string t, .int .i64 0, .string ⟨#[]⟩] 61)
      rw [show ((w.alloc (.cells #[.int .i64 k, .string a, .string b, .string t] 32)).alloc (.cells #[.int .i64 0, .string ⟨#[]⟩] 59)).heap.size = w.heap.size + 2 by simp] at h
      exact h
    have c4 : Below w.heap.size w (((w.alloc (.cells #[.int .i64 k, .string a, .string b, .string t] 32)).alloc (.cells #[.int .i64 0, .string ⟨#[]⟩] 59)).alloc (.cells #[.int .i64 client, .int .i64 no, .int .i64 k, .string a, .string b, .string t, .int .i64 0, .string ⟨#[]⟩] 61)) := (((Below.refl w.heap.size w).alloc (Nat.le_refl _) _).alloc (by simp) _).alloc (by simp; omega) _
    refine ⟨(hW.block _ (by omega)).trans c0, (hW.block _ (by omega)).trans c1, (hW.block _ (by omega)).trans c2, c4.trans (hW.mono (by omega)), ?_⟩
    have := hW.size; simp at this; omega
  have HVK := hide hVK
  clear hVK
  have h9 : recI ⟨client, no, ⟨k, a, b, t⟩, 0, ⟨#[]⟩⟩ ≠ 9 := fun h => hr (recI_range.1 h)
  generalize recI ⟨client, no, ⟨k, a, b, t⟩, 0, ⟨#[]⟩⟩ = rr at HCC h9
  have h9b : (rr == 9) = false := by simpa using h9
  rw [hc] at HFC
  rw [hch] at HCH
  generalize aDo (behind L) ⟨k, a, b, t⟩ = ad at HDo ⊢
  obtain ⟨dcode, dtext, dst⟩ := ad
  dsimp only at HDo ⊢
  clear h hr h9 hc hch

  go_enter Tryz.func114, Tryz.ntmps114
  go_wp2_with fail
  refine ((unhide HCC) _).mono ?_
  rintro e w1 ⟨rfl, b1⟩
  have HB1 : Hid (Below (w.heap.size + 3) (((w.alloc (.cells #[.int .i64 k, .string a, .string b, .string t] 32)).alloc (.cells #[.int .i64 0, .string ⟨#[]⟩] 59)).alloc (.cells #[.int .i64 client, .int .i64 no, .int .i64 k, .string a, .string b, .string t, .int .i64 0, .string ⟨#[]⟩] 61)) w1) := b1.mono (by simp)
  obtain ⟨k0, k1, k2, k3, k4⟩ := (unhide HVK) w1 (unhide HB1)
  obtain ⟨⟨x0, x1, x2, x3⟩, _⟩ := four k0
  obtain ⟨⟨z0, z1⟩, fz⟩ := two k1
  obtain ⟨⟨r0, r1, r2, r3⟩, ⟨r4, r5, r6, r7⟩, _⟩ := eight k2
  have HA1 := hide k1
  have HW1 := hide k3
  clear k0 k1 k2 k3
  clear b1

  go_wp2_with fail
  refine ((unhide HFC) _).mono ?_
  rintro e w2 ⟨rfl, b2⟩
  clear x0 x1 x2 x3 z0 z1 fz r0 r1 r2 r3 r4 r5 r6 r7 k4

  have HB2 : Hid (Below (w.heap.size + 3) (((w.alloc (.cells #[.int .i64 k, .string a, .string b, .string t] 32)).alloc (.cells #[.int .i64 0, .string ⟨#[]⟩] 59)).alloc (.cells #[.int .i64 client, .int .i64 no, .int .i64 k, .string a, .string b, .string t, .int .i64 0, .string ⟨#[]⟩] 61)) w2) := (unhide HB1).trans (b2.mono (by have := ((unhide HVK) w1 (unhide HB1)).2.2.2.2; omega))
  obtain ⟨k0, k1, k2, k3, k4⟩ := (unhide HVK) w2 (unhide HB2)
  obtain ⟨⟨x0, x1, x2, x3⟩, _⟩ := four k0
  obtain ⟨⟨z0, z1⟩, fz⟩ := two k1
  obtain ⟨⟨r0, r1, r2, r3⟩, ⟨r4, r5, r6, r7⟩, _⟩ := eight k2
  have HA2 := hide k1
  have HW2 := hide k3
  clear k0 k1 k2 k3
  clear b2

  go_wp2_with fail
  refine ((unhide HCH) _).mono ?_
  rintro e w3 ⟨rfl, rfl⟩

  have hpt := ((unhide HH).below (unhide HW2)).ptr
  have HDo2 : Hid (Calls Tryz.prog 102 #[.pointer (some ⟨B, 0, none⟩), .agg #[.int .i64 k, .string a, .string b, .string t]] w3.drew fun e w' => e = .returned (.agg #[.int .i64 dcode, .string dtext]) ∧ STurned N w S own lv w' L ∧ Kept own w3 w' ∧ w'.heap[w.heap.size + 1]? = some (.cells #[.int .i64 0, .string ⟨#[]⟩] 59 (0, 0)) ∧ w.heap.size + 1 ∉ own ∧ (∃ own', SRep N w' S B own' lv L ∧ (∀ j, j ∈ own' → j ∈ own ∨ w3.heap.size ≤ j)) ∧ w3.heap.size ≤ w'.heap.size) := by
    refine ((unhide HDo) _ (unhide HW2).drew).mono ?_
    rintro e w4 ⟨rfl, own', ho, hn⟩
    have hsb := (unhide HH).below (unhide HW2)
    have hno : ∀ j, j < w3.heap.size → j ∉ own → j ∉ own' ∧ w4.heap[j]? = w3.heap[j]? := fun j hj hnj => hn.keep j hj hnj
    have hown : ∀ j, j ∈ own' → j ∈ own ∨ w3.heap.size ≤ j := fun j hj => by
      by_cases h1 : j < w3.heap.size
      · left
        by_cases h2 : j ∈ own
        · exact h2
        · exact absurd hj (hno j h1 h2).1
      · right; omega
    obtain ⟨C, hC, hl⟩ := hsb.blk
    have hSo := hno S hsb.lt hsb.sB
    have hr : SRep N w4 S B own' lv L := ⟨hsb.new, ⟨C, hSo.2.trans hC, hl⟩, ho, ownsRow_same hsb.log (fun j hj => (hno j (hsb.log.lt j hj).2 (hsb.lB j hj)).2), hsb.good, hSo.1, hsb.sL, fun j hj => (hno j (hsb.log.lt j hj).2 (hsb.lB j hj)).1⟩
    have hA1 : w.heap.size + 1 ∉ own := fun hm => by have := (unhide HH).files.rep.lt hm; omega
    have hkp : Kept own w3 w4 := ⟨hn.below.os, hn.below.tape, hn.below.output, hn.below.size, fun j hj h1 => (hno j hj h1).2⟩
    refine ⟨rfl, STurned.mk' (unhide HH) hr ((Kept.of_below (own := sown S own lv) (unhide HW2)).trans hkp (fun x hx => .inl (List.mem_cons_of_mem _ (List.mem_append_right _ hx)))) hN (fun x hx => ?_), hkp, (hno (w.heap.size + 1) (by omega) hA1).2.trans (unhide HA2), hA1, ⟨own', hr, hown⟩, hkp.size⟩
    rcases List.mem_cons.1 hx with rfl | hx
    · exact .inl List.mem_cons_self
    rcases List.mem_append.1 hx with hx | hx
    · exact .inl (List.mem_cons_of_mem _ (List.mem_append_left _ hx))
    · rcases hown x hx with h1 | h1
      · exact .inl (List.mem_cons_of_mem _ (List.mem_append_right _ h1))
      · exact .inr (by omega)
  go_wp2_with fail
  go_region_law (first | (go_simp; go_at_call 102; refine (unhide HDo2).mono ?_; rintro e w4 ⟨rfl, h41, h42, h43, h44, h45, h46⟩; have HT4 := hide h41; have HA4 := hide h43; have HS4 := hide h45; have HZ4 := hide h46; obtain ⟨⟨y0, y1⟩, fy⟩ := two h43; clear h41 h42 h43 h44 h45 h46) | fail)
  all_goals
    go_wp2
    have hb2 := set2_blk (unhide HA4) (.int .i64 dcode) (.string dtext)
    have hk2 := set2_kept w4 (w.heap.size + 1) (.int .i64 dcode) (.string dtext)
    unfold set2 at hb2 hk2

    generalize hw8 : ((w4.setCell ⟨w.heap.size + 1, 0, none⟩ (.int .i64 dcode)).setCell ⟨w.heap.size + 1, 1, none⟩ (.string dtext)) = w99 at hb2 hk2 ⊢
    obtain ⟨⟨p0, p1⟩, _⟩ := two hb2
    refine bodyPost_ret (v := .tuple #[.agg #[.int .i64 dcode, .string dtext], .int .i64 0]) (by simp [results, Tryz.results114, go_sem, p0, p1]) rfl ?_
    obtain ⟨own', hr, hown⟩ := unhide HS4
    have hn1 : ∀ j, j ∈ sown S own' lv → j ∈ sown S own lv ∨ w3.heap.size ≤ j := fun x hx => by
      rcases List.mem_cons.1 hx with rfl | hx
      · exact .inl List.mem_cons_self
      rcases List.mem_append.1 hx with hx | hx
      · exact .inl (List.mem_cons_of_mem _ (List.mem_append_left _ hx))
      · rcases hown x hx with h1 | h1
        · exact .inl (List.mem_cons_of_mem _ (List.mem_append_right _ h1))
        · exact .inr h1
    obtain ⟨B', own'', lv', hr', hnx⟩ := unhide HT4
    refine ⟨rfl, STurned.mk' (unhide HH) (hr.kept hk2 (fun x hx hm => ?_)) (hnx.kept.trans hk2 (fun x hx => .inr (by rw [List.mem_singleton.1 hx]; omega))) hN (fun x hx => ?_)⟩
    · have hx1 := List.mem_singleton.1 hm
      rcases hn1 x hx with h1 | h1
      · have := (sown_ge (unhide HH) x h1).2; omega
      · omega
    · rcases hn1 x hx with h1 | h1
      · exact .inl h1
      · exact .inr (by omega)

end Go.Proofs.YtmbhbnoifimeaabGreat

namespace Go.Proofs.YtmbhbnoifimeaabGreat
open Go.RowKit
set_option linter.unusedSimpArgs false
set_option linter.unusedVariables false

set_option maxRecDepth 100000 in
set_option maxHeartbeats 8000000 in
theorem SCall_again {N : Nat} {w : World} {S B : Nat} {own : List Nat} {lv : Value} {L : List ARec} (h : SRep N w S B own lv L) (cc : Nat) (no k : Int) (a b t : ByteArray) (hs : (logB L).length ≤ 100000) (hN : N ≤ w.heap.size) (ha : a.size ≤ maxLen) (hb : b.size ≤ maxLen) (ht : t.size ≤ maxLen) (hc3 : (cc : Int) < 3) (hr : ¬ ((cc : Int) < 0 ∨ 2 < (cc : Int) ∨ no < 1 ∨ 200 < no)) (hc : checkI ⟨k, a, b, t⟩ = 0) (hch : changesB k = true) (hno : no = (lastR L (cc : Int)).no) (hcb : callB ⟨k, a, b, t⟩ (lastR L (cc : Int)).call = true) :
    Calls Tryz.prog 114 #[.pointer (some ⟨S, 0, none⟩), .int .i64 (cc : Int), .int .i64 no, .agg #[.int .i64 k, .string a, .string b, .string t]] w (AddRes N w S own lv (aCall L (cc : Int) no ⟨k, a, b, t⟩)) := by
  have hnlt : ¬ (lastR L (cc : Int)).no < no := by omega
  rw [aCall, if_neg hr, if_neg (by simp [hc]), if_neg (by simp [hch]), if_neg hnlt, if_pos ⟨hno, hcb⟩]

  have HCC := hide (fun W => cCheck_any (cc : Int) no k a b t 0 ⟨#[]⟩ W ha hb ht)
  have HFC := hide (fun W => Check_any k a b t W ha hb ht)
  have HCH := hide (fun W => Changes_any k W)
  have HH := hide h
  have hSl := h.lt
  have hVK : ∀ W, Below (w.heap.size + 3) (((w.alloc (.cells #[.int .i64 k, .string a, .string b, .string t] 32)).alloc (.cells #[.int .i64 0, .string ⟨#[]⟩] 59)).alloc (.cells #[.int .i64 (cc : Int), .int .i64 no, .int .i64 k, .string a, .string b, .string t, .int .i64 0, .string ⟨#[]⟩] 61)) W → W.heap[w.heap.size]? = some (.cells #[.int .i64 k, .string a, .string b, .string t] 32 (0, 0)) ∧ W.heap[w.heap.size + 1]? = some (.cells #[.int .i64 0, .string ⟨#[]⟩] 59 (0, 0)) ∧ W.heap[w.heap.size + 2]? = some (.cells #[.int .i64 (cc : Int), .int .i64 no, .int .i64 k, .string a, .string b, .string t, .int .i64 0, .string ⟨#[]⟩] 61 (0, 0)) ∧ Below w.heap.size w W ∧ w.heap.size + 3 ≤ W.heap.size := fun W hW => by
    have c0 : (((w.alloc (.cells #[.int .i64 k, .string a, .string b, .string t] 32)).alloc (.cells #[.int .i64 0, .string ⟨#[]⟩] 59)).alloc (.cells #[.int .i64 (cc : Int), .int .i64 no, .int .i64 k, .string a, .string b, .string t, .int .i64 0, .string ⟨#[]⟩] 61)).heap[w.heap.size]? = some (.cells #[.int .i64 k, .string a, .string b, .string t] 32 (0, 0)) := (Below.heap_alloc _ _ _ (by simp; omega)).trans ((Below.heap_alloc _ _ _ (by simp)).trans (heap_alloc_new w _))
    have c1 : (((w.alloc (.cells #[.int .i64 k, .string a, .string b, .string t] 32)).alloc (.cells #[.int .i64 0, .string ⟨#[]⟩] 59)).alloc (.cells #[.int .i64 (cc : Int), .int .i64 no, .int .i64 k, .string a, .string b, .string t, .int .i64 0, .string ⟨#[]⟩] 61)).heap[w.heap.size + 1]? = some (.cells #[.int .i64 0, .string ⟨#[]⟩] 59 (0, 0)) := by
      have h := heap_alloc_new (w.alloc (.cells #[.int .i64 k, .string a, .string b, .string t] 32)) (.cells #[.int .i64 0, .string ⟨#[]⟩] 59)
      rw [show (w.alloc (.cells #[.int .i64 k, .string a, .string b, .string t] 32)).heap.size = w.heap.size + 1 by simp] at h
      exact (Below.heap_alloc _ _ _ (by simp)).trans h
    have c2 : (((w.alloc (.cells #[.int .i64 k, .string a, .string b, .string t] 32)).alloc (.cells #[.int .i64 0, .string ⟨#[]⟩] 59)).alloc (.cells #[.int .i64 (cc : Int), .int .i64 no, .int .i64 k, .string a, .string b, .string t, .int .i64 0, .string ⟨#[]⟩] 61)).heap[w.heap.size + 2]? = some (.cells #[.int .i64 (cc : Int), .int .i64 no, .int .i64 k, .string a, .string b, .string t, .int .i64 0, .string ⟨#[]⟩] 61 (0, 0)) := by
      have h := heap_alloc_new ((w.alloc (.cells #[.int .i64 k, .string a, .string b, .string t] 32)).alloc (.cells #[.int .i64 0, .string ⟨#[]⟩] 59)) (.cells #[.int .i64 (cc : Int), .int .i64 no, .int .i64 k, .string a, .string b, .string t, .int .i64 0, .string ⟨#[]⟩] 61)
      rw [show ((w.alloc (.cells #[.int .i64 k, .string a, .string b, .string t] 32)).alloc (.cells #[.int .i64 0, .string ⟨#[]⟩] 59)).heap.size = w.heap.size + 2 by simp] at h
      exact h
    have c4 : Below w.heap.size w (((w.alloc (.cells #[.int .i64 k, .string a, .string b, .string t] 32)).alloc (.cells #[.int .i64 0, .string ⟨#[]⟩] 59)).alloc (.cells #[.int .i64 (cc : Int), .int .i64 no, .int .i64 k, .string a, .string b, .string t, .int .i64 0, .string ⟨#[]⟩] 61)) := (((Below.refl w.heap.size w).alloc (Nat.le_refl _) _).alloc (by simp) _).alloc (by simp; omega) _
    refine ⟨(hW.block _ (by omega)).trans c0, (hW.block _ (by omega)).trans c1, (hW.block _ (by omega)).trans c2, c4.trans (hW.mono (by omega)), ?_⟩
    have := hW.size; simp at this; omega
  have HVK := hide hVK
  clear hVK
  have h9 : recI ⟨(cc : Int), no, ⟨k, a, b, t⟩, 0, ⟨#[]⟩⟩ ≠ 9 := fun h => hr (recI_range.1 h)
  generalize recI ⟨(cc : Int), no, ⟨k, a, b, t⟩, 0, ⟨#[]⟩⟩ = rr at HCC h9
  have h9b : (rr == 9) = false := by simpa using h9
  rw [hc] at HFC
  rw [hch] at HCH
  have hc3' : cc < 3 := by omega
  have HE := hide (fun W => eql32 ⟨k, a, b, t⟩ (lastR L (cc : Int)).call W)
  rw [hcb] at HE
  obtain ⟨lr, hlr⟩ : ∃ r, r = lastR L (cc : Int) := ⟨_, rfl⟩
  rw [← hlr] at HE hno ⊢
  clear hnlt hcb

  have HLS : Hid (∀ W, Below w.heap.size w W → RecAt W S (2 + cc * 8) lr) := fun W hW => by rw [hlr]; exact ((h.below hW).last cc hc3')
  clear h h9 hch hlr hr
  obtain ⟨lc, ln, ⟨lk, la, lb, lt⟩, ld, lu⟩ := lr
  dsimp only [callCells] at *
  have heqb : (no == ln) = true := by simpa using hno
  have hgt : ¬ (ln < no) := by omega
  clear hno

  go_enter Tryz.func114, Tryz.ntmps114
  go_wp2_with fail
  refine ((unhide HCC) _).mono ?_
  rintro e w1 ⟨rfl, b1⟩
  have HB1 : Hid (Below (w.heap.size + 3) (((w.alloc (.cells #[.int .i64 k, .string a, .string b, .string t] 32)).alloc (.cells #[.int .i64 0, .string ⟨#[]⟩] 59)).alloc (.cells #[.int .i64 (cc : Int), .int .i64 no, .int .i64 k, .string a, .string b, .string t, .int .i64 0, .string ⟨#[]⟩] 61)) w1) := b1.mono (by simp)
  obtain ⟨k0, k1, k2, k3, k4⟩ := (unhide HVK) w1 (unhide HB1)
  obtain ⟨⟨x0, x1, x2, x3⟩, _⟩ := four k0
  obtain ⟨⟨z0, z1⟩, fz⟩ := two k1
  obtain ⟨⟨r0, r1, r2, r3⟩, ⟨r4, r5, r6, r7⟩, _⟩ := eight k2
  have HA1 := hide k1
  have HW1 := hide k3
  clear k0 k1 k2 k3
  clear b1

  go_wp2_with fail
  refine ((unhide HFC) _).mono ?_
  rintro e w2 ⟨rfl, b2⟩
  clear x0 x1 x2 x3 z0 z1 fz r0 r1 r2 r3 r4 r5 r6 r7 k4

  have HB2 : Hid (Below (w.heap.size + 3) (((w.alloc (.cells #[.int .i64 k, .string a, .string b, .string t] 32)).alloc (.cells #[.int .i64 0, .string ⟨#[]⟩] 59)).alloc (.cells #[.int .i64 (cc : Int), .int .i64 no, .int .i64 k, .string a, .string b, .string t, .int .i64 0, .string ⟨#[]⟩] 61)) w2) := (unhide HB1).trans (b2.mono (by have := ((unhide HVK) w1 (unhide HB1)).2.2.2.2; omega))
  obtain ⟨k0, k1, k2, k3, k4⟩ := (unhide HVK) w2 (unhide HB2)
  obtain ⟨⟨x0, x1, x2, x3⟩, _⟩ := four k0
  obtain ⟨⟨z0, z1⟩, fz⟩ := two k1
  obtain ⟨⟨r0, r1, r2, r3⟩, ⟨r4, r5, r6, r7⟩, _⟩ := eight k2
  have HA2 := hide k1
  have HW2 := hide k3
  clear k0 k1 k2 k3
  clear b2

  go_wp2_with fail
  refine ((unhide HCH) _).mono ?_
  rintro e w3 ⟨rfl, rfl⟩

  obtain ⟨l0, l1, l2, l3, l4, l5, l6, l7⟩ := (unhide HLS) w3 (unhide HW2)
  have hzw : w.heap.size < w3.heap.size := by omega
  have hzw1 : w.heap.size + 1 < w3.heap.size := by omega
  have hzw2 : w.heap.size + 2 < w3.heap.size := by omega
  dsimp only at l0 l1 l2 l3 l4 l5 l6 l7
  have e32 := unhide HE
  go_wp2
  have hb2 := set2_blk (unhide HA2) (.int .i64 ld) (.string lu)
  have hk2 := set2_kept w3 (w.heap.size + 1) (.int .i64 ld) (.string lu)
  unfold set2 at hb2 hk2

  replace hb2 := (Below.heap_alloc _ (.cells #[.int .i64 lc, .int .i64 ln, .int .i64 lk, .string la, .string lb, .string lt, .int .i64 ld, .string lu] 61) (w.heap.size + 1) (Array.getElem?_eq_some_iff.1 hb2).1).trans hb2
  replace hk2 := hk2.trans (Kept.of_below (own := []) ((Below.refl _ _).alloc (Nat.le_refl _) (.cells #[.int .i64 lc, .int .i64 ln, .int .i64 lk, .string la, .string lb, .string lt, .int .i64 ld, .string lu] 61))) (by simp)

  generalize hw8 : (((w3.setCell ⟨w.heap.size + 1, 0, none⟩ (.int .i64 ld)).setCell ⟨w.heap.size + 1, 1, none⟩ (.string lu)).alloc (.cells #[.int .i64 lc, .int .i64 ln, .int .i64 lk, .string la, .string lb, .string lt, .int .i64 ld, .string lu] 61)) = w99 at hb2 hk2 ⊢
  obtain ⟨⟨p0, p1⟩, _⟩ := two hb2
  refine bodyPost_ret (v := .tuple #[.agg #[.int .i64 ld, .string lu], .int .i64 0]) (by simp [results, Tryz.results114, go_sem, p0, p1]) rfl ?_
  exact ⟨rfl, STurned.of_below (unhide HH) ((unhide HW2).trans (hk2.below (unhide HW2).size (by simp))) hN⟩

set_option maxRecDepth 100000 in
set_option maxHeartbeats 8000000 in
theorem SCall_old {N : Nat} {w : World} {S B : Nat} {own : List Nat} {lv : Value} {L : List ARec} (h : SRep N w S B own lv L) (cc : Nat) (no k : Int) (a b t : ByteArray) (hs : (logB L).length ≤ 100000) (hN : N ≤ w.heap.size) (ha : a.size ≤ maxLen) (hb : b.size ≤ maxLen) (ht : t.size ≤ maxLen) (hc3 : (cc : Int) < 3) (hr : ¬ ((cc : Int) < 0 ∨ 2 < (cc : Int) ∨ no < 1 ∨ 200 < no)) (hc : checkI ⟨k, a, b, t⟩ = 0) (hch : changesB k = true) (hno : no ≤ (lastR L (cc : Int)).no) (hcb : ¬ (no = (lastR L (cc : Int)).no ∧ callB ⟨k, a, b, t⟩ (lastR L (cc : Int)).call = true)) :
    Calls Tryz.prog 114 #[.pointer (some ⟨S, 0, none⟩), .int .i64 (cc : Int), .int .i64 no, .agg #[.int .i64 k, .string a, .string b, .string t]] w (AddRes N w S own lv (aCall L (cc : Int) no ⟨k, a, b, t⟩)) := by
  have hnlt : ¬ (lastR L (cc : Int)).no < no := by omega
  rw [aCall, if_neg hr, if_neg (by simp [hc]), if_neg (by simp [hch]), if_neg hnlt, if_neg hcb]

  have HCC := hide (fun W => cCheck_any (cc : Int) no k a b t 0 ⟨#[]⟩ W ha hb ht)
  have HFC := hide (fun W => Check_any k a b t W ha hb ht)
  have HCH := hide (fun W => Changes_any k W)
  have HH := hide h
  have hSl := h.lt
  have hVK : ∀ W, Below (w.heap.size + 3) (((w.alloc (.cells #[.int .i64 k, .string a, .string b, .string t] 32)).alloc (.cells #[.int .i64 0, .string ⟨#[]⟩] 59)).alloc (.cells #[.int .i64 (cc : Int), .int .i64 no, .int .i64 k, .string a, .string b, .string t, .int .i64 0, .string ⟨#[]⟩] 61)) W → W.heap[w.heap.size]? = some (.cells #[.int .i64 k, .string a, .string b, .string t] 32 (0, 0)) ∧ W.heap[w.heap.size + 1]? = some (.cells #[.int .i64 0, .string ⟨#[]⟩] 59 (0, 0)) ∧ W.heap[w.heap.size + 2]? = some (.cells #[.int .i64 (cc : Int), .int .i64 no, .int .i64 k, .string a, .string b, .string t, .int .i64 0, .string ⟨#[]⟩] 61 (0, 0)) ∧ Below w.heap.size w W ∧ w.heap.size + 3 ≤ W.heap.size := fun W hW => by
    have c0 : (((w.alloc (.cells #[.int .i64 k, .string a, .string b, .string t] 32)).alloc (.cells #[.int .i64 0, .string ⟨#[]⟩] 59)).alloc (.cells #[.int .i64 (cc : Int), .int .i64 no, .int .i64 k, .string a, .string b, .string t, .int .i64 0, .string ⟨#[]⟩] 61)).heap[w.heap.size]? = some (.cells #[.int .i64 k, .string a, .string b, .string t] 32 (0, 0)) := (Below.heap_alloc _ _ _ (by simp; omega)).trans ((Below.heap_alloc _ _ _ (by simp)).trans (heap_alloc_new w _))
    have c1 : (((w.alloc (.cells #[.int .i64 k, .string a, .string b, .string t] 32)).alloc (.cells #[.int .i64 0, .string ⟨#[]⟩] 59)).alloc (.cells #[.int .i64 (cc : Int), .int .i64 no, .int .i64 k, .string a, .string b, .string t, .int .i64 0, .string ⟨#[]⟩] 61)).heap[w.heap.size + 1]? = some (.cells #[.int .i64 0, .string ⟨#[]⟩] 59 (0, 0)) := by
      have h := heap_alloc_new (w.alloc (.cells #[.int .i64 k, .string a, .string b, .string t] 32)) (.cells #[.int .i64 0, .string ⟨#[]⟩] 59)
      rw [show (w.alloc (.cells #[.int .i64 k, .string a, .string b, .string t] 32)).heap.size = w.heap.size + 1 by simp] at h
      exact (Below.heap_alloc _ _ _ (by simp)).trans h
    have c2 : (((w.alloc (.cells #[.int .i64 k, .string a, .string b, .string t] 32)).alloc (.cells #[.int .i64 0, .string ⟨#[]⟩] 59)).alloc (.cells #[.int .i64 (cc : Int), .int .i64 no, .int .i64 k, .string a, .string b, .string t, .int .i64 0, .string ⟨#[]⟩] 61)).heap[w.heap.size + 2]? = some (.cells #[.int .i64 (cc : Int), .int .i64 no, .int .i64 k, .string a, .string b, .string t, .int .i64 0, .string ⟨#[]⟩] 61 (0, 0)) := by
      have h := heap_alloc_new ((w.alloc (.cells #[.int .i64 k, .string a, .string b, .string t] 32)).alloc (.cells #[.int .i64 0, .string ⟨#[]⟩] 59)) (.cells #[.int .i64 (cc : Int), .int .i64 no, .int .i64 k, .string a, .string b, .string t, .int .i64 0, .string ⟨#[]⟩] 61)
      rw [show ((w.alloc (.cells #[.int .i64 k, .string a, .string b, .string t] 32)).alloc (.cells #[.int .i64 0, .string ⟨#[]⟩] 59)).heap.size = w.heap.size + 2 by simp] at h
      exact h
    have c4 : Below w.heap.size w (((w.alloc (.cells #[.int .i64 k, .string a, .string b, .string t] 32)).alloc (.cells #[.int .i64 0, .string ⟨#[]⟩] 59)).alloc (.cells #[.int .i64 (cc : Int), .int .i64 no, .int .i64 k, .string a, .string b, .string t, .int .i64 0, .string ⟨#[]⟩] 61)) := (((Below.refl w.heap.size w).alloc (Nat.le_refl _) _).alloc (by simp) _).alloc (by simp; omega) _
    refine ⟨(hW.block _ (by omega)).trans c0, (hW.block _ (by omega)).trans c1, (hW.block _ (by omega)).trans c2, c4.trans (hW.mono (by omega)), ?_⟩
    have := hW.size; simp at this; omega
  have HVK := hide hVK
  clear hVK
  have h9 : recI ⟨(cc : Int), no, ⟨k, a, b, t⟩, 0, ⟨#[]⟩⟩ ≠ 9 := fun h => hr (recI_range.1 h)
  generalize recI ⟨(cc : Int), no, ⟨k, a, b, t⟩, 0, ⟨#[]⟩⟩ = rr at HCC h9
  have h9b : (rr == 9) = false := by simpa using h9
  rw [hc] at HFC
  rw [hch] at HCH
  have hc3' : cc < 3 := by omega
  have HE := hide (fun W => eql32 ⟨k, a, b, t⟩ (lastR L (cc : Int)).call W)
  generalize hcbe : callB ⟨k, a, b, t⟩ (lastR L (cc : Int)).call = cb at hcb HE
  obtain ⟨lr, hlr⟩ : ∃ r, r = lastR L (cc : Int) := ⟨_, rfl⟩
  rw [← hlr] at HE hno hcb
  clear hnlt hcbe

  have HLS : Hid (∀ W, Below w.heap.size w W → RecAt W S (2 + cc * 8) lr) := fun W hW => by rw [hlr]; exact ((h.below hW).last cc hc3')
  clear h h9 hch hlr hr
  obtain ⟨lc, ln, ⟨lk, la, lb, lt⟩, ld, lu⟩ := lr
  dsimp only [callCells] at *
  have hgt : ¬ (ln < no) := by omega
  have HCB := hide hcb
  clear hcb hno

  go_enter Tryz.func114, Tryz.ntmps114
  go_wp2_with fail
  refine ((unhide HCC) _).mono ?_
  rintro e w1 ⟨rfl, b1⟩
  have HB1 : Hid (Below (w.heap.size + 3) (((w.alloc (.cells #[.int .i64 k, .string a, .string b, .string t] 32)).alloc (.cells #[.int .i64 0, .string ⟨#[]⟩] 59)).alloc (.cells #[.int .i64 (cc : Int), .int .i64 no, .int .i64 k, .string a, .string b, .string t, .int .i64 0, .string ⟨#[]⟩] 61)) w1) := b1.mono (by simp)
  obtain ⟨k0, k1, k2, k3, k4⟩ := (unhide HVK) w1 (unhide HB1)
  obtain ⟨⟨x0, x1, x2, x3⟩, _⟩ := four k0
  obtain ⟨⟨z0, z1⟩, fz⟩ := two k1
  obtain ⟨⟨r0, r1, r2, r3⟩, ⟨r4, r5, r6, r7⟩, _⟩ := eight k2
  have HA1 := hide k1
  have HW1 := hide k3
  clear k0 k1 k2 k3
  clear b1

  go_wp2_with fail
  refine ((unhide HFC) _).mono ?_
  rintro e w2 ⟨rfl, b2⟩
  clear x0 x1 x2 x3 z0 z1 fz r0 r1 r2 r3 r4 r5 r6 r7 k4

  have HB2 : Hid (Below (w.heap.size + 3) (((w.alloc (.cells #[.int .i64 k, .string a, .string b, .string t] 32)).alloc (.cells #[.int .i64 0, .string ⟨#[]⟩] 59)).alloc (.cells #[.int .i64 (cc : Int), .int .i64 no, .int .i64 k, .string a, .string b, .string t, .int .i64 0, .string ⟨#[]⟩] 61)) w2) := (unhide HB1).trans (b2.mono (by have := ((unhide HVK) w1 (unhide HB1)).2.2.2.2; omega))
  obtain ⟨k0, k1, k2, k3, k4⟩ := (unhide HVK) w2 (unhide HB2)
  obtain ⟨⟨x0, x1, x2, x3⟩, _⟩ := four k0
  obtain ⟨⟨z0, z1⟩, fz⟩ := two k1
  obtain ⟨⟨r0, r1, r2, r3⟩, ⟨r4, r5, r6, r7⟩, _⟩ := eight k2
  have HA2 := hide k1
  have HW2 := hide k3
  clear k0 k1 k2 k3
  clear b2

  go_wp2_with fail
  refine ((unhide HCH) _).mono ?_
  rintro e w3 ⟨rfl, rfl⟩

  obtain ⟨l0, l1, l2, l3, l4, l5, l6, l7⟩ := (unhide HLS) w3 (unhide HW2)
  have hzw : w.heap.size < w3.heap.size := by omega
  have hzw1 : w.heap.size + 1 < w3.heap.size := by omega
  have hzw2 : w.heap.size + 2 < w3.heap.size := by omega
  dsimp only at l0 l1 l2 l3 l4 l5 l6 l7
  by_cases heq : no = ln
  · have hcf : cb = false := by
      have hcb := unhide HCB
      cases cb
      · rfl
      · exact absurd ⟨heq, rfl⟩ hcb
    subst hcf
    have heqb : (no == ln) = true := by simpa using heq
    have e32 := unhide HE
    clear heq
    go_wp2
    have hb2 := set2_blk (unhide HA2) (.int .i64 0) (.string ⟨#[]⟩)
    have hk2 := set2_kept w3 (w.heap.size + 1) (.int .i64 0) (.string ⟨#[]⟩)
    unfold set2 at hb2 hk2

    replace hb2 := (Below.heap_alloc _ (.cells #[.int .i64 lc, .int .i64 ln, .int .i64 lk, .string la, .string lb, .string lt, .int .i64 ld, .string lu] 61) (w.heap.size + 1) (Array.getElem?_eq_some_iff.1 hb2).1).trans hb2
    replace hk2 := hk2.trans (Kept.of_below (own := []) ((Below.refl _ _).alloc (Nat.le_refl _) (.cells #[.int .i64 lc, .int .i64 ln, .int .i64 lk, .string la, .string lb, .string lt, .int .i64 ld, .string lu] 61))) (by simp)

    generalize hw8 : (((w3.setCell ⟨w.heap.size + 1, 0, none⟩ (.int .i64 0)).setCell ⟨w.heap.size + 1, 1, none⟩ (.string ⟨#[]⟩)).alloc (.cells #[.int .i64 lc, .int .i64 ln, .int .i64 lk, .string la, .string lb, .string lt, .int .i64 ld, .string lu] 61)) = w99 at hb2 hk2 ⊢
    obtain ⟨⟨p0, p1⟩, _⟩ := two hb2
    refine bodyPost_ret (v := .tuple #[.agg #[.int .i64 0, .string ⟨#[]⟩], .int .i64 10]) (by simp [results, Tryz.results114, go_sem, p0, p1]) rfl ?_
    exact ⟨rfl, STurned.of_below (unhide HH) ((unhide HW2).trans (hk2.below (unhide HW2).size (by simp))) hN⟩

  · have hneq : (no == ln) = false := by simpa using heq
    clear heq
    go_wp2
    have hb2 := set2_blk (unhide HA2) (.int .i64 0) (.string ⟨#[]⟩)
    have hk2 := set2_kept w3 (w.heap.size + 1) (.int .i64 0) (.string ⟨#[]⟩)
    unfold set2 at hb2 hk2

    replace hb2 := (Below.heap_alloc _ (.cells #[.int .i64 lc, .int .i64 ln, .int .i64 lk, .string la, .string lb, .string lt, .int .i64 ld, .string lu] 61) (w.heap.size + 1) (Array.getElem?_eq_some_iff.1 hb2).1).trans hb2
    replace hk2 := hk2.trans (Kept.of_below (own := []) ((Below.refl _ _).alloc (Nat.le_refl _) (.cells #[.int .i64 lc, .int .i64 ln, .int .i64 lk, .string la, .string lb, .string lt, .int .i64 ld, .string lu] 61))) (by simp)

    generalize hw8 : (((w3.setCell ⟨w.heap.size + 1, 0, none⟩ (.int .i64 0)).setCell ⟨w.heap.size + 1, 1, none⟩ (.string ⟨#[]⟩)).alloc (.cells #[.int .i64 lc, .int .i64 ln, .int .i64 lk, .string la, .string lb, .string lt, .int .i64 ld, .string lu] 61)) = w99 at hb2 hk2 ⊢
    obtain ⟨⟨p0, p1⟩, _⟩ := two hb2
    refine bodyPost_ret (v := .tuple #[.agg #[.int .i64 0, .string ⟨#[]⟩], .int .i64 10]) (by simp [results, Tryz.results114, go_sem, p0, p1]) rfl ?_
    exact ⟨rfl, STurned.of_below (unhide HH) ((unhide HW2).trans (hk2.below (unhide HW2).size (by simp))) hN⟩

end Go.Proofs.YtmbhbnoifimeaabGreat

namespace Go.Proofs.YtmbhbnoifimeaabGreat
open Go.RowKit
set_option linter.unusedSimpArgs false
set_option linter.unusedVariables false

theorem STurned.wrap {N : Nat} {w W w1 w2 : World} {S B : Nat} {own : List Nat} {lv : Value} {L L' : List ARec} (h0 : SRep N w S B own lv L) (hb : Below w.heap.size w W) (hT : STurned N W S own lv w1 L') {b : Nat} (hb1 : w.heap.size ≤ b) (hb2 : b < W.heap.size) (hk : Kept [b] w1 w2) (hN : N ≤ w.heap.size) : STurned N w S own lv w2 L' := by
  obtain ⟨B', own', lv', hr, hn⟩ := hT
  have hnb : b ∉ sown S own lv := fun hm => by have := (sown_ge h0 b hm).2; omega
  refine STurned.mk' h0 (hr.kept hk (fun x hx hm => ?_)) (((Kept.of_below (own := sown S own lv) hb).trans hn.kept (fun x hx => .inl hx)).trans hk (fun x hx => .inr (by rw [List.mem_singleton.1 hx]; exact hb1))) hN (fun x hx => ?_)
  · rw [List.mem_singleton.1 hm] at hx
    exact (hn.keep b hb2 hnb).1 hx
  · by_cases h1 : x < w.heap.size
    · by_cases h2 : x ∈ sown S own lv
      · exact .inl h2
      · exact absurd hx (hn.keep x (Nat.lt_of_lt_of_le h1 hb.size) h2).1
    · exact .inr (by omega)

set_option maxRecDepth 100000 in
set_option maxHeartbeats 8000000 in
theorem SCall_new {N : Nat} {w : World} {S B : Nat} {own : List Nat} {lv : Value} {L : List ARec} (h : SRep N w S B own lv L) (cc : Nat) (no k : Int) (a b t : ByteArray) (hs : (logB L).length ≤ 100000) (hN : N ≤ w.heap.size) (ha : a.size ≤ maxLen) (hb : b.size ≤ maxLen) (ht : t.size ≤ maxLen) (hc3 : (cc : Int) < 3) (hr : ¬ ((cc : Int) < 0 ∨ 2 < (cc : Int) ∨ no < 1 ∨ 200 < no)) (hc : checkI ⟨k, a, b, t⟩ = 0) (hch : changesB k = true) (hlt : (lastR L (cc : Int)).no < no) :
    Calls Tryz.prog 114 #[.pointer (some ⟨S, 0, none⟩), .int .i64 (cc : Int), .int .i64 no, .agg #[.int .i64 k, .string a, .string b, .string t]] w (AddRes N w S own lv (aCall L (cc : Int) no ⟨k, a, b, t⟩)) := by
  rw [aCall, if_neg hr, if_neg (by simp [hc]), if_neg (by simp [hch]), if_pos hlt]
  obtain ⟨ok0, ok1, ok2⟩ := new_ok hr hc hch (behind L)
  have HADD := hide (fun W (hW : Below w.heap.size w W) => add_any (h.below hW) cc no k a b t hs (by omega) (Nat.le_trans hN hW.size) ok0 ok1 ok2)
  generalize (if 2000 < (logB L).length + (encL ⟨(cc : Int), no, ⟨k, a, b, t⟩, 0, ⟨#[]⟩⟩).length then (⟨0, ⟨#[]⟩, 7, L⟩ : CRes)
     else ⟨(aDo (behind L) ⟨k, a, b, t⟩).code, (aDo (behind L) ⟨k, a, b, t⟩).text, 0, L ++ [⟨(cc : Int), no, ⟨k, a, b, t⟩, (aDo (behind L) ⟨k, a, b, t⟩).code, (aDo (behind L) ⟨k, a, b, t⟩).text⟩]⟩) = RR at HADD ⊢
  obtain ⟨rcode, rtext, rerr, rlog⟩ := RR
  clear ok0 ok1 ok2

  have HCC := hide (fun W => cCheck_any (cc : Int) no k a b t 0 ⟨#[]⟩ W ha hb ht)
  have HFC := hide (fun W => Check_any k a b t W ha hb ht)
  have HCH := hide (fun W => Changes_any k W)
  have HH := hide h
  have hSl := h.lt
  have hVK : ∀ W, Below (w.heap.size + 3) (((w.alloc (.cells #[.int .i64 k, .string a, .string b, .string t] 32)).alloc (.cells #[.int .i64 0, .string ⟨#[]⟩] 59)).alloc (.cells #[.int .i64 (cc : Int), .int .i64 no, .int .i64 k, .string a, .string b, .string t, .int .i64 0, .string ⟨#[]⟩] 61)) W → W.heap[w.heap.size]? = some (.cells #[.int .i64 k, .string a, .string b, .string t] 32 (0, 0)) ∧ W.heap[w.heap.size + 1]? = some (.cells #[.int .i64 0, .string ⟨#[]⟩] 59 (0, 0)) ∧ W.heap[w.heap.size + 2]? = some (.cells #[.int .i64 (cc : Int), .int .i64 no, .int .i64 k, .string a, .string b, .string t, .int .i64 0, .string ⟨#[]⟩] 61 (0, 0)) ∧ Below w.heap.size w W ∧ w.heap.size + 3 ≤ W.heap.size := fun W hW => by
    have c0 : (((w.alloc (.cells #[.int .i64 k, .string a, .string b, .string t] 32)).alloc (.cells #[.int .i64 0, .string ⟨#[]⟩] 59)).alloc (.cells #[.int .i64 (cc : Int), .int .i64 no, .int .i64 k, .string a, .string b, .string t, .int .i64 0, .string ⟨#[]⟩] 61)).heap[w.heap.size]? = some (.cells #[.int .i64 k, .string a, .string b, .string t] 32 (0, 0)) := (Below.heap_alloc _ _ _ (by simp; omega)).trans ((Below.heap_alloc _ _ _ (by simp)).trans (heap_alloc_new w _))
    have c1 : (((w.alloc (.cells #[.int .i64 k, .string a, .string b, .string t] 32)).alloc (.cells #[.int .i64 0, .string ⟨#[]⟩] 59)).alloc (.cells #[.int .i64 (cc : Int), .int .i64 no, .int .i64 k, .string a, .string b, .string t, .int .i64 0, .string ⟨#[]⟩] 61)).heap[w.heap.size + 1]? = some (.cells #[.int .i64 0, .string ⟨#[]⟩] 59 (0, 0)) := by
      have h := heap_alloc_new (w.alloc (.cells #[.int .i64 k, .string a, .string b, .string t] 32)) (.cells #[.int .i64 0, .string ⟨#[]⟩] 59)
      rw [show (w.alloc (.cells #[.int .i64 k, .string a, .string b, .string t] 32)).heap.size = w.heap.size + 1 by simp] at h
      exact (Below.heap_alloc _ _ _ (by simp)).trans h
    have c2 : (((w.alloc (.cells #[.int .i64 k, .string a, .string b, .string t] 32)).alloc (.cells #[.int .i64 0, .string ⟨#[]⟩] 59)).alloc (.cells #[.int .i64 (cc : Int), .int .i64 no, .int .i64 k, .string a, .string b, .string t, .int .i64 0, .string ⟨#[]⟩] 61)).heap[w.heap.size + 2]? = some (.cells #[.int .i64 (cc : Int), .int .i64 no, .int .i64 k, .string a, .string b, .string t, .int .i64 0, .string ⟨#[]⟩] 61 (0, 0)) := by
      have h := heap_alloc_new ((w.alloc (.cells #[.int .i64 k, .string a, .string b, .string t] 32)).alloc (.cells #[.int .i64 0, .string ⟨#[]⟩] 59)) (.cells #[.int .i64 (cc : Int), .int .i64 no, .int .i64 k, .string a, .string b, .string t, .int .i64 0, .string ⟨#[]⟩] 61)
      rw [show ((w.alloc (.cells #[.int .i64 k, .string a, .string b, .string t] 32)).alloc (.cells #[.int .i64 0, .string ⟨#[]⟩] 59)).heap.size = w.heap.size + 2 by simp] at h
      exact h
    have c4 : Below w.heap.size w (((w.alloc (.cells #[.int .i64 k, .string a, .string b, .string t] 32)).alloc (.cells #[.int .i64 0, .string ⟨#[]⟩] 59)).alloc (.cells #[.int .i64 (cc : Int), .int .i64 no, .int .i64 k, .string a, .string b, .string t, .int .i64 0, .string ⟨#[]⟩] 61)) := (((Below.refl w.heap.size w).alloc (Nat.le_refl _) _).alloc (by simp) _).alloc (by simp; omega) _
    refine ⟨(hW.block _ (by omega)).trans c0, (hW.block _ (by omega)).trans c1, (hW.block _ (by omega)).trans c2, c4.trans (hW.mono (by omega)), ?_⟩
    have := hW.size; simp at this; omega
  have HVK := hide hVK
  clear hVK
  have h9 : recI ⟨(cc : Int), no, ⟨k, a, b, t⟩, 0, ⟨#[]⟩⟩ ≠ 9 := fun h => hr (recI_range.1 h)
  generalize recI ⟨(cc : Int), no, ⟨k, a, b, t⟩, 0, ⟨#[]⟩⟩ = rr at HCC h9
  have h9b : (rr == 9) = false := by simpa using h9
  rw [hc] at HFC
  rw [hch] at HCH
  have hc3' : cc < 3 := by omega
  obtain ⟨lr, hlr⟩ : ∃ r, r = lastR L (cc : Int) := ⟨_, rfl⟩
  rw [← hlr] at hlt

  have HLS : Hid (∀ W, Below w.heap.size w W → RecAt W S (2 + cc * 8) lr) := fun W hW => by rw [hlr]; exact ((h.below hW).last cc hc3')
  clear h h9 hch hlr hr
  obtain ⟨lc, ln, ⟨lk, la, lb, lt⟩, ld, lu⟩ := lr
  dsimp only [callCells] at *
  have hgt : ln < no := hlt
  clear hlt

  go_enter Tryz.func114, Tryz.ntmps114
  go_wp2_with fail
  refine ((unhide HCC) _).mono ?_
  rintro e w1 ⟨rfl, b1⟩
  have HB1 : Hid (Below (w.heap.size + 3) (((w.alloc (.cells #[.int .i64 k, .string a, .string b, .string t] 32)).alloc (.cells #[.int .i64 0, .string ⟨#[]⟩] 59)).alloc (.cells #[.int .i64 (cc : Int), .int .i64 no, .int .i64 k, .string a, .string b, .string t, .int .i64 0, .string ⟨#[]⟩] 61)) w1) := b1.mono (by simp)
  obtain ⟨k0, k1, k2, k3, k4⟩ := (unhide HVK) w1 (unhide HB1)
  obtain ⟨⟨x0, x1, x2, x3⟩, _⟩ := four k0
  obtain ⟨⟨z0, z1⟩, fz⟩ := two k1
  obtain ⟨⟨r0, r1, r2, r3⟩, ⟨r4, r5, r6, r7⟩, _⟩ := eight k2
  have HA1 := hide k1
  have HW1 := hide k3
  clear k0 k1 k2 k3
  clear b1

  go_wp2_with fail
  refine ((unhide HFC) _).mono ?_
  rintro e w2 ⟨rfl, b2⟩
  clear x0 x1 x2 x3 z0 z1 fz r0 r1 r2 r3 r4 r5 r6 r7 k4

  have HB2 : Hid (Below (w.heap.size + 3) (((w.alloc (.cells #[.int .i64 k, .string a, .string b, .string t] 32)).alloc (.cells #[.int .i64 0, .string ⟨#[]⟩] 59)).alloc (.cells #[.int .i64 (cc : Int), .int .i64 no, .int .i64 k, .string a, .string b, .string t, .int .i64 0, .string ⟨#[]⟩] 61)) w2) := (unhide HB1).trans (b2.mono (by have := ((unhide HVK) w1 (unhide HB1)).2.2.2.2; omega))
  obtain ⟨k0, k1, k2, k3, k4⟩ := (unhide HVK) w2 (unhide HB2)
  obtain ⟨⟨x0, x1, x2, x3⟩, _⟩ := four k0
  obtain ⟨⟨z0, z1⟩, fz⟩ := two k1
  obtain ⟨⟨r0, r1, r2, r3⟩, ⟨r4, r5, r6, r7⟩, _⟩ := eight k2
  have HA2 := hide k1
  have HW2 := hide k3
  clear k0 k1 k2 k3
  clear b2

  go_wp2_with fail
  refine ((unhide HCH) _).mono ?_
  rintro e w3 ⟨rfl, rfl⟩

  obtain ⟨l0, l1, l2, l3, l4, l5, l6, l7⟩ := (unhide HLS) w3 (unhide HW2)
  have hzw : w.heap.size < w3.heap.size := by omega
  have hzw1 : w.heap.size + 1 < w3.heap.size := by omega
  have hzw2 : w.heap.size + 2 < w3.heap.size := by omega
  dsimp only at l0 l1 l2 l3 l4 l5 l6 l7
  go_wp2_with fail
  obtain ⟨V, hV⟩ : ∃ V, V = w3.alloc (.cells #[.int .i64 lc, .int .i64 ln, .int .i64 lk, .string la, .string lb, .string lt, .int .i64 ld, .string lu] 61) := ⟨_, rfl⟩
  have hbV : Below w.heap.size w V := by rw [hV]; exact (unhide HW2).alloc (unhide HW2).size _
  have hAV : V.heap[w.heap.size + 1]? = some (.cells #[.int .i64 0, .string ⟨#[]⟩] 59 (0, 0)) := by rw [hV]; exact (Below.heap_alloc _ _ _ hzw1).trans (unhide HA2)
  have hzV : w.heap.size + 1 < V.heap.size := by rw [hV]; simp; omega
  rw [← hV]
  refine ((unhide HADD) _ hbV).mono ?_
  rintro e w4 ⟨rfl, hT4⟩
  dsimp only at hT4 ⊢
  have hA4 : w4.heap[w.heap.size + 1]? = some (.cells #[.int .i64 0, .string ⟨#[]⟩] 59 (0, 0)) := by
    obtain ⟨_, _, _, _, hn⟩ := hT4
    exact (hn.keep (w.heap.size + 1) hzV (fun hm => by have := (sown_ge (unhide HH) _ hm).2; omega)).2.trans hAV
  have HA4 := hide hA4
  have HT4 := hide hT4
  have HBV := hide hbV
  obtain ⟨⟨y0, y1⟩, fy⟩ := two hA4
  clear hT4 hbV hV hAV hA4
  go_wp2
  have hb2 := set2_blk (unhide HA4) (.int .i64 rcode) (.string rtext)
  have hk2 := set2_kept w4 (w.heap.size + 1) (.int .i64 rcode) (.string rtext)
  unfold set2 at hb2 hk2

  generalize hw8 : ((w4.setCell ⟨w.heap.size + 1, 0, none⟩ (.int .i64 rcode)).setCell ⟨w.heap.size + 1, 1, none⟩ (.string rtext)) = w99 at hb2 hk2 ⊢
  obtain ⟨⟨p0, p1⟩, _⟩ := two hb2
  refine bodyPost_ret (v := .tuple #[.agg #[.int .i64 rcode, .string rtext], .int .i64 rerr]) (by simp [results, Tryz.results114, go_sem, p0, p1]) rfl ?_
  exact ⟨rfl, (unhide HT4).wrap (unhide HH) (unhide HBV) (by omega) hzV hk2 hN⟩

theorem SCall_any {N : Nat} {w : World} {S B : Nat} {own : List Nat} {lv : Value} {L : List ARec} (h : SRep N w S B own lv L) (client no : Int) (c : ACall) (hs : (logB L).length ≤ 100000) (hN : N ≤ w.heap.size) (ha : c.name.size ≤ maxLen) (hb : c.dst.size ≤ maxLen) (ht : c.text.size ≤ maxLen) :
    Calls Tryz.prog 114 #[.pointer (some ⟨S, 0, none⟩), .int .i64 client, .int .i64 no, .agg #[.int .i64 c.kind, .string c.name, .string c.dst, .string c.text]] w (AddRes N w S own lv (aCall L client no c)) := by
  obtain ⟨k, a, b, t⟩ := c
  dsimp only at ha hb ht ⊢
  by_cases hr : client < 0 ∨ 2 < client ∨ no < 1 ∨ 200 < no
  · exact SCall_range h client no k a b t hs hN ha hb ht hr
  by_cases hc : checkI ⟨k, a, b, t⟩ = 0
  · by_cases hch : changesB k = false
    · exact SCall_ask h client no k a b t hs hN ha hb ht hr hc hch
    have hch : changesB k = true := by simpa using hch
    obtain ⟨cc, rfl⟩ : ∃ cc : Nat, client = (cc : Int) := ⟨client.toNat, by omega⟩
    by_cases hlt : (lastR L (cc : Int)).no < no
    · exact SCall_new h cc no k a b t hs hN ha hb ht (by omega) hr hc hch hlt
    by_cases hcb : no = (lastR L (cc : Int)).no ∧ callB ⟨k, a, b, t⟩ (lastR L (cc : Int)).call = true
    · exact SCall_again h cc no k a b t hs hN ha hb ht (by omega) hr hc hch hcb.1 hcb.2
    · exact SCall_old h cc no k a b t hs hN ha hb ht (by omega) hr hc hch (by omega) hcb
  · exact SCall_code h client no k a b t hs hN ha hb ht hr hc

end Go.Proofs.YtmbhbnoifimeaabGreat

namespace Go.Proofs.YtmbhbnoifimeaabGreat
open Go.RowKit
set_option linter.unusedSimpArgs false
set_option linter.unusedVariables false

set_option maxRecDepth 100000 in
set_option maxHeartbeats 4000000 in
/-- Crash, whatever the files and the last records are: all is as Open of the log. -/
theorem Crash_core {N : Nat} {w : World} {S n c : Nat} {C : Array Value} {a : Option Addr} {bs : List UInt8} (hC : w.heap[S]? = some (.cells C 64 (0, 0))) (h26' : C.size = 26) (hc : w.cell? ⟨S, 1, none⟩ = some (.slice a n c)) (hby : ByAt w a bs) (hn : bs.length = n) (hcap : n ≤ c) (hm : n ≤ 1000000) (hnil : a = none → n = 0 ∧ c = 0) (hNS : N ≤ S) (hN : N ≤ w.heap.size) :
    Calls Tryz.prog 49 #[.pointer (some ⟨S, 0, none⟩)] w fun e w' => e = .returned (.tuple #[]) ∧ ∃ B' own' lv', SRep N w' S B' own' lv' (allR bs).1 ∧ Kept [S] w w' ∧ ∀ k, k ∈ sown S own' lv' → k = S ∨ w.heap.size ≤ k := by
  have HOP := hide (Open_any a n c bs w hby hn hcap hm hnil)
  generalize allR bs = al at *
  obtain ⟨L, kk⟩ := al
  have hSl : S < w.heap.size := (Array.getElem?_eq_some_iff.1 hC).1
  clear hby hn hcap hnil
  go_enter Tryz.func49, Tryz.ntmps49
  go_wp2_with fail
  refine (unhide HOP).mono ?_
  rintro e w2 ⟨S2, B2, own2, lv2, rfl, hs2, b2⟩
  dsimp only at hs2 ⊢
  obtain ⟨C2, hC2, hl2⟩ := hs2.blk
  have hSb := (b2.block S hSl).trans hC
  have h26 : C2.size = 26 := by rw [← Array.length_toList, hl2]; rfl
  have hone : C2.all (·.oneCell') = true := by
    rw [Array.all_eq_true_iff_forall_mem]
    intro v hv
    have hv' : v ∈ C2.toList := by simpa using hv
    rw [hl2] at hv'
    obtain ⟨al, cl, rfl⟩ := row_form hs2.log
    simp [sCells, rcells] at hv'
    rcases hv' with rfl | rfl | rfl | rfl | rfl | rfl | rfl | rfl | rfl | rfl | rfl | rfl | rfl | rfl | rfl | rfl | rfl | rfl | rfl | rfl | rfl | rfl | rfl | rfl | rfl | rfl <;> rfl
  have HS2 := hide hs2
  have HB2 := hide b2
  have HL2 := hide hl2
  clear hs2 b2 hl2
  go_wp2_with (first
    | (refine wpList_load_row rfl 64 _ rfl S2 rfl 64 C2 (0, 0) _ hC2 Tryz.underlying64 rfl (by rw [h26]; exact info2073) ?_)
    | (refine wpList_store_row rfl 64 _ _ rfl S C2 rfl rfl 64 C hSb (by rw [h26]; exact info2073) (by rw [h26, h26']) hone ?_))
  refine bodyPost_end (v := .tuple #[]) (by simp [results, Tryz.results49, go_sem]) rfl ?_
  have h2 := unhide HS2
  have hk : Kept [S] w2 (w2.setRow S C2) := ⟨rfl, rfl, rfl, by simp [World.setRow], fun k hk hm => setRow_other w2 S k C2 (fun e => hm (by simp [e]))⟩
  have n1 : S ∉ own2 := fun hm => by have := h2.files.own S hm; omega
  have n2 : lv2.ownBlock ≠ some S := fun e => by have := (h2.log.lt S e).1; omega
  refine ⟨rfl, B2, own2, lv2, ⟨hNS, ⟨C2, setRow_heap w2 S C C2 64 (0, 0) hSb, unhide HL2⟩, ⟨h2.files.rep.keptS hk (fun k hk1 hm => by rw [List.mem_singleton.1 hm] at hk1; exact n1 hk1), h2.files.inv, fun k hk => Nat.le_trans hN (h2.files.own k hk)⟩, ?_, h2.good, n1, n2, h2.lB⟩, ?_, fun k hk => ?_⟩
  · exact ownsRow_base (ownsRow_same h2.log (fun j hj => hk.block j (h2.log.lt j hj).2 (fun hm => n2 (by rw [List.mem_singleton.1 hm] at hj; exact hj)))) hN
  · exact (Kept.of_below (own := [S]) (unhide HB2)).trans hk (fun x hx => .inl hx)
  · rcases List.mem_cons.1 hk with h4 | h4
    · exact .inl h4
    rcases List.mem_append.1 h4 with h4 | h4
    · exact .inr (h2.log.lt k (by simpa using h4)).1
    · exact .inr (h2.files.own k h4)

theorem STurned.around {N : Nat} {w W w1 w2 : World} {S B : Nat} {own : List Nat} {lv : Value} {L L' : List ARec} (hT : STurned N W S own lv w1 L') (h0 : SRep N w S B own lv L) (hb : Below w.heap.size w W) (ha : Below w1.heap.size w1 w2) (hN : N ≤ w.heap.size) : STurned N w S own lv w2 L' := by
  obtain ⟨B', own', lv', hr, hn⟩ := hT
  refine STurned.mk' h0 (hr.below ha) (((Kept.of_below (own := sown S own lv) hb).trans hn.kept (fun x hx => .inl hx)).trans (Kept.of_below (own := []) ha) (by simp)) hN (fun x hx => ?_)
  by_cases h1 : x < w.heap.size
  · by_cases h2 : x ∈ sown S own lv
    · exact .inl h2
    · exact absurd hx (hn.keep x (Nat.lt_of_lt_of_le h1 hb.size) h2).1
  · exact .inr (by omega)
theorem aCall_came' {L : List ARec} (hL : Good L) (client no : Int) (c : ACall) :
    (aCall L client no c).log = L ∨ (aCall L client no c).err = 0 ∧ ∃ r, (aCall L client no c).log = L ++ [r] ∧ recI r = 0 := by
  rcases aCall_log L client no c with h | ⟨h0, _, r, h1, h2⟩
  · exact .inl h
  · exact .inr ⟨h0, r, h1, aCall_good hL client no c r (by rw [h1]; simp)⟩

set_option maxRecDepth 100000 in
set_option maxHeartbeats 8000000 in
theorem STear_any {N : Nat} {w : World} {S B : Nat} {own : List Nat} {lv : Value} {L : List ARec} (h : SRep N w S B own lv L) (client no keep : Int) (c : ACall) (hs : (logB L).length ≤ 2000) (hN : N ≤ w.heap.size) (ha : c.name.size ≤ maxLen) (hb : c.dst.size ≤ maxLen) (ht : c.text.size ≤ maxLen) :
    Calls Tryz.prog 100 #[.pointer (some ⟨S, 0, none⟩), .int .i64 client, .int .i64 no, .agg #[.int .i64 c.kind, .string c.name, .string c.dst, .string c.text], .int .i64 keep] w fun e w' => e = .returned (.int .i64 (aTear L client no c keep).1) ∧ STurned N w S own lv w' (aTear L client no c keep).2 := by
  have HCC := hide (fun W (hW : Below w.heap.size w W) => SCall_any (h.below hW) client no c (by omega) (Nat.le_trans hN hW.size) ha hb ht)
  have hcm := aCall_came' h.good client no c
  have HAT : Hid (aTear L client no c keep = if (aCall L client no c).err = 0 ∧ L.length < (aCall L client no c).log.length ∧ keep < ((logB (aCall L client no c).log).length : Int) - ((logB L).length : Int) then ((aCall L client no c).err, L) else ((aCall L client no c).err, (aCall L client no c).log)) := rfl
  obtain ⟨T, hT⟩ : ∃ T, (logB L).length = T := ⟨_, rfl⟩
  have hgood := aCall_good h.good client no c
  generalize aTear L client no c keep = TT at HAT ⊢
  generalize aCall L client no c = R at HCC hcm HAT hgood
  obtain ⟨rcode, rtext, rerr, rlog⟩ := R
  obtain ⟨k, a, b, t⟩ := c
  dsimp only at *
  obtain ⟨T1, hT1⟩ : ∃ T1, (logB rlog).length = T1 := ⟨_, rfl⟩
  obtain ⟨la, lc, rfl⟩ := row_form h.log
  have hlg := h.lg
  rw [hT] at hlg h HCC ⊢
  have HH := hide h
  have hSl := h.lt
  have HCM := hide hcm
  have HGD := hide hgood
  have HTL := hide hT
  have HT1 := hide hT1
  have HBX : Hid (Below w.heap.size w (w.alloc (.cells #[.int .i64 k, .string a, .string b, .string t] 32))) := (Below.refl _ _).alloc (Nat.le_refl _) _
  rw [hT] at hs
  clear h hcm hgood ha hb ht hT hT1
  go_enter Tryz.func100, Tryz.ntmps100
  go_wp2_with fail
  refine ((unhide HCC) _ (unhide HBX)).mono ?_
  rintro e w1 ⟨rfl, hT1'⟩
  dsimp only at hT1' ⊢
  have HT1' := hide hT1'
  clear hT1'
  by_cases herr : rerr = 0
  · subst herr
    obtain ⟨B1, own1, lv1, hr1, hn1⟩ := unhide HT1'
    obtain ⟨a1, c1, rfl⟩ := row_form hr1.log
    have hlg1 := hr1.lg
    have hrow := hr1.log
    rw [unhide HT1] at hlg1 hrow
    have hcap := row_cap (by have h2 := hrow; unfold BRow at h2; rw [unhide HT1] at h2; exact h2)
    obtain ⟨hby, hnil, _⟩ := hrow.by (unhide HT1)
    have hTT1 : T ≤ T1 ∧ T1 ≤ T + 255 := by
      rcases unhide HCM with h1 | ⟨_, r, h1, h2⟩
      · have : T1 = T := by rw [← unhide HT1, h1, unhide HTL]
        omega
      · have h3 := (encL_le h2).2
        have : T1 = T + (encL r).length := by rw [← unhide HT1, h1, logB_snoc, List.length_append, unhide HTL]
        omega
    obtain ⟨hle1, hle2⟩ := hTT1
    obtain ⟨q, hq⟩ : ∃ q : Nat, (q : Int) = min (max keep 0) ((T1 : Int) - (T : Int)) := ⟨(min (max keep 0) ((T1 : Int) - (T : Int))).toNat, by omega⟩
    have hq1 : q ≤ T1 - T := by omega
    have hwr : IntKind.i64.wrap ((T1 : Int) - (T : Int)) = (T1 : Int) - (T : Int) := by rw [IntKind.wrap_i64]; omega
    have hwr2 : IntKind.i64.wrap ((T : Int) + (q : Int)) = (T : Int) + (q : Int) := by rw [IntKind.wrap_i64]; omega
    have hbd : (T : Int) + (q : Int) ≤ (c1 : Int) := by omega
    have hfz : w1.frozen? ⟨S, 1, none⟩ = false := (hr1.at 1).2
    have hSl1 := hr1.lt
    have HR1 := hide hr1
    have HN1 := hide hn1
    have HBY := hide hby
    have HROW := hide hrow
    clear hr1 hn1 hby hrow HT1'
    have hlen : ((T : Int) + min (max keep 0) ((T1 : Int) - (T : Int))).toNat = T + q := by omega
    go_wp2_with fail
    try rw [hlen]
    obtain ⟨w2, hw2⟩ : ∃ w2, w2 = (w1.setCell ⟨S, 1, none⟩ (.slice a1 (T + q) c1)).alloc (.cells #[.int .i64 rcode, .string rtext] 59) := ⟨_, rfl⟩
    rw [← hw2]
    obtain ⟨C, hC, hl⟩ := (unhide HR1).blk
    have h26 : C.size = 26 := by rw [← Array.length_toList, hl]; rfl
    have hs1 := heap_setCell_same hC (o := 1) (.slice a1 (T + q) c1)
    have hkS := kept_setCell [S] w1 S 1 (.slice a1 (T + q) c1) (by simp)
    have hbA : Below (w1.setCell ⟨S, 1, none⟩ (.slice a1 (T + q) c1)).heap.size (w1.setCell ⟨S, 1, none⟩ (.slice a1 (T + q) c1)) w2 := by rw [hw2]; exact (Below.refl _ _).alloc (Nat.le_refl _) _
    have hC2 : w2.heap[S]? = some (.cells (C.setIfInBounds 1 (.slice a1 (T + q) c1)) 64 (0, 0)) := (hbA.block S (Array.getElem?_eq_some_iff.1 hs1).1).trans hs1
    have hc2 : w2.cell? ⟨S, 1, none⟩ = some (.slice a1 (T + q) c1) := by
      rw [cell_of_row w2 S _ _ _ _ hC2, Array.getElem?_setIfInBounds_self_of_lt (by omega)]
    have hK12 : Kept [S] w1 w2 := hkS.trans (Kept.of_below (own := []) hbA) (by simp)
    have hby2 : ByAt w2 a1 ((logB rlog).take (T + q)) := fun h0 => by
      obtain ⟨bb, off, rfl, hcs⟩ := (unhide HBY) (fun e => h0 (by rw [e]; simp))
      refine ⟨bb, off, rfl, fun j x hx => ?_⟩
      have hx' : (logB rlog)[j]? = some x := by
        rw [List.getElem?_take] at hx
        split at hx
        · exact hx
        · cases hx
      have h1 := hcs j x hx'
      have hbb : bb ≠ S := fun e => (unhide HR1).sL (by
        obtain ⟨g, e2, _⟩ := row_some (by have h2 := unhide HROW; unfold BRow at h2; rw [unhide HT1] at h2; exact h2)
        cases e2
        rw [e]
        rfl)
      rw [World.cell?_of_block (w := w1) (a := ⟨bb, off + j, none⟩) (hK12.block bb (World.block_lt_of_cell? w1 _ h1) (by simpa using hbb))]
      exact h1
    have hz12 := hK12.size
    have hnN : N ≤ w1.heap.size := Nat.le_trans hN (Nat.le_trans (unhide HBX).size (unhide HN1).size)
    have HCR := hide (Crash_core (N := N) hC2 (by rw [Array.size_setIfInBounds]; exact h26) hc2 hby2 (by rw [List.length_take, unhide HT1]; omega) (by omega) (by omega) (fun e => by have := hnil e; omega) (unhide HR1).new (by omega))
    have HK12 := hide hK12
    clear hw2 hC hl h26 hs1 hkS hbA hC2 hc2 hK12 hby2
    refine (unhide HCR).mono ?_
    rintro e w3 ⟨rfl, B3, own3, lv3, hr3, hk3, hn3⟩
    have HR3 := hide hr3
    have HK3 := hide hk3
    have HN3 := hide hn3
    clear hr3 hk3 hn3
    have HTT : Hid (TT = (0, (allR ((logB rlog).take (T + q))).1)) := by
      show _ = _
      rw [unhide HAT]
      rcases unhide HCM with h1 | ⟨_, r, h1, h2⟩
      · subst h1
        have hTe : T1 = T := by rw [← unhide HT1, unhide HTL]
        rw [if_neg (by omega), List.take_of_length_le (by rw [unhide HT1]; omega), allR_log (unhide HGD)]
      · subst h1
        have h5 := encL_le h2
        have hT1n : T1 = T + (encL r).length := by rw [← unhide HT1, logB_snoc, List.length_append, unhide HTL]
        have h6 := allR_torn (unhide HGD) q (by omega)
        rw [unhide HTL] at h6
        rw [h6, unhide HT1, unhide HTL]
        by_cases hk : keep < ((encL r).length : Int)
        · rw [if_pos ⟨by trivial, by simp, by omega⟩, if_pos (by omega)]
        · rw [if_neg (fun h => hk (by have := h.2.2; omega)), if_neg (by omega)]
    go_wp2
    go_ret
    rw [HTT.out]
    refine ⟨rfl, STurned.mk' (unhide HH) (unhide HR3) (((((Kept.of_below (own := sown S own (.slice la T lc)) (unhide HBX)).trans (unhide HN1).kept (fun x hx => .inl hx)).trans (unhide HK12) (fun x hx => .inl (by rw [List.mem_singleton.1 hx]; exact List.mem_cons_self)))).trans (unhide HK3) (fun x hx => .inl (by rw [List.mem_singleton.1 hx]; exact List.mem_cons_self))) hN (fun x hx => ?_)⟩
    rcases (unhide HN3) x hx with h1 | h1
    · exact .inl (by rw [h1]; exact List.mem_cons_self)
    · exact .inr (by have := (unhide HBX).size; have := (unhide HN1).size; omega)
  · have herb : (rerr == 0) = false := by simpa using herr
    have HTT : Hid (TT = (rerr, rlog)) := by rw [HAT.out, if_neg (fun h => herr h.1)]; exact rfl
    go_wp2
    go_ret
    rw [HTT.out]
    exact ⟨rfl, (unhide HT1').around (unhide HH) (unhide HBX) ((Below.refl _ _).alloc (Nat.le_refl _) _) hN⟩

end Go.Proofs.YtmbhbnoifimeaabGreat

namespace Go.Proofs.YtmbhbnoifimeaabGreat
open Go.RowKit
set_option linter.unusedSimpArgs false
set_option linter.unusedVariables false

theorem aCall_short {L : List ARec} (hL : Good L) (hs : (logB L).length ≤ 2000) (client no : Int) (c : ACall) : (logB (aCall L client no c).log).length ≤ 2000 := by
  unfold aCall
  split
  · exact hs
  rename_i h1
  split
  · exact hs
  rename_i h2
  split
  · exact hs
  rename_i h3
  split
  · split
    · exact hs
    · rename_i h5
      obtain ⟨_, _, ok2⟩ := new_ok h1 (by simpa using h2) (by simpa using h3) (behind L)
      dsimp only
      rw [logB_snoc, List.length_append, ok2]
      omega
  split
  · exact hs
  · exact hs
theorem aTear_short {L : List ARec} (hL : Good L) (hs : (logB L).length ≤ 2000) (client no : Int) (c : ACall) (keep : Int) : (logB (aTear L client no c keep).2).length ≤ 2000 := by
  rcases aTear_log L client no c keep with h | h
  · rw [h]; exact hs
  · rw [h]; exact aCall_short hL hs _ _ _
end Go.Proofs.YtmbhbnoifimeaabGreat

namespace Go.Proofs.YtmbhbnoifimeaabGreat
set_option linter.unusedVariables false

theorem opn0 { oi : Oper} {r : List Oper} : (List.toArray (oi :: r))[0]? = some oi := rfl
theorem opn1 {x0 oi : Oper} {r : List Oper} : (List.toArray (x0 :: oi :: r))[1]? = some oi := rfl
theorem opn2 {x0 x1 oi : Oper} {r : List Oper} : (List.toArray (x0 :: x1 :: oi :: r))[2]? = some oi := rfl
theorem opn3 {x0 x1 x2 oi : Oper} {r : List Oper} : (List.toArray (x0 :: x1 :: x2 :: oi :: r))[3]? = some oi := rfl
theorem opn4 {x0 x1 x2 x3 oi : Oper} {r : List Oper} : (List.toArray (x0 :: x1 :: x2 :: x3 :: oi :: r))[4]? = some oi := rfl
theorem opn5 {x0 x1 x2 x3 x4 oi : Oper} {r : List Oper} : (List.toArray (x0 :: x1 :: x2 :: x3 :: x4 :: oi :: r))[5]? = some oi := rfl
theorem opn6 {x0 x1 x2 x3 x4 x5 oi : Oper} {r : List Oper} : (List.toArray (x0 :: x1 :: x2 :: x3 :: x4 :: x5 :: oi :: r))[6]? = some oi := rfl
theorem opn7 {x0 x1 x2 x3 x4 x5 x6 oi : Oper} {r : List Oper} : (List.toArray (x0 :: x1 :: x2 :: x3 :: x4 :: x5 :: x6 :: oi :: r))[7]? = some oi := rfl
theorem opn8 {x0 x1 x2 x3 x4 x5 x6 x7 oi : Oper} {r : List Oper} : (List.toArray (x0 :: x1 :: x2 :: x3 :: x4 :: x5 :: x6 :: x7 :: oi :: r))[8]? = some oi := rfl
theorem opn9 {x0 x1 x2 x3 x4 x5 x6 x7 x8 oi : Oper} {r : List Oper} : (List.toArray (x0 :: x1 :: x2 :: x3 :: x4 :: x5 :: x6 :: x7 :: x8 :: oi :: r))[9]? = some oi := rfl
theorem opn10 {x0 x1 x2 x3 x4 x5 x6 x7 x8 x9 oi : Oper} {r : List Oper} : (List.toArray (x0 :: x1 :: x2 :: x3 :: x4 :: x5 :: x6 :: x7 :: x8 :: x9 :: oi :: r))[10]? = some oi := rfl
theorem opn11 {x0 x1 x2 x3 x4 x5 x6 x7 x8 x9 x10 oi : Oper} {r : List Oper} : (List.toArray (x0 :: x1 :: x2 :: x3 :: x4 :: x5 :: x6 :: x7 :: x8 :: x9 :: x10 :: oi :: r))[11]? = some oi := rfl
theorem opn12 {x0 x1 x2 x3 x4 x5 x6 x7 x8 x9 x10 x11 oi : Oper} {r : List Oper} : (List.toArray (x0 :: x1 :: x2 :: x3 :: x4 :: x5 :: x6 :: x7 :: x8 :: x9 :: x10 :: x11 :: oi :: r))[12]? = some oi := rfl
theorem opn13 {x0 x1 x2 x3 x4 x5 x6 x7 x8 x9 x10 x11 x12 oi : Oper} {r : List Oper} : (List.toArray (x0 :: x1 :: x2 :: x3 :: x4 :: x5 :: x6 :: x7 :: x8 :: x9 :: x10 :: x11 :: x12 :: oi :: r))[13]? = some oi := rfl
theorem opn14 {x0 x1 x2 x3 x4 x5 x6 x7 x8 x9 x10 x11 x12 x13 oi : Oper} {r : List Oper} : (List.toArray (x0 :: x1 :: x2 :: x3 :: x4 :: x5 :: x6 :: x7 :: x8 :: x9 :: x10 :: x11 :: x12 :: x13 :: oi :: r))[14]? = some oi := rfl
theorem opn15 {x0 x1 x2 x3 x4 x5 x6 x7 x8 x9 x10 x11 x12 x13 x14 oi : Oper} {r : List Oper} : (List.toArray (x0 :: x1 :: x2 :: x3 :: x4 :: x5 :: x6 :: x7 :: x8 :: x9 :: x10 :: x11 :: x12 :: x13 :: x14 :: oi :: r))[15]? = some oi := rfl
theorem opn16 {x0 x1 x2 x3 x4 x5 x6 x7 x8 x9 x10 x11 x12 x13 x14 x15 oi : Oper} {r : List Oper} : (List.toArray (x0 :: x1 :: x2 :: x3 :: x4 :: x5 :: x6 :: x7 :: x8 :: x9 :: x10 :: x11 :: x12 :: x13 :: x14 :: x15 :: oi :: r))[16]? = some oi := rfl
end Go.Proofs.YtmbhbnoifimeaabGreat

namespace Go.Proofs.YtmbhbnoifimeaabGreat
open Go.RowKit
set_option linter.unusedSimpArgs false
set_option linter.unusedVariables false

structure APkt where
  reply : Bool
  client : Int
  no : Int
  call : ACall
  code : Int
  ans : ByteArray
def pcells (m : APkt) : List Value := [.bool m.reply, .int .i64 m.client, .int .i64 m.no, .int .i64 m.call.kind, .string m.call.name, .string m.call.dst, .string m.call.text, .int .i64 m.code, .string m.ans]
def APkt.val (m : APkt) : Value := .agg #[.bool m.reply, .int .i64 m.client, .int .i64 m.no, .int .i64 m.call.kind, .string m.call.name, .string m.call.dst, .string m.call.text, .int .i64 m.code, .string m.ans]
def zeroPkt : APkt := ⟨false, 0, 0, ⟨0, ⟨#[]⟩, ⟨#[]⟩, ⟨#[]⟩⟩, 0, ⟨#[]⟩⟩
/-- No text is longer than a string that is handed in may be. -/
def SmallP (m : APkt) : Prop := m.call.name.size ≤ 281474976710656 ∧ m.call.dst.size ≤ 281474976710656 ∧ m.call.text.size ≤ 281474976710656 ∧ m.ans.size ≤ 281474976710656
theorem pcells_one (m : APkt) : ∀ u, u ∈ pcells m → u.oneCell' = true := by intro u hu; simp [pcells] at hu; rcases hu with rfl | rfl | rfl | rfl | rfl | rfl | rfl | rfl | rfl <;> rfl
theorem pcells_len (m : APkt) : (pcells m).length = 9 := rfl
theorem pflat_len (l : List APkt) : (l.flatMap pcells).length = l.length * 9 := by
  induction l with
  | nil => rfl
  | cons x xs ih => simp [pcells_len, ih]; omega
theorem pflat_one (l : List APkt) : ∀ u, u ∈ l.flatMap pcells → u.oneCell' = true := by
  intro u hu
  obtain ⟨f, _, hu⟩ := List.mem_flatMap.1 hu
  exact pcells_one f u hu

/-- The number of the packet that is meant. -/
def rnd (n : Int) (k : Nat) : Nat := (IntKind.u64.wrap n % (k : Int)).toNat
theorem rnd_lt (n : Int) {k : Nat} (hk : 0 < k) : rnd n k < k := by
  unfold rnd
  have h1 : (0 : Int) ≤ IntKind.u64.wrap n % (k : Int) := Int.emod_nonneg _ (by omega)
  have h2 : IntKind.u64.wrap n % (k : Int) < (k : Int) := Int.emod_lt_of_pos _ (by omega)
  omega

/-- A packet lies there. -/
structure PktAt (w : World) (b o : Nat) (m : APkt) : Prop where
  x0 : w.cell? ⟨b, o, none⟩ = some (.bool m.reply)
  x1 : w.cell? ⟨b, o + 1, none⟩ = some (.int .i64 m.client)
  x2 : w.cell? ⟨b, o + 2, none⟩ = some (.int .i64 m.no)
  x3 : w.cell? ⟨b, o + 3, none⟩ = some (.int .i64 m.call.kind)
  x4 : w.cell? ⟨b, o + 4, none⟩ = some (.string m.call.name)
  x5 : w.cell? ⟨b, o + 5, none⟩ = some (.string m.call.dst)
  x6 : w.cell? ⟨b, o + 6, none⟩ = some (.string m.call.text)
  x7 : w.cell? ⟨b, o + 7, none⟩ = some (.int .i64 m.code)
  x8 : w.cell? ⟨b, o + 8, none⟩ = some (.string m.ans)
theorem PktAt.lt {w : World} {b o : Nat} {r : APkt} (h : PktAt w b o r) : b < w.heap.size := World.block_lt_of_cell? w _ h.x0
theorem PktAt.same {w W : World} {b o : Nat} {r : APkt} (h : PktAt w b o r) (hb : W.heap[b]? = w.heap[b]?) : PktAt W b o r := by
  have hc : ∀ j, W.cell? ⟨b, j, none⟩ = w.cell? ⟨b, j, none⟩ := fun j => by simp only [World.cell?, hb]
  exact ⟨(hc _).trans h.x0, (hc _).trans h.x1, (hc _).trans h.x2, (hc _).trans h.x3, (hc _).trans h.x4, (hc _).trans h.x5, (hc _).trans h.x6, (hc _).trans h.x7, (hc _).trans h.x8⟩
theorem flat9 : ∀ (rs : List APkt) (j i : Nat) (r : APkt), rs[j]? = some r → i < 9 → (rs.flatMap pcells)[j * 9 + i]? = (pcells r)[i]?
  | [], j, i, r, h, _ => by simp at h
  | q :: rs, 0, i, r, h, hi => by
    simp at h
    subst h
    rw [List.flatMap_cons, Nat.zero_mul, Nat.zero_add, List.getElem?_append_left (by rw [pcells_len]; omega)]
  | q :: rs, j + 1, i, r, h, hi => by
    rw [List.flatMap_cons, List.getElem?_append_right (by rw [pcells_len]; omega), pcells_len, show (j + 1) * 9 + i - 9 = j * 9 + i by omega]
    exact flat9 rs j i r (by simpa using h) hi
/-- Packets one behind the other lie there. -/
def PktsAt (w : World) (a : Option Addr) (n : Nat) (rs : List APkt) : Prop :=
  rs.length = n ∧ (0 < n → ∃ b, a = some ⟨b, 0, none⟩ ∧ ∀ (j : Nat) (r : APkt), rs[j]? = some r → PktAt w b (j * 9) r)
theorem PktsAt.below {w W : World} {a : Option Addr} {n : Nat} {rs : List APkt} (h : PktsAt w a n rs) (hb : Below w.heap.size w W) : PktsAt W a n rs := by
  refine ⟨h.1, fun h0 => ?_⟩
  obtain ⟨b, rfl, hc⟩ := h.2 h0
  exact ⟨b, rfl, fun j r hr => (hc j r hr).same (hb.block b (hc j r hr).lt)⟩
theorem pkts_row {w : World} {base : Nat} {a : Option Addr} {n c : Nat} {rs : List APkt} (h : w.ownsRow base 92 9 (.slice a n c) n (rs.flatMap pcells)) (hn : rs.length = n) : PktsAt w a n rs := by
  refine ⟨hn, fun h0 => ?_⟩
  obtain ⟨g, cap, e, _⟩ := World.ownsRow.form h h0
  cases e
  refine ⟨g, rfl, fun j r hr => ?_⟩
  have hc : ∀ i, i < 9 → w.cell? ⟨g, j * 9 + i, none⟩ = (pcells r)[i]? := fun i hi => by
    have h1 := flat9 rs j i r hr hi
    obtain ⟨v, hv⟩ : ∃ v, (pcells r)[i]? = some v := ⟨_, List.getElem?_eq_getElem (by rw [pcells_len]; omega)⟩
    rw [hv] at h1 ⊢
    have := World.ownsRow.cells (v := .slice (some ⟨g, 0, none⟩) n c) h (g := g) rfl (j * 9 + i) v h1
    rw [addr_add, Nat.zero_add] at this
    exact this
  exact ⟨hc 0 (by omega), hc 1 (by omega), hc 2 (by omega), hc 3 (by omega), hc 4 (by omega), hc 5 (by omega), hc 6 (by omega), hc 7 (by omega), hc 8 (by omega)⟩

/-- An object of one list of packets (a Post: t; a Bag: its own type) at block P. -/
structure PRep (t : TypeId) (N : Nat) (w : World) (P : Nat) (v : Value) (ms : List APkt) : Prop where
  new : N ≤ P
  blk : w.heap[P]? = some (.cells #[v] t (0, 0))
  row : w.ownsRow N 92 9 v ms.length (ms.flatMap pcells)
  nd : v.ownBlock ≠ some P
  few : ms.length ≤ 40
  small : ∀ m, m ∈ ms → SmallP m
def powns (P : Nat) (v : Value) : List Nat := P :: v.ownBlock.toList
theorem PRep.lt {t : TypeId} {N : Nat} {w : World} {P : Nat} {v : Value} {ms : List APkt} (h : PRep t N w P v ms) : P < w.heap.size := (Array.getElem?_eq_some_iff.1 h.blk).1
theorem PRep.can {t : TypeId} {N : Nat} {w : World} {P : Nat} {v : Value} {ms : List APkt} (h : PRep t N w P v ms) : w.cell? ⟨P, 0, none⟩ = some v ∧ w.frozen? ⟨P, 0, none⟩ = false := ⟨by simp [World.cell?, h.blk], by simp [World.frozen?, h.blk]⟩
theorem PRep.ge {t : TypeId} {N : Nat} {w : World} {P : Nat} {v : Value} {ms : List APkt} (h : PRep t N w P v ms) : ∀ k, k ∈ powns P v → N ≤ k ∧ k < w.heap.size := fun k hk => by
  rcases List.mem_cons.1 hk with rfl | hk
  · exact ⟨h.new, h.lt⟩
  · exact h.row.lt k (by simpa using hk)
theorem PRep.same {t : TypeId} {N : Nat} {w w' : World} {P : Nat} {v : Value} {ms : List APkt} (h : PRep t N w P v ms) (hs : ∀ k, k ∈ powns P v → w'.heap[k]? = w.heap[k]?) : PRep t N w' P v ms :=
  ⟨h.new, (hs P List.mem_cons_self).trans h.blk, ownsRow_same h.row (fun k hk => hs k (List.mem_cons_of_mem _ (by simpa using hk))), h.nd, h.few, h.small⟩
theorem PRep.below {t : TypeId} {N : Nat} {w w' : World} {P : Nat} {v : Value} {ms : List APkt} (h : PRep t N w P v ms) (hb : Below w.heap.size w w') : PRep t N w' P v ms := h.same fun k hk => hb.block k (h.ge k hk).2
theorem PRep.kept {t : TypeId} {N : Nat} {w w' : World} {P : Nat} {v : Value} {ms : List APkt} {o : List Nat} (h : PRep t N w P v ms) (hk : Kept o w w') (hd : ∀ k, k ∈ powns P v → k ∉ o) : PRep t N w' P v ms := h.same fun k h1 => hk.block k (h.ge k h1).2 (hd k h1)
theorem PRep.form {t : TypeId} {N : Nat} {w : World} {P : Nat} {v : Value} {ms : List APkt} (h : PRep t N w P v ms) : ∃ a cap, v = .slice a ms.length cap := row_form h.row
/-- From w to w' the object has come to ms'. -/
def PTurn (t : TypeId) (N : Nat) (w : World) (P : Nat) (v : Value) (w' : World) (ms' : List APkt) : Prop :=
  ∃ v', PRep t N w' P v' ms' ∧ Kept (powns P v) w w' ∧ ∀ k, k ∈ powns P v' → k ∈ powns P v ∨ w.heap.size ≤ k
theorem PTurn.of_below {t : TypeId} {N : Nat} {w w' : World} {P : Nat} {v : Value} {ms : List APkt} (h : PRep t N w P v ms) (hb : Below w.heap.size w w') : PTurn t N w P v w' ms := ⟨v, h.below hb, Kept.of_below hb, fun k hk => .inl hk⟩
theorem PTurn.before {t : TypeId} {N : Nat} {w w0 w' : World} {P : Nat} {v : Value} {ms : List APkt} (hb : Below w.heap.size w w0) (h : PTurn t N w0 P v w' ms) : PTurn t N w P v w' ms := by
  obtain ⟨v', h1, h2, h3⟩ := h
  refine ⟨v', h1, (Kept.of_below hb).trans h2 (fun x hx => .inl hx), fun k hk => ?_⟩
  rcases h3 k hk with h | h
  · exact .inl h
  · right; have := hb.size; omega
end Go.Proofs.YtmbhbnoifimeaabGreat

namespace Go.Proofs.YtmbhbnoifimeaabGreat
open Go.RowKit
set_option linter.unusedSimpArgs false
set_option linter.unusedVariables false

def pArr (r : APkt) : Array Value := #[.bool r.reply, .int .i64 r.client, .int .i64 r.no, .int .i64 r.call.kind, .string r.call.name, .string r.call.dst, .string r.call.text, .int .i64 r.code, .string r.ans]
set_option maxHeartbeats 400000 in
theorem SClone_any (s : ByteArray) (w : World) (hs : s.size ≤ 281474976710656) :
    Calls Tryz.prog 43 #[.string s] w fun e w' => e = .returned (.string s) ∧ Below w.heap.size w w' := by
  have hcon := Tryz.stringslite_Clone s w (by omega)
  go_enter Tryz.func43, Tryz.ntmps43
  go_wp2_with (go_at_call 64; refine hcon.mono ?_; rintro e w' ⟨rfl, hb'⟩)
  go_ret
  exact ⟨rfl, hb'⟩

theorem New_P (w : World) : Calls Tryz.prog 36 #[] w fun e w' => e = .returned (.pointer (some ⟨w.heap.size, 0, none⟩)) ∧ w' = w.alloc (.cells #[.slice none 0 0] 115) := by
  go_enter Tryz.func36, Tryz.ntmps36
  go_wp2
  go_ret
  exact ⟨rfl, rfl⟩
theorem Len_P {N : Nat} {w : World} {P : Nat} {v : Value} {ms : List APkt} (h : PRep 115 N w P v ms) {k : Nat} (hk : ms.length = k) : Calls Tryz.prog 70 #[.pointer (some ⟨P, 0, none⟩)] w fun e w' => e = .returned (.int .i64 (k : Int)) ∧ w' = w := by
  obtain ⟨a, c, rfl⟩ := h.form
  have hc := h.can.1
  rw [hk] at hc
  clear h
  go_enter Tryz.func70, Tryz.ntmps70
  go_wp2
  go_ret
  exact ⟨rfl, rfl⟩
theorem full_P {N : Nat} {w : World} {P : Nat} {v : Value} {ms : List APkt} (h : PRep 115 N w P v ms) {k : Nat} (hk : ms.length = k) : Calls Tryz.prog 95 #[.pointer (some ⟨P, 0, none⟩)] w fun e w' => e = .returned (.bool (decide (40 ≤ k))) ∧ w' = w := by
  obtain ⟨a, c, rfl⟩ := h.form
  have hc := h.can.1
  rw [hk] at hc
  clear h
  have hd : decide ((40 : Int) ≤ (k : Int)) = decide (40 ≤ k) := by by_cases h : 40 ≤ k <;> simp [h] <;> omega
  go_enter Tryz.func95, Tryz.ntmps95
  go_wp2
  go_ret
  exact ⟨rfl, rfl⟩
theorem wrap_u (n : Int) : IntKind.u64.wrap n = n % 18446744073709551616 := by simp [IntKind.wrap, IntKind.bits, IntKind.signed]
theorem rnd_val (n : Int) {k : Nat} (hk : 0 < k) (h40 : k ≤ 40) : wrap64 (Int.tmod (IntKind.u64.wrap n) (IntKind.u64.wrap (k : Int))) = (rnd n k : Int) := by
  have h1 : IntKind.u64.wrap (k : Int) = k := by rw [wrap_u]; omega
  have h0 : 0 ≤ IntKind.u64.wrap n := by rw [wrap_u]; omega
  have hm : Int.tmod (IntKind.u64.wrap n) (k : Int) = (rnd n k : Int) := by
    rw [Int.tmod_eq_emod_of_nonneg h0]
    unfold rnd
    have : (0 : Int) ≤ IntKind.u64.wrap n % (k : Int) := Int.emod_nonneg _ (by omega)
    omega
  have hlt := rnd_lt n hk
  rw [h1, hm]
  unfold wrap64
  omega

end Go.Proofs.YtmbhbnoifimeaabGreat
