/- Texts joined: Si Sj Sk Sl. -/
import Derived.Test.YtlndphpidkacgaaJ1
import Derived.Test.YtlndphpidkacgaaWo
import Derived.BigRegion
import Derived.Laws.Rows
import Derived.Laws.Tables
/- The store in memory: New, bytes.Clone, Log, Last. -/
namespace Go.Proofs.Ytlndphpidkacgaa
open Go.RowKit
set_option linter.unusedSimpArgs false
set_option linter.unusedVariables false

def sCells (B : Nat) (lv : Value) (f0 f1 f2 : ARec) : List Value := [.pointer (some ⟨B, 0, none⟩), lv] ++ rcells f0 ++ rcells f1 ++ rcells f2

/-- A store at block S: its files at B, its log lv. -/
structure SRep (N : Nat) (w : World) (S B : Nat) (own : List Nat) (lv : Value) (L : List ARec) : Prop where
  new : N ≤ S
  blk : ∃ C : Array Value, w.heap[S]? = some (.cells C 73 (0, 0)) ∧ C.toList = sCells B lv (lastR L 0) (lastR L 1) (lastR L 2)
  files : OObj N w B own (behind L)
  log : BRow w N lv (logB L)
  good : Good L
  sB : S ∉ own
  sL : lv.ownBlock ≠ some S
  lB : ∀ k, lv.ownBlock = some k → k ∉ own
def sown (S : Nat) (own : List Nat) (lv : Value) : List Nat := S :: (lv.ownBlock.toList ++ own)

theorem SRep.lt {N : Nat} {w : World} {S B : Nat} {own : List Nat} {lv : Value} {L : List ARec} (h : SRep N w S B own lv L) : S < w.heap.size := by
  obtain ⟨C, hC, _⟩ := h.blk
  exact (Array.getElem?_eq_some_iff.1 hC).1
theorem SRep.at {N : Nat} {w : World} {S B : Nat} {own : List Nat} {lv : Value} {L : List ARec} (h : SRep N w S B own lv L) (j : Nat) : w.cell? ⟨S, j, none⟩ = (sCells B lv (lastR L 0) (lastR L 1) (lastR L 2))[j]? ∧ w.frozen? ⟨S, j, none⟩ = false := by
  obtain ⟨C, hC, hl⟩ := h.blk
  refine ⟨?_, frozen_of_row w S j _ _ hC⟩
  rw [cell_of_row w S _ _ _ _ hC, ← hl, Array.getElem?_toList]
theorem SRep.ptr {N : Nat} {w : World} {S B : Nat} {own : List Nat} {lv : Value} {L : List ARec} (h : SRep N w S B own lv L) : w.cell? ⟨S, 0, none⟩ = some (.pointer (some ⟨B, 0, none⟩)) := (h.at 0).1
theorem SRep.lg {N : Nat} {w : World} {S B : Nat} {own : List Nat} {lv : Value} {L : List ARec} (h : SRep N w S B own lv L) : w.cell? ⟨S, 1, none⟩ = some lv := (h.at 1).1
theorem SRep.last {N : Nat} {w : World} {S B : Nat} {own : List Nat} {lv : Value} {L : List ARec} (h : SRep N w S B own lv L) (c : Nat) (hc : c < 3) : RecAt w S (2 + c * 8) (lastR L c) := by
  match c, hc with
  | 0, _ => exact ⟨(h.at 2).1, (h.at 3).1, (h.at 4).1, (h.at 5).1, (h.at 6).1, (h.at 7).1, (h.at 8).1, (h.at 9).1⟩
  | 1, _ => exact ⟨(h.at 10).1, (h.at 11).1, (h.at 12).1, (h.at 13).1, (h.at 14).1, (h.at 15).1, (h.at 16).1, (h.at 17).1⟩
  | 2, _ => exact ⟨(h.at 18).1, (h.at 19).1, (h.at 20).1, (h.at 21).1, (h.at 22).1, (h.at 23).1, (h.at 24).1, (h.at 25).1⟩
theorem SRep.below {N : Nat} {w w' : World} {S B : Nat} {own : List Nat} {lv : Value} {L : List ARec} (h : SRep N w S B own lv L) (hb : Below w.heap.size w w') : SRep N w' S B own lv L := by
  obtain ⟨C, hC, hl⟩ := h.blk
  exact ⟨h.new, ⟨C, (hb.block S h.lt).trans hC, hl⟩, ⟨h.files.rep.below hb, h.files.inv, h.files.own⟩, h.log.below hb, h.good, h.sB, h.sL, h.lB⟩

set_option maxRecDepth 100000 in
/-- Bytes copied. -/
theorem Clone_none (c : Nat) (w : World) : Calls Try.prog 70 #[.slice none 0 0] w fun e w' => e = .returned (.slice none 0 0) ∧ w' = w := by
  have heq : ∀ W, (binOp .eql 48 (.slice none 0 0) (.slice none 0 0)).run Try.prog W = .ok (.bool true) W := fun W => by kernel_rfl
  go_enter Try.func70, Try.ntmps70
  go_wp2
  go_ret
  exact ⟨rfl, rfl⟩
set_option maxRecDepth 100000 in
set_option maxHeartbeats 2000000 in
theorem Clone_some (A : Addr) (n c : Nat) (bs : List UInt8) (w : World) (hb : ByAt w (some A) bs) (hn : bs.length = n) (hm : n ≤ 1000000) :
    Calls Try.prog 70 #[.slice (some A) n c] w fun e w' => ∃ a c', e = .returned (.slice a n c') ∧ BRow w' w.heap.size (.slice a n c') bs ∧ Below w.heap.size w w' := by
  have HR0 : Hid (BRow (w.alloc (.cells #[] 5)) w.heap.size (.slice (some ⟨w.heap.size, 0, none⟩) 0 0) []) := World.ownsRow_lit w #[] (base := w.heap.size) (e := 5) (size := 1) 0 (Nat.le_refl _) (by unfold maxLen; omega) rfl
  have hB : Below w.heap.size w (w.alloc (.cells #[] 5)) := (Below.refl _ _).alloc (Nat.le_refl _) _
  have HL := hide ((hb.below hB).lies (cap := c) hn (fun h => by cases h))
  have HB := hide hB
  clear hb hB
  have heq : ∀ W, (binOp .eql 48 (.slice (some A) n c) (.slice none 0 0)).run Try.prog W = .ok (.bool false) W := fun W => by kernel_rfl
  go_enter Try.func70, Try.ntmps70
  go_wp2_with (at_builtin; refine wpList_bytes _ rfl _ _ rfl w.heap.size (.slice (some ⟨w.heap.size, 0, none⟩) 0 0) [] rfl (unhide HR0) (.slice (some A) n c) n bs rfl hn (unhide HL) (by simp; omega) (by simp) ?_; intro ad c2 w2 ho2 hg2; simp only [List.length_nil, Nat.zero_add, List.nil_append] at ho2)
  have HO := hide ho2
  have HB2 := hide ((unhide HB).grown hg2 (unhide HB).size (fun j hj => ((unhide HR0).lt j hj).1))
  clear ho2 hg2
  go_wp2
  go_ret
  exact ⟨ad, c2, by simp, unhide HO, unhide HB2⟩
theorem Clone_by (a : Option Addr) (n c : Nat) (bs : List UInt8) (w : World) (hb : ByAt w a bs) (hn : bs.length = n) (hm : n ≤ 1000000) (hnil : a = none → n = 0 ∧ c = 0) :
    Calls Try.prog 70 #[.slice a n c] w fun e w' => ∃ a c', e = .returned (.slice a n c') ∧ BRow w' w.heap.size (.slice a n c') bs ∧ Below w.heap.size w w' := by
  cases a with
  | none =>
    obtain ⟨rfl, rfl⟩ := hnil rfl
    refine (Clone_none 0 w).mono ?_
    rintro e w' ⟨rfl, rfl⟩
    rw [List.length_eq_zero_iff.1 hn]
    exact ⟨none, 0, rfl, BRow.nil _ _, Below.refl _ _⟩
  | some A => exact Clone_some A n c bs w hb hn hm
/-- Bytes of a row lie there. -/
theorem BRow.by {w : World} {N n c : Nat} {a : Option Addr} {bs : List UInt8} (h : BRow w N (.slice a n c) bs) (hn : bs.length = n) : ByAt w a bs ∧ (a = none → n = 0 ∧ c = 0) ∧ n ≤ c := by
  have h' := h
  unfold BRow at h'
  rw [hn] at h'
  refine ⟨fun h0 => ?_, fun e => ?_, row_cap h'⟩
  · obtain ⟨g, rfl, _⟩ := h.form h0
    exact ⟨g, 0, rfl, fun j x hx => h.cells j x hx⟩
  · subst e
    exact row_none h'

set_option maxRecDepth 100000 in
set_option maxHeartbeats 2000000 in
theorem Log_any {N : Nat} {w : World} {S B : Nat} {own : List Nat} {lv : Value} {L : List ARec} (h : SRep N w S B own lv L) (hs : (logB L).length ≤ 1000000) :
    Calls Try.prog 45 #[.pointer (some ⟨S, 0, none⟩)] w fun e w' => ∃ a c', e = .returned (.slice a (logB L).length c') ∧ BRow w' w.heap.size (.slice a (logB L).length c') (logB L) ∧ Below w.heap.size w w' := by
  obtain ⟨n, hn⟩ : ∃ n, (logB L).length = n := ⟨_, rfl⟩
  have hl := h.log
  obtain ⟨a, c, rfl⟩ := row_form hl
  have hc := h.lg
  rw [hn] at hl hc hs ⊢
  obtain ⟨h1, h2, _⟩ := hl.by hn
  have HC := hide (Clone_by a n c (logB L) w h1 hn hs h2)
  clear h hl h1 h2
  go_enter Try.func45, Try.ntmps45
  go_wp2_with fail
  refine (unhide HC).mono ?_
  rintro e w2 ⟨a2, c2, rfl, ho, hb⟩
  have HO := hide ho
  have HB := hide hb
  clear ho hb
  go_wp2
  go_ret
  exact ⟨a2, c2, rfl, unhide HO, unhide HB⟩

set_option maxRecDepth 100000 in
set_option maxHeartbeats 2000000 in
theorem SLast_any {N : Nat} {w : World} {S B : Nat} {own : List Nat} {lv : Value} {L : List ARec} (h : SRep N w S B own lv L) (client : Int) :
    Calls Try.prog 51 #[.pointer (some ⟨S, 0, none⟩), .int .i64 client] w fun e w' => e = .returned (.int .i64 (if client < 0 ∨ 2 < client then 0 else (lastR L client).no)) ∧ w' = w := by
  by_cases h1 : client < 0
  · rw [if_pos (by omega)]
    go_enter Try.func51, Try.ntmps51
    go_wp2
    go_ret
    exact ⟨rfl, rfl⟩
  by_cases h2 : 3 ≤ client
  · rw [if_pos (by omega)]
    go_enter Try.func51, Try.ntmps51
    go_wp2
    go_ret
    exact ⟨rfl, rfl⟩
  rw [if_neg (by omega)]
  obtain ⟨c, rfl⟩ : ∃ c : Nat, client = (c : Int) := ⟨client.toNat, by omega⟩
  have hx := (h.last c (by omega)).x1
  generalize (lastR L (c : Int)).no = m at hx ⊢
  have hc3 : (c : Int) < 3 := by omega
  clear h h2
  go_enter Try.func51, Try.ntmps51
  go_wp2
  go_ret
  exact ⟨rfl, rfl⟩

set_option maxRecDepth 100000 in
set_option maxHeartbeats 2000000 in
theorem SNew_any (w : World) : Calls Try.prog 47 #[] w fun e w' => ∃ S B own lv, e = .returned (.pointer (some ⟨S, 0, none⟩)) ∧ SRep w.heap.size w' S B own lv [] ∧ Below w.heap.size w w' := by
  have HN := hide (fun W => New_any W)
  have HO := hide (New_obj w)
  go_enter Try.func47, Try.ntmps47
  go_wp2_with fail
  refine ((unhide HN) _).mono ?_
  rintro e w1 ⟨rfl, rfl⟩
  have HR : Hid (SRep w.heap.size ((w.alloc (.cells #[.slice none 0 0] 95)).alloc (.cells #[.pointer (some ⟨w.heap.size, 0, none⟩), .slice none 0 0, .int .i64 0, .int .i64 0, .int .i64 0, .string ⟨#[]⟩, .string ⟨#[]⟩, .string ⟨#[]⟩, .int .i64 0, .string ⟨#[]⟩, .int .i64 0, .int .i64 0, .int .i64 0, .string ⟨#[]⟩, .string ⟨#[]⟩, .string ⟨#[]⟩, .int .i64 0, .string ⟨#[]⟩, .int .i64 0, .int .i64 0, .int .i64 0, .string ⟨#[]⟩, .string ⟨#[]⟩, .string ⟨#[]⟩, .int .i64 0, .string ⟨#[]⟩] 73)) (w.heap.size + 1) w.heap.size [w.heap.size] (.slice none 0 0) []) := by
    have h := heap_alloc_new (w.alloc (.cells #[.slice none 0 0] 95)) (.cells #[.pointer (some ⟨w.heap.size, 0, none⟩), .slice none 0 0, .int .i64 0, .int .i64 0, .int .i64 0, .string ⟨#[]⟩, .string ⟨#[]⟩, .string ⟨#[]⟩, .int .i64 0, .string ⟨#[]⟩, .int .i64 0, .int .i64 0, .int .i64 0, .string ⟨#[]⟩, .string ⟨#[]⟩, .string ⟨#[]⟩, .int .i64 0, .string ⟨#[]⟩, .int .i64 0, .int .i64 0, .int .i64 0, .string ⟨#[]⟩, .string ⟨#[]⟩, .string ⟨#[]⟩, .int .i64 0, .string ⟨#[]⟩] 73)
    rw [show (w.alloc (.cells #[.slice none 0 0] 95)).heap.size = w.heap.size + 1 by simp] at h
    have hb : Below (w.alloc (.cells #[.slice none 0 0] 95)).heap.size (w.alloc (.cells #[.slice none 0 0] 95)) ((w.alloc (.cells #[.slice none 0 0] 95)).alloc (.cells #[.pointer (some ⟨w.heap.size, 0, none⟩), .slice none 0 0, .int .i64 0, .int .i64 0, .int .i64 0, .string ⟨#[]⟩, .string ⟨#[]⟩, .string ⟨#[]⟩, .int .i64 0, .string ⟨#[]⟩, .int .i64 0, .int .i64 0, .int .i64 0, .string ⟨#[]⟩, .string ⟨#[]⟩, .string ⟨#[]⟩, .int .i64 0, .string ⟨#[]⟩, .int .i64 0, .int .i64 0, .int .i64 0, .string ⟨#[]⟩, .string ⟨#[]⟩, .string ⟨#[]⟩, .int .i64 0, .string ⟨#[]⟩] 73)) := (Below.refl _ _).alloc (Nat.le_refl _) _
    exact ⟨by omega, ⟨_, h, rfl⟩, ⟨(unhide HO).rep.below hb, (unhide HO).inv, (unhide HO).own⟩, BRow.nil _ _, Good.nil, by simp, by simp [Value.ownBlock], by simp [Value.ownBlock]⟩
  have HB := hide (((Below.refl w.heap.size w).alloc (Nat.le_refl _) (.cells #[.slice none 0 0] 95)).alloc (by simp) (.cells #[.pointer (some ⟨w.heap.size, 0, none⟩), .slice none 0 0, .int .i64 0, .int .i64 0, .int .i64 0, .string ⟨#[]⟩, .string ⟨#[]⟩, .string ⟨#[]⟩, .int .i64 0, .string ⟨#[]⟩, .int .i64 0, .int .i64 0, .int .i64 0, .string ⟨#[]⟩, .string ⟨#[]⟩, .string ⟨#[]⟩, .int .i64 0, .string ⟨#[]⟩, .int .i64 0, .int .i64 0, .int .i64 0, .string ⟨#[]⟩, .string ⟨#[]⟩, .string ⟨#[]⟩, .int .i64 0, .string ⟨#[]⟩] 73))
  go_wp2
  go_ret
  exact ⟨_, _, _, _, rfl, unhide HR, unhide HB⟩

end Go.Proofs.Ytlndphpidkacgaa

/- The store without its log: a record done. -/
namespace Go.Proofs.Ytlndphpidkacgaa
open Go.RowKit
set_option linter.unusedSimpArgs false
set_option linter.unusedVariables false

/-- A store at block S: its files at B and its last records; whatever its log is. -/
structure SCore (N : Nat) (w : World) (S B : Nat) (own : List Nat) (lv : Value) (L : List ARec) : Prop where
  new : N ≤ S
  blk : ∃ C : Array Value, w.heap[S]? = some (.cells C 73 (0, 0)) ∧ C.toList = sCells B lv (lastR L 0) (lastR L 1) (lastR L 2)
  files : OObj N w B own (behind L)
  sB : S ∉ own
theorem SRep.core {N : Nat} {w : World} {S B : Nat} {own : List Nat} {lv : Value} {L : List ARec} (h : SRep N w S B own lv L) : SCore N w S B own lv L := ⟨h.new, h.blk, h.files, h.sB⟩
theorem SCore.lt {N : Nat} {w : World} {S B : Nat} {own : List Nat} {lv : Value} {L : List ARec} (h : SCore N w S B own lv L) : S < w.heap.size := by
  obtain ⟨C, hC, _⟩ := h.blk
  exact (Array.getElem?_eq_some_iff.1 hC).1
theorem SCore.at {N : Nat} {w : World} {S B : Nat} {own : List Nat} {lv : Value} {L : List ARec} (h : SCore N w S B own lv L) (j : Nat) : w.cell? ⟨S, j, none⟩ = (sCells B lv (lastR L 0) (lastR L 1) (lastR L 2))[j]? ∧ w.frozen? ⟨S, j, none⟩ = false := by
  obtain ⟨C, hC, hl⟩ := h.blk
  refine ⟨?_, frozen_of_row w S j _ _ hC⟩
  rw [cell_of_row w S _ _ _ _ hC, ← hl, Array.getElem?_toList]
theorem SCore.ptr {N : Nat} {w : World} {S B : Nat} {own : List Nat} {lv : Value} {L : List ARec} (h : SCore N w S B own lv L) : w.cell? ⟨S, 0, none⟩ = some (.pointer (some ⟨B, 0, none⟩)) := (h.at 0).1
theorem SCore.lg {N : Nat} {w : World} {S B : Nat} {own : List Nat} {lv : Value} {L : List ARec} (h : SCore N w S B own lv L) : w.cell? ⟨S, 1, none⟩ = some lv := (h.at 1).1
theorem SCore.last {N : Nat} {w : World} {S B : Nat} {own : List Nat} {lv : Value} {L : List ARec} (h : SCore N w S B own lv L) (c : Nat) (hc : c < 3) : RecAt w S (2 + c * 8) (lastR L c) := by
  match c, hc with
  | 0, _ => exact ⟨(h.at 2).1, (h.at 3).1, (h.at 4).1, (h.at 5).1, (h.at 6).1, (h.at 7).1, (h.at 8).1, (h.at 9).1⟩
  | 1, _ => exact ⟨(h.at 10).1, (h.at 11).1, (h.at 12).1, (h.at 13).1, (h.at 14).1, (h.at 15).1, (h.at 16).1, (h.at 17).1⟩
  | 2, _ => exact ⟨(h.at 18).1, (h.at 19).1, (h.at 20).1, (h.at 21).1, (h.at 22).1, (h.at 23).1, (h.at 24).1, (h.at 25).1⟩
theorem SCore.below {N : Nat} {w w' : World} {S B : Nat} {own : List Nat} {lv : Value} {L : List ARec} (h : SCore N w S B own lv L) (hb : Below w.heap.size w w') : SCore N w' S B own lv L := by
  obtain ⟨C, hC, hl⟩ := h.blk
  exact ⟨h.new, ⟨C, (hb.block S h.lt).trans hC, hl⟩, ⟨h.files.rep.below hb, h.files.inv, h.files.own⟩, h.sB⟩
theorem SCore.base {N M : Nat} {w : World} {S B : Nat} {own : List Nat} {lv : Value} {L : List ARec} (h : SCore M w S B own lv L) (hN : N ≤ M) : SCore N w S B own lv L :=
  ⟨Nat.le_trans hN h.new, h.blk, ⟨h.files.rep, h.files.inv, fun k hk => Nat.le_trans hN (h.files.own k hk)⟩, h.sB⟩

/-- Eight cells written, from o on. -/
def set8o (w : World) (b o : Nat) (y0 y1 y2 y3 y4 y5 y6 y7 : Value) : World :=
  (((((((w.setCell ⟨b, o, none⟩ y0).setCell ⟨b, o + 1, none⟩ y1).setCell ⟨b, o + 2, none⟩ y2).setCell ⟨b, o + 3, none⟩ y3).setCell ⟨b, o + 4, none⟩ y4).setCell ⟨b, o + 5, none⟩ y5).setCell ⟨b, o + 6, none⟩ y6).setCell ⟨b, o + 7, none⟩ y7
theorem set_mid (A Z : List Value) (x0 x1 x2 x3 x4 x5 x6 x7 y0 y1 y2 y3 y4 y5 y6 y7 : Value) :
    ((((((((A ++ x0 :: x1 :: x2 :: x3 :: x4 :: x5 :: x6 :: x7 :: Z).set A.length y0).set (A.length + 1) y1).set (A.length + 2) y2).set (A.length + 3) y3).set (A.length + 4) y4).set (A.length + 5) y5).set (A.length + 6) y6).set (A.length + 7) y7 = A ++ y0 :: y1 :: y2 :: y3 :: y4 :: y5 :: y6 :: y7 :: Z := by
  induction A with
  | nil => rfl
  | cons a A ih =>
    simp only [List.cons_append, List.length_cons, show A.length + 1 + 1 = A.length + 1 + 1 from rfl, Nat.add_right_comm A.length 1, List.set_cons_succ]
    rw [ih]
theorem set8o_blk {w : World} {b o : Nat} {C : Array Value} {e : TypeId} (h : w.heap[b]? = some (.cells C e (0, 0))) (A Z : List Value) (x0 x1 x2 x3 x4 x5 x6 x7 : Value) (hC : C.toList = A ++ x0 :: x1 :: x2 :: x3 :: x4 :: x5 :: x6 :: x7 :: Z) (hA : A.length = o) (y0 y1 y2 y3 y4 y5 y6 y7 : Value) :
    ∃ C', (set8o w b o y0 y1 y2 y3 y4 y5 y6 y7).heap[b]? = some (.cells C' e (0, 0)) ∧ C'.toList = A ++ y0 :: y1 :: y2 :: y3 :: y4 :: y5 :: y6 :: y7 :: Z := by
  have h0 := heap_setCell_same h (o := o) y0
  have h1 := heap_setCell_same h0 (o := o + 1) y1
  have h2 := heap_setCell_same h1 (o := o + 2) y2
  have h3 := heap_setCell_same h2 (o := o + 3) y3
  have h4 := heap_setCell_same h3 (o := o + 4) y4
  have h5 := heap_setCell_same h4 (o := o + 5) y5
  have h6 := heap_setCell_same h5 (o := o + 6) y6
  have h7 := heap_setCell_same h6 (o := o + 7) y7
  refine ⟨_, h7, ?_⟩
  simp only [Array.toList_setIfInBounds, hC, ← hA]
  exact set_mid A Z x0 x1 x2 x3 x4 x5 x6 x7 y0 y1 y2 y3 y4 y5 y6 y7
theorem set8o_kept (w : World) (b o : Nat) (y0 y1 y2 y3 y4 y5 y6 y7 : Value) : Kept [b] w (set8o w b o y0 y1 y2 y3 y4 y5 y6 y7) := by
  have k : ∀ (w : World) (o : Nat) (y : Value), Kept [b] w (w.setCell ⟨b, o, none⟩ y) := fun w o y => kept_setCell [b] w b o y (by simp)
  have s : ∀ x, x ∈ [b] → x ∈ [b] ∨ w.heap.size ≤ x := fun x hx => .inl hx
  unfold set8o
  exact (((((((k _ _ _).trans (k _ _ _) s).trans (k _ _ _) s).trans (k _ _ _) s).trans (k _ _ _) s).trans (k _ _ _) s).trans (k _ _ _) s).trans (k _ _ _) s

/-- The last record of a client set: the records are those with it behind them. -/
theorem sCells_set (B : Nat) (lv : Value) (L : List ARec) (r : ARec) (c : Nat) (hc : c < 3) (hr : r.client = (c : Int)) :
    ∃ A Z, A.length = 2 + c * 8 ∧ sCells B lv (lastR L 0) (lastR L 1) (lastR L 2) = A ++ (rcells (lastR L c) ++ Z) ∧ sCells B lv (lastR (L ++ [r]) 0) (lastR (L ++ [r]) 1) (lastR (L ++ [r]) 2) = A ++ (rcells r ++ Z) := by
  simp only [lastR_snoc, hr]
  match c, hc with
  | 0, _ => exact ⟨[.pointer (some ⟨B, 0, none⟩), lv], rcells (lastR L 1) ++ rcells (lastR L 2), rfl, by simp [sCells], by simp [sCells]⟩
  | 1, _ => exact ⟨[.pointer (some ⟨B, 0, none⟩), lv] ++ rcells (lastR L 0), rcells (lastR L 2), rfl, by simp [sCells], by simp [sCells]⟩
  | 2, _ => exact ⟨[.pointer (some ⟨B, 0, none⟩), lv] ++ rcells (lastR L 0) ++ rcells (lastR L 1), [], rfl, by simp [sCells], by simp [sCells]⟩

theorem St.keptS {w w' : World} {B : Nat} {own own2 : List Nat} {st : List AFile} (h : St w B own st) (hk : Kept own2 w w') (hd : ∀ k, k ∈ own → k ∉ own2) : St w' B own st := by
  obtain ⟨v, fs, hr, rfl, rfl⟩ := h
  exact ⟨v, fs, hr.kept hk hd, rfl, rfl⟩
/-- A record done: by the files (from w to w1), then it is its client's last one. -/
theorem SCore.done {N : Nat} {w w1 : World} {S B : Nat} {own own1 : List Nat} {lv : Value} {L : List ARec} {r : ARec} {c : Nat} (h : SCore N w S B own lv L) (ho : OObj N w1 B own1 (aDo (behind L) r.call).st) (hn : Next N w w1 own own1) (hc : c < 3) (hr : r.client = (c : Int)) :
    SCore N (set8o w1 S (2 + c * 8) (.int .i64 r.client) (.int .i64 r.no) (.int .i64 r.call.kind) (.string r.call.name) (.string r.call.dst) (.string r.call.text) (.int .i64 r.code) (.string r.ans)) S B own1 lv (L ++ [r]) := by
  obtain ⟨C, hC, hl⟩ := h.blk
  obtain ⟨hs1, hs2⟩ := hn.keep S h.lt h.sB
  obtain ⟨A, Z, hA, e1, e2⟩ := sCells_set B lv L r c hc hr
  rw [e1] at hl
  obtain ⟨C', h1, h2⟩ := set8o_blk (hs2.trans hC) A Z _ _ _ _ _ _ _ _ hl hA (.int .i64 r.client) (.int .i64 r.no) (.int .i64 r.call.kind) (.string r.call.name) (.string r.call.dst) (.string r.call.text) (.int .i64 r.code) (.string r.ans)
  have hk := set8o_kept w1 S (2 + c * 8) (.int .i64 r.client) (.int .i64 r.no) (.int .i64 r.call.kind) (.string r.call.name) (.string r.call.dst) (.string r.call.text) (.int .i64 r.code) (.string r.ans)
  refine ⟨h.new, ⟨C', h1, by rw [h2, e2]; rfl⟩, ?_, hs1⟩
  rw [behind_snoc]
  exact ⟨ho.rep.keptS hk (by intro k hk1 hm; rw [List.mem_singleton.1 hm] at hk1; exact hs1 hk1), ho.inv, ho.own⟩

end Go.Proofs.Ytlndphpidkacgaa

/- The store: Open. -/
namespace Go.Proofs.Ytlndphpidkacgaa
open Go.RowKit
set_option linter.unusedSimpArgs false
set_option linter.unusedVariables false

/-- The bytes that were read are those of the records. -/
theorem allF_good : ∀ (f : Nat) (bs : List UInt8), bs.length < f → Good (allF f bs).1 ∧ bs.take (allF f bs).2 = logB (allF f bs).1 ∧ (allF f bs).2 = (logB (allF f bs).1).length ∧ (allF f bs).2 ≤ bs.length
  | 0, _, h => by omega
  | f + 1, bs, hf => by
    rw [allF]
    by_cases h : (decR bs).code ≠ 0
    · rw [if_pos h]; exact ⟨Good.nil, by simp [logB], by simp [logB], by simp⟩
    · have h0 : (decR bs).code = 0 := by simpa using h
      obtain ⟨e1, e2, e3, e4⟩ := decR_inv h0
      have h5 := (encL_le e1).1
      rw [if_neg h]
      have hn : (decR bs).n.toNat = (encL (decR bs).rcd).length := by rw [e2]; simp
      rw [hn]
      obtain ⟨i1, i2, i3, i4⟩ := allF_good f (bs.drop (encL (decR bs).rcd).length) (by rw [List.length_drop]; omega)
      dsimp only
      have hl : logB ((decR bs).rcd :: (allF f (bs.drop (encL (decR bs).rcd).length)).1) = encL (decR bs).rcd ++ logB (allF f (bs.drop (encL (decR bs).rcd).length)).1 := by simp [logB]
      refine ⟨fun r hr => ?_, ?_, ?_, ?_⟩
      · rcases List.mem_cons.1 hr with rfl | hr
        · exact e1
        · exact i1 r hr
      · rw [hl, ← i2, List.take_add, e3]
      · rw [hl, List.length_append, ← i3]
      · rw [List.length_drop] at i4; omega
theorem allR_good (bs : List UInt8) : Good (allR bs).1 ∧ bs.take (allR bs).2 = logB (allR bs).1 ∧ (allR bs).2 = (logB (allR bs).1).length ∧ (allR bs).2 ≤ bs.length := allF_good _ _ (by omega)

theorem SRep.base {N M : Nat} {w : World} {S B : Nat} {own : List Nat} {lv : Value} {L : List ARec} (h : SRep M w S B own lv L) (hN : N ≤ M) : SRep N w S B own lv L :=
  ⟨Nat.le_trans hN h.new, h.blk, ⟨h.files.rep, h.files.inv, fun k hk => Nat.le_trans hN (h.files.own k hk)⟩, ownsRow_base h.log hN, h.good, h.sB, h.sL, h.lB⟩
/-- Its log laid. -/
theorem SCore.setLog {N : Nat} {w : World} {S B : Nat} {own : List Nat} {lv lv' : Value} {L : List ARec} (h : SCore N w S B own lv L) (hl : BRow w N lv' (logB L)) (h1 : lv'.ownBlock ≠ some S) (h2 : ∀ k, lv'.ownBlock = some k → k ∉ own) (hg : Good L) :
    SRep N (w.setCell ⟨S, 1, none⟩ lv') S B own lv' L := by
  obtain ⟨C, hC, hl2⟩ := h.blk
  have hs := heap_setCell_same hC (o := 1) lv'
  have hk := kept_setCell [S] w S 1 lv' (by simp)
  refine ⟨h.new, ⟨_, hs, ?_⟩, ⟨h.files.rep.keptS hk (fun k hk1 hm => ?_), h.files.inv, h.files.own⟩, ?_, hg, h.sB, h1, h2⟩
  · rw [Array.toList_setIfInBounds, hl2]; rfl
  · rw [List.mem_singleton.1 hm] at hk1; exact h.sB hk1
  · exact ownsRow_same hl (fun j hj => hk.block j (hl.lt j hj).2 (fun hm => h1 (by rw [List.mem_singleton.1 hm] at hj; exact hj)))

set_option maxRecDepth 100000 in
set_option maxHeartbeats 8000000 in
theorem Open_any (a0 : Option Addr) (n cap : Nat) (bs : List UInt8) (w : World) (hb : ByAt w a0 bs) (hn : bs.length = n) (hcap : n ≤ cap) (hm : n ≤ 1000000) (hnil : a0 = none → n = 0 ∧ cap = 0) :
    Calls Try.prog 44 #[.slice a0 n cap] w fun e w' => ∃ S B own lv, e = .returned (.tuple #[.pointer (some ⟨S, 0, none⟩), .int .i64 ((n : Int) - ((allR bs).2 : Int))]) ∧ SRep w.heap.size w' S B own lv (allR bs).1 ∧ Below w.heap.size w w' := by
  obtain ⟨hg, ht, hk2, hkn⟩ := allR_good bs
  have hfew := allR_few bs
  have HAL := hide (All_by a0 n cap bs w hb hn hcap hm hnil)
  have HCL : Hid (∀ W, Below w.heap.size w W → Calls Try.prog 70 #[.slice a0 (allR bs).2 cap] W fun e w' => ∃ a c', e = .returned (.slice a (allR bs).2 c') ∧ BRow w' W.heap.size (.slice a (allR bs).2 c') (logB (allR bs).1) ∧ Below W.heap.size W w') := fun W hW => by
    rw [← ht]
    refine Clone_by a0 (allR bs).2 cap (bs.take (allR bs).2) W (fun h0 => ?_) (by rw [List.length_take]; omega) (by omega) (fun h => ?_)
    · obtain ⟨b, off, rfl, hc⟩ := (hb.below hW) (fun h1 => h0 (by rw [h1]; simp))
      refine ⟨b, off, rfl, fun j x hx => hc j x ?_⟩
      rw [List.getElem?_take] at hx
      split at hx
      · exact hx
      · cases hx
    · have := hnil h; omega
  generalize allR bs = al at *
  obtain ⟨rs, k⟩ := al
  dsimp only at *
  have HG := hide hg
  have HNW := hide (fun W => SNew_any W)
  have HK2 := hide hk2
  obtain ⟨m, hmm⟩ : ∃ m, rs.length = m := ⟨_, rfl⟩
  have hkc : (k : Int) ≤ (cap : Int) := by omega
  have hm5 : m ≤ 1000000 := by omega
  have hkn' : k ≤ n := by omega
  clear hb hn hnil hg ht hk2 hkn hfew
  go_enter Try.func44, Try.ntmps44
  go_wp2_with fail
  refine (unhide HAL).mono ?_
  rintro e w1 ⟨ga, ca, rfl, oa, b1⟩
  dsimp only
  rw [hmm] at oa ⊢
  have HRS := hide (recs_row oa hmm)
  have HB1 := hide b1
  have HRL : Hid (∀ b, (Value.slice ga m ca).ownBlock = some b → b < w1.heap.size) := fun b h => (oa.lt b h).2
  clear oa b1
  go_wp2_with fail
  refine ((unhide HNW) _).mono ?_
  rintro e w2 ⟨S, B, own0, lv0, rfl, hs2, b2⟩
  have HS2 := hide hs2.core
  have HB2 := hide b2
  clear hs2 b2
  go_wp2_with fail
  go_loopw [17, 8] (fun i _ wr => ∃ (q : Nat) (own : List Nat), q ≤ m ∧ i = .int .i64 (q : Int) ∧ Hid (SCore w1.heap.size wr S B own lv0 (rs.take q)) ∧ Hid (Below w1.heap.size w1 wr)) (fun i _ _ => m - (intOf i).toNat)
  case atStart => exact ⟨0, own0, Nat.zero_le _, rfl, hide (by rw [List.take_zero]; exact unhide HS2), unhide HB2⟩
  case round =>
    obtain ⟨q, own, hq, rfl, HS, HB⟩ := hrel
    by_cases hlt : (q : Int) < (m : Int)
    · obtain ⟨r, hr⟩ : ∃ r, rs[q]? = some r := ⟨_, List.getElem?_eq_getElem (by omega)⟩
      obtain ⟨b, off, rfl, hx⟩ := ((unhide HRS).below (unhide HB)).2 (by omega)
      obtain ⟨x0, x1, x2, x3, x4, x5, x6, x7⟩ := hx q r hr
      have hok := rec_ok ((unhide HG) r (List.mem_of_getElem? hr))
      obtain ⟨c, hc⟩ : ∃ c : Nat, r.client = (c : Int) := ⟨r.client.toNat, by have := hok.c0; omega⟩
      have hc3 : c < 3 := by have := hok.c1; omega
      have htk : rs.take (q + 1) = rs.take q ++ [r] := by rw [List.take_add_one, hr]; rfl
      have HDo : Hid (∀ W, Below wr.heap.size wr W → Calls Try.prog 20 #[.pointer (some ⟨B, 0, none⟩), .agg #[.int .i64 r.call.kind, .string r.call.name, .string r.call.dst, .string r.call.text]] W fun e w' => ∃ d u, e = .returned (.agg #[.int .i64 d, .string u]) ∧ ∃ own', OObj w1.heap.size w' B own' (aDo (behind (rs.take q)) r.call).st ∧ Next w1.heap.size W w' own own') := fun W hW => by
        have h := ((unhide HS).below hW).files
        refine (Do_obj r.call h (by have := hok.name; unfold maxLen; omega) (by have := hok.dst; unfold maxLen; omega) (by have := hok.text; unfold maxLen; omega)).mono ?_
        rintro e w' ⟨rfl, own', h1, h2⟩
        exact ⟨_, _, rfl, own', h1, h2⟩
      have HDN : Hid (∀ W w' own', Below wr.heap.size wr W → OObj w1.heap.size w' B own' (aDo (behind (rs.take q)) r.call).st → Next w1.heap.size W w' own own' → SCore w1.heap.size (set8o w' S (2 + c * 8) (.int .i64 r.client) (.int .i64 r.no) (.int .i64 r.call.kind) (.string r.call.name) (.string r.call.dst) (.string r.call.text) (.int .i64 r.code) (.string r.ans)) S B own' lv0 (rs.take (q + 1)) ∧ ∀ j, j < 26 → (∃ v, w'.cell? ⟨S, j, none⟩ = some v) ∧ w'.frozen? ⟨S, j, none⟩ = false) := fun W w' own' hW ho hn => by
        have h := (unhide HS).below hW
        refine ⟨by rw [htk]; exact h.done ho hn hc3 hc, fun j hj => ?_⟩
        obtain ⟨_, hs2⟩ := hn.keep S h.lt h.sB
        obtain ⟨C, hC, hl⟩ := h.blk
        have h26 : C.size = 26 := by rw [← Array.length_toList, hl]; rfl
        refine ⟨⟨C[j], ?_⟩, frozen_of_row w' S j _ _ (hs2.trans hC)⟩
        rw [cell_of_row w' S _ _ _ _ (hs2.trans hC)]
        exact Array.getElem?_eq_getElem (by omega)
      have hptr := (unhide HS).ptr
      have hSl := (unhide HS).lt
      have hown : ∀ j, j ∈ own → j < wr.heap.size := fun j hj => (unhide HS).files.rep.lt hj
      have HOW := hide hown
      clear hx hr hok htk hown
      obtain ⟨rc, rn, ⟨rk, ra, rb, rt⟩, rd, ru⟩ := r
      dsimp only at *
      subst hc
      have HBW : Hid (Below wr.heap.size wr (wr.alloc (.cells #[.int .i64 (c : Int), .int .i64 rn, .int .i64 rk, .string ra, .string rb, .string rt, .int .i64 rd, .string ru] 47)).drew) := ((Below.refl _ _).alloc (Nat.le_refl _) _).drew
      have hRn : wr.heap.size ∉ own := fun h => by have := (unhide HOW) _ h; omega
      go_wp2_with fail
      go_region_law (first | (go_simp; go_at_call 20; refine ((unhide HDo) _ (unhide HBW)).mono ?_; rintro e w3 ⟨d, u, rfl, own3, ho3, hn3⟩; have HDN3 := hide ((unhide HDN) _ w3 own3 (unhide HBW) ho3 hn3); have HBN3 := hide hn3.below; have hr3 := (hn3.keep wr.heap.size (by show _ < (wr.alloc _).heap.size; simp) hRn).2.trans (heap_alloc_new wr (.cells #[.int .i64 (c : Int), .int .i64 rn, .int .i64 rk, .string ra, .string rb, .string rt, .int .i64 rd, .string ru] 47)); have HR3 := hide hr3; clear ho3 hn3 hr3) | fail)
      all_goals
        obtain ⟨⟨y0, y1, y2, y3⟩, ⟨y4, y5, y6, y7⟩, _⟩ := eight (unhide HR3)
        obtain ⟨⟨v0, f0⟩, g0⟩ := (unhide HDN3).2 (2 + c * 8) (by omega)
        obtain ⟨⟨v1, f1⟩, g1⟩ := (unhide HDN3).2 (2 + c * 8 + 1) (by omega)
        obtain ⟨⟨v2, f2⟩, g2⟩ := (unhide HDN3).2 (2 + c * 8 + 2) (by omega)
        obtain ⟨⟨v3, f3⟩, g3⟩ := (unhide HDN3).2 (2 + c * 8 + 3) (by omega)
        obtain ⟨⟨v4, f4⟩, g4⟩ := (unhide HDN3).2 (2 + c * 8 + 4) (by omega)
        obtain ⟨⟨v5, f5⟩, g5⟩ := (unhide HDN3).2 (2 + c * 8 + 5) (by omega)
        obtain ⟨⟨v6, f6⟩, g6⟩ := (unhide HDN3).2 (2 + c * 8 + 6) (by omega)
        obtain ⟨⟨v7, f7⟩, g7⟩ := (unhide HDN3).2 (2 + c * 8 + 7) (by omega)
        have hci : (c : Int) < 3 := by omega
        have hRS : wr.heap.size ≠ S := by omega
        have hSR : S ≠ wr.heap.size := by omega
        go_wp2_with fail
        go_region
        go_wp2
        have hk8 := set8o_kept w3 S (2 + c * 8) (.int .i64 (c : Int)) (.int .i64 rn) (.int .i64 rk) (.string ra) (.string rb) (.string rt) (.int .i64 rd) (.string ru)
        have hb3 : Below w1.heap.size w1 w3 := ((unhide HB).alloc (unhide HB).size (.cells #[.int .i64 (c : Int), .int .i64 rn, .int .i64 rk, .string ra, .string rb, .string rt, .int .i64 rd, .string ru] 47)).drew.trans (unhide HBN3)
        have HB4 := hide (hb3.trans (hk8.below hb3.size (fun j hj => by rw [List.mem_singleton.1 hj]; exact (unhide HS).new))).drew
        have HS4 := hide (((unhide HDN3).1).below ((Below.refl _ _).drew))
        clear hk8 hb3 y0 y1 y2 y3 y4 y5 y6 y7 f0 f1 f2 f3 f4 f5 f6 f7 g0 g1 g2 g3 g4 g5 g6 g7
        go_roundw
        case rel => exact ⟨q + 1, own3, by omega, by go_num, unhide HS4, unhide HB4⟩
        case measure => simp [intOf]; omega
    · obtain rfl : q = m := by omega
      have hfull : rs.take q = rs := List.take_of_length_le (by omega)
      rw [hfull] at HS
      have hBw := (unhide HB1).trans ((unhide HB).mono (unhide HB1).size)
      have HCL2 := hide ((unhide HCL) wr hBw)
      have HBW := hide hBw
      clear hfull hBw
      go_wp2_with fail
      refine (unhide HCL2).mono ?_
      rintro e w4 ⟨al, cl, rfl, ol, b4⟩
      have hs4 := (unhide HS).below b4
      have hc1 := (hs4.at 1).1
      have hc2 := (hs4.at 1).2
      have hR := hs4.setLog (ownsRow_base ol (unhide HB).size) (fun e => by have := (ol.lt S e).1; have := (unhide HS).lt; omega) (fun j hj hm => by have := (ol.lt j hj).1; have := (unhide HS).files.rep.lt hm; omega) (unhide HG)
      have HR := hide (hR.base (unhide HB1).size)
      have hb4' := (unhide HBW).trans (b4.mono (unhide HBW).size)
      have hkS := kept_setCell [S] w4 S 1 (.slice al k cl) (by simp)
      have HB5 := hide (hb4'.trans (hkS.below hb4'.size (fun j hj => by rw [List.mem_singleton.1 hj]; exact Nat.le_trans (unhide HB1).size (unhide HS).new)))
      have hsub : IntKind.i64.wrap ((n : Int) - (k : Int)) = (n : Int) - (k : Int) := by rw [IntKind.wrap_i64]; omega
      clear ol b4 hs4 hR hb4' hkS
      go_wp2
      go_ret2
      exact ⟨S, B, own, _, rfl, unhide HR, unhide HB5⟩

end Go.Proofs.Ytlndphpidkacgaa

/- The store: Crash. -/
namespace Go.Proofs.Ytlndphpidkacgaa
open Go.RowKit
set_option linter.unusedSimpArgs false
set_option linter.unusedVariables false

/-- From w to w' the store at S has come to L'. -/
def STurned (N : Nat) (w : World) (S : Nat) (own : List Nat) (lv : Value) (w' : World) (L' : List ARec) : Prop :=
  ∃ B' own' lv', SRep N w' S B' own' lv' L' ∧ Next N w w' (sown S own lv) (sown S own' lv')

theorem sown_ge {N : Nat} {w : World} {S B : Nat} {own : List Nat} {lv : Value} {L : List ARec} (h : SRep N w S B own lv L) : ∀ k, k ∈ sown S own lv → N ≤ k ∧ k < w.heap.size := fun k hk => by
  rcases List.mem_cons.1 hk with rfl | hk
  · exact ⟨h.new, h.lt⟩
  rcases List.mem_append.1 hk with hk | hk
  · exact h.log.lt k (by simpa using hk)
  · exact ⟨h.files.own k hk, h.files.rep.lt hk⟩

/-- A store's block laid over by another one's: all that is its own is the other's. -/
theorem SRep.over {N : Nat} {w w2 w3 : World} {S B S2 B2 : Nat} {own own2 : List Nat} {lv lv2 : Value} {L L2 : List ARec} {C : Array Value} (h : SRep N w S B own lv L) (hb : Below w.heap.size w w2) (h2 : SRep w.heap.size w2 S2 B2 own2 lv2 L2)
    (hC : C.toList = sCells B2 lv2 (lastR L2 0) (lastR L2 1) (lastR L2 2)) (h3 : w3.heap[S]? = some (.cells C 73 (0, 0))) (hk : Kept [S] w2 w3) (hN : N ≤ w.heap.size) : STurned N w S own lv w3 L2 := by
  have hS := h.lt
  have n1 : S ∉ own2 := fun hm => by have := h2.files.own S hm; omega
  have n2 : lv2.ownBlock ≠ some S := fun e => by have := (h2.log.lt S e).1; omega
  refine ⟨B2, own2, lv2, ⟨h.new, ⟨C, h3, hC⟩, ⟨h2.files.rep.keptS hk (fun k hk1 hm => by rw [List.mem_singleton.1 hm] at hk1; exact n1 hk1), h2.files.inv, fun k hk => Nat.le_trans hN (h2.files.own k hk)⟩, ?_, h2.good, n1, n2, h2.lB⟩, ?_, fun b hb1 hb2 => ⟨fun hm => ?_, ?_⟩⟩
  · exact ownsRow_base (ownsRow_same h2.log (fun j hj => hk.block j (h2.log.lt j hj).2 (fun hm => n2 (by rw [List.mem_singleton.1 hm] at hj; exact hj)))) hN
  · exact (hb.mono hN).trans (hk.below (Nat.le_trans hN hb.size) (fun j hj => by rw [List.mem_singleton.1 hj]; exact h.new))
  · have hbS : b ≠ S := fun e => hb2 (by rw [e]; exact List.mem_cons_self)
    rcases List.mem_cons.1 hm with h4 | h4
    · exact hbS h4
    rcases List.mem_append.1 h4 with h4 | h4
    · have := (h2.log.lt b (by simpa using h4)).1; omega
    · have := h2.files.own b h4; omega
  · have hbS : b ≠ S := fun e => hb2 (by rw [e]; exact List.mem_cons_self)
    exact (hk.block b (Nat.lt_of_lt_of_le hb1 hb.size) (by simpa using hbS)).trans (hb.block b hb1)

theorem info2073 : (Try.prog.info? 73).map (·.size) = some 26 := by kernel_rfl

set_option maxRecDepth 100000 in
set_option maxHeartbeats 4000000 in
theorem Crash_any {N : Nat} {w : World} {S B : Nat} {own : List Nat} {lv : Value} {L : List ARec} (h : SRep N w S B own lv L) (hs : (logB L).length ≤ 1000000) (hN : N ≤ w.heap.size) :
    Calls Try.prog 53 #[.pointer (some ⟨S, 0, none⟩)] w fun e w' => e = .returned (.tuple #[]) ∧ STurned N w S own lv w' L := by
  obtain ⟨n, hn⟩ : ∃ n, (logB L).length = n := ⟨_, rfl⟩
  have hl := h.log
  obtain ⟨a, c, rfl⟩ := row_form hl
  have hc := h.lg
  rw [hn] at hl hc hs
  obtain ⟨h1, h2, h3⟩ := hl.by hn
  have HOP := hide (Open_any a n c (logB L) w h1 hn h3 hs h2)
  rw [allR_log h.good] at HOP
  have HH := hide h
  rw [hn] at HH
  have hSl := h.lt
  clear h hl h1 h2
  go_enter Try.func53, Try.ntmps53
  go_wp2_with fail
  refine (unhide HOP).mono ?_
  rintro e w2 ⟨S2, B2, own2, lv2, rfl, hs2, b2⟩
  dsimp only at hs2 ⊢
  obtain ⟨C2, hC2, hl2⟩ := hs2.blk
  obtain ⟨C, hC, hl⟩ := (unhide HH).blk
  have hSb := (b2.block S hSl).trans hC
  have h26 : C2.size = 26 := by rw [← Array.length_toList, hl2]; rfl
  have h26' : C.size = 26 := by rw [← Array.length_toList, hl]; rfl
  have hone : C2.all (·.oneCell') = true := by
    rw [Array.all_eq_true_iff_forall_mem]
    intro v hv
    have hv' : v ∈ C2.toList := by simpa using hv
    rw [hl2] at hv'
    obtain ⟨al, cl, rfl⟩ := row_form hs2.log
    simp [sCells, rcells] at hv'
    rcases hv' with rfl | rfl | rfl | rfl | rfl | rfl | rfl | rfl | rfl | rfl | rfl | rfl | rfl | rfl | rfl | rfl | rfl | rfl | rfl | rfl | rfl | rfl | rfl | rfl | rfl | rfl <;> rfl
  have HS2 := hide hs2
  have HB2 := hide b2
  have HL2 := hide hl2
  clear hs2 b2 hl hl2
  go_wp2_with (first
    | (refine wpList_load_row rfl 73 _ rfl S2 rfl 73 C2 (0, 0) _ hC2 Try.underlying73 rfl (by rw [h26]; exact info2073) ?_)
    | (refine wpList_store_row rfl 73 _ _ rfl S C2 rfl rfl 73 C hSb (by rw [h26]; exact info2073) (by rw [h26, h26']) hone ?_))
  have hT : STurned N w S own (.slice a n c) (w2.setRow S C2) L := by
    refine (unhide HH).over (unhide HB2) (unhide HS2) (unhide HL2) (setRow_heap w2 S C C2 73 (0, 0) hSb) ⟨rfl, rfl, rfl, by simp [World.setRow], fun k hk hm => setRow_other w2 S k C2 (fun e => hm (by simp [e]))⟩ hN
  refine bodyPost_end (v := .tuple #[]) (by simp [results, Try.results53, go_sem]) rfl ?_
  exact ⟨rfl, hT⟩

end Go.Proofs.Ytlndphpidkacgaa

