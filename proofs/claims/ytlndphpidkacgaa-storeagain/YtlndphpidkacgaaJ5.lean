/- Texts joined: Sr Ss Su Sv Sw. -/
import Derived.Test.YtlndphpidkacgaaJ4
import Derived.Test.YtlndphpidkacgaaJ3
import Derived.Deep.RegionHeld3
/- A store and a Chest, side by side. -/
namespace Go.Proofs.Ytlndphpidkacgaa
open Go.RowKit
set_option linter.unusedSimpArgs false
set_option linter.unusedVariables false

theorem aCall_short {L : List ARec} (hL : Good L) (hs : (logB L).length ≤ 2000) (client no : Int) (c : ACall) : (logB (aCall L client no c).log).length ≤ 2000 := by
  unfold aCall
  split
  · exact hs
  rename_i h1
  split
  · exact hs
  rename_i h2
  split
  · exact hs
  rename_i h3
  split
  · split
    · exact hs
    · rename_i h5
      obtain ⟨_, _, ok2⟩ := new_ok h1 (by simpa using h2) (by simpa using h3) (behind L)
      dsimp only
      rw [logB_snoc, List.length_append, ok2]
      omega
  split
  · exact hs
  · exact hs
theorem aTear_short {L : List ARec} (hL : Good L) (hs : (logB L).length ≤ 2000) (client no : Int) (c : ACall) (keep : Int) : (logB (aTear L client no c keep).2).length ≤ 2000 := by
  rcases aTear_log L client no c keep with h | h
  · rw [h]; exact hs
  · rw [h]; exact aCall_short hL hs _ _ _
theorem aStep_short {L : List ARec} (hL : Good L) (hs : (logB L).length ≤ 2000) (x : AStep) : (logB (aStep L x)).length ≤ 2000 := by
  unfold aStep
  split
  · exact aCall_short hL hs _ _ _
  split
  · exact aTear_short hL hs _ _ _ _
  · exact hs

/-- A store at S with the log Ls, a Chest at K with Lr; they share nothing. -/
structure Pair (N : Nat) (w : World) (S B : Nat) (own : List Nat) (lv : Value) (Ls : List ARec) (K : Nat) (rv : Value) (Lr : List ARec) : Prop where
  s : SRep N w S B own lv Ls
  r : CRep w N K rv Lr
  good : Good Lr
  kS : K ∉ sown S own lv
  rS : ∀ k, rv.ownBlock = some k → k ∉ sown S own lv
  ss : (logB Ls).length ≤ 2000
  sr : (logB Lr).length ≤ 2000
def pown (S : Nat) (own : List Nat) (lv : Value) (K : Nat) (rv : Value) : List Nat := K :: (rv.ownBlock.toList ++ sown S own lv)
theorem pown_ge {N : Nat} {w : World} {S B : Nat} {own : List Nat} {lv : Value} {Ls : List ARec} {K : Nat} {rv : Value} {Lr : List ARec} (h : Pair N w S B own lv Ls K rv Lr) : ∀ k, k ∈ pown S own lv K rv → N ≤ k ∧ k < w.heap.size := fun k hk => by
  rcases List.mem_cons.1 hk with rfl | hk
  · exact ⟨h.r.new, h.r.ltK⟩
  rcases List.mem_append.1 hk with hk | hk
  · exact h.r.row.lt k (by simpa using hk)
  · exact sown_ge h.s k hk
theorem Pair.below {N : Nat} {w w' : World} {S B : Nat} {own : List Nat} {lv : Value} {Ls : List ARec} {K : Nat} {rv : Value} {Lr : List ARec} (h : Pair N w S B own lv Ls K rv Lr) (hb : Below w.heap.size w w') : Pair N w' S B own lv Ls K rv Lr :=
  ⟨h.s.below hb, h.r.below hb, h.good, h.kS, h.rS, h.ss, h.sr⟩

/-- From w to w' the two have come to Ls', Lr'; 'po': what was their own. -/
def PTurned (N : Nat) (w : World) (po : List Nat) (S K : Nat) (w' : World) (Ls' Lr' : List ARec) : Prop :=
  ∃ B' own' lv' rv', Pair N w' S B' own' lv' Ls' K rv' Lr' ∧ Next N w w' po (pown S own' lv' K rv')
theorem PTurned.of_below {N : Nat} {w w' : World} {S B : Nat} {own : List Nat} {lv : Value} {Ls : List ARec} {K : Nat} {rv : Value} {Lr : List ARec} (h : Pair N w S B own lv Ls K rv Lr) (hb : Below w.heap.size w w') (hN : N ≤ w.heap.size) : PTurned N w (pown S own lv K rv) S K w' Ls Lr :=
  ⟨B, own, lv, rv, h.below hb, hb.mono hN, fun b h1 h2 => ⟨h2, hb.block b h1⟩⟩
theorem PTurned.before {N : Nat} {w W w' : World} {po : List Nat} {S K : Nat} {Ls' Lr' : List ARec} (hT : PTurned N W po S K w' Ls' Lr') (hb : Below w.heap.size w W) (hN : N ≤ w.heap.size) : PTurned N w po S K w' Ls' Lr' := by
  obtain ⟨B', own', lv', rv', hp, hn⟩ := hT
  exact ⟨B', own', lv', rv', hp, (hb.mono hN).trans hn.below, fun b h1 h2 => ⟨(hn.keep b (Nat.lt_of_lt_of_le h1 hb.size) h2).1, (hn.keep b (Nat.lt_of_lt_of_le h1 hb.size) h2).2.trans (hb.block b h1)⟩⟩
theorem PTurned.after {N : Nat} {w W w' : World} {po : List Nat} {S K : Nat} {Ls' Lr' : List ARec} (hT : PTurned N w po S K W Ls' Lr') (hb : Below W.heap.size W w') (hNW : N ≤ W.heap.size) : PTurned N w po S K w' Ls' Lr' := by
  obtain ⟨B', own', lv', rv', hp, hn⟩ := hT
  refine ⟨B', own', lv', rv', hp.below hb, hn.below.trans (hb.mono hNW), fun b h1 h2 => ⟨(hn.keep b h1 h2).1, (hb.block b ?_).trans (hn.keep b h1 h2).2⟩⟩
  have := hn.below.size; omega
/-- The store turns; the Chest stands. -/
theorem Pair.turnS {N : Nat} {w w' : World} {S B : Nat} {own : List Nat} {lv : Value} {Ls Ls' : List ARec} {K : Nat} {rv : Value} {Lr : List ARec} (h : Pair N w S B own lv Ls K rv Lr) (hT : STurned N w S own lv w' Ls') (hs : (logB Ls').length ≤ 2000) : PTurned N w (pown S own lv K rv) S K w' Ls' Lr := by
  obtain ⟨B', own', lv', hr, hn⟩ := hT
  have hK := hn.keep K h.r.ltK h.kS
  have hR : ∀ k, rv.ownBlock = some k → k ∉ sown S own' lv' ∧ w'.heap[k]? = w.heap[k]? := fun k hk => hn.keep k (h.r.row.lt k hk).2 (h.rS k hk)
  refine ⟨B', own', lv', rv, ⟨hr, ⟨h.r.new, hK.2.trans h.r.blk, ownsRow_same h.r.row (fun k hk => (hR k hk).2), h.r.nd⟩, h.good, hK.1, fun k hk => (hR k hk).1, hs, h.sr⟩, hn.below, fun b h1 h2 => ?_⟩
  have h3 : b ∉ sown S own lv := fun hm => h2 (List.mem_cons_of_mem _ (List.mem_append_right _ hm))
  obtain ⟨h4, h5⟩ := hn.keep b h1 h3
  refine ⟨fun hm => ?_, h5⟩
  rcases List.mem_cons.1 hm with h6 | hm
  · exact h2 (by rw [h6]; exact List.mem_cons_self)
  rcases List.mem_append.1 hm with hm | hm
  · exact h2 (List.mem_cons_of_mem _ (List.mem_append_left _ hm))
  · exact h4 hm
/-- The Chest turns; the store stands. -/
theorem Pair.turnR {N : Nat} {w w' : World} {S B : Nat} {own : List Nat} {lv : Value} {Ls : List ARec} {K : Nat} {rv : Value} {Lr Lr' : List ARec} (h : Pair N w S B own lv Ls K rv Lr) (hT : CTurned w N K rv w' Lr') (hg : Good Lr') (hs : (logB Lr').length ≤ 2000) (hN : N ≤ w.heap.size) : PTurned N w (pown S own lv K rv) S K w' Ls Lr' := by
  obtain ⟨rv', hr, hk, hn⟩ := hT
  have hd : ∀ k, k ∈ sown S own lv → k ∉ K :: rv.ownBlock.toList := fun k hk1 hm => by
    rcases List.mem_cons.1 hm with rfl | hm
    · exact h.kS hk1
    · exact h.rS k (by simpa using hm) hk1
  have hsub : ∀ x, x ∈ K :: rv.ownBlock.toList → x ∈ pown S own lv K rv := fun x hx => by
    rcases List.mem_cons.1 hx with rfl | hx
    · exact List.mem_cons_self
    · exact List.mem_cons_of_mem _ (List.mem_append_left _ hx)
  refine ⟨B, own, lv, rv', ⟨h.s.kept hk hd, hr, hg, h.kS, fun k hk1 hm => ?_, h.ss, hs⟩, hk.below hN (fun k h1 => (pown_ge h k (hsub k h1)).1), fun b h1 h2 => ⟨fun hm => ?_, hk.block b h1 (fun hm => h2 (hsub b hm))⟩⟩
  · rcases hn k hk1 with h1 | h1
    · exact h.rS k h1 hm
    · have := (sown_ge h.s k hm).2; omega
  · rcases List.mem_cons.1 hm with h6 | hm
    · exact h2 (by rw [h6]; exact List.mem_cons_self)
    rcases List.mem_append.1 hm with hm | hm
    · rcases hn b (by simpa using hm) with h3 | h3
      · exact h2 (List.mem_cons_of_mem _ (List.mem_append_left _ (by simp [h3])))
      · omega
    · exact h2 (List.mem_cons_of_mem _ (List.mem_append_right _ hm))
theorem PTurned.then {N : Nat} {w w1 w2 : World} {po : List Nat} {S K : Nat} {Ls1 Lr1 Ls2 Lr2 : List ARec} (h1 : PTurned N w po S K w1 Ls1 Lr1) (h2 : ∀ B own lv rv, Pair N w1 S B own lv Ls1 K rv Lr1 → PTurned N w1 (pown S own lv K rv) S K w2 Ls2 Lr2) : PTurned N w po S K w2 Ls2 Lr2 := by
  obtain ⟨B', own', lv', rv', hp, hn⟩ := h1
  obtain ⟨B2, own2, lv2, rv2, hp2, hn2⟩ := h2 B' own' lv' rv' hp
  exact ⟨B2, own2, lv2, rv2, hp2, hn.trans hn2⟩

end Go.Proofs.Ytlndphpidkacgaa

/- storeStep: a step in both. -/
namespace Go.Proofs.Ytlndphpidkacgaa
open Go.RowKit
set_option linter.unusedSimpArgs false
set_option linter.unusedVariables false

def AStep.val (x : AStep) : Value := .agg #[.int .i64 x.act, .int .i64 x.client, .int .i64 x.no, .int .i64 x.keep, .int .i64 x.call.kind, .string x.call.name, .string x.call.dst, .string x.call.text]

theorem eql34 (d d' : Int) (u u' : ByteArray) (w : World) : (binOp .eql 34 (.agg #[.int .i64 d, .string u]) (.agg #[.int .i64 d', .string u'])).run Try.prog w = .ok (.bool (d == d' && u.toList == u'.toList)) w := by
  have h := equal34 9998 d d' u u' w
  unfold ansCells at h
  rw [run_eql_struct, h]
  rfl

/-- What storeStep answers: true, where both logs are the same; and both have done it. -/
def StepRes (N : Nat) (w : World) (po : List Nat) (S K : Nat) (Ls Lr Ls' Lr' : List ARec) (e : Ending) (w' : World) : Prop :=
  (∃ v, e = .returned (.bool v) ∧ (Ls = Lr → v = true)) ∧ PTurned N w po S K w' Ls' Lr'

theorem PTurned.blk {N : Nat} {w w' : World} {S B : Nat} {own : List Nat} {lv : Value} {Ls : List ARec} {K : Nat} {rv : Value} {Lr Ls' Lr' : List ARec} (h : Pair N w S B own lv Ls K rv Lr) (hT : PTurned N w (pown S own lv K rv) S K w' Ls' Lr') {b : Nat} {o : Obj} (hb : w.heap[b]? = some o) (hn : b ∉ pown S own lv K rv) : w'.heap[b]? = some o := by
  obtain ⟨_, _, _, _, _, hx⟩ := hT
  exact (hx.keep b (Array.getElem?_eq_some_iff.1 hb).1 hn).2.trans hb

set_option maxRecDepth 100000 in
set_option maxHeartbeats 8000000 in
theorem storeStep_call {N : Nat} {w : World} {S B : Nat} {own : List Nat} {lv : Value} {Ls : List ARec} {K : Nat} {rv : Value} {Lr : List ARec} (h : Pair N w S B own lv Ls K rv Lr) (client no keep k : Int) (a b t : ByteArray) (hN : N ≤ w.heap.size) (ha : a.size ≤ maxLen) (hb : b.size ≤ maxLen) (ht : t.size ≤ maxLen) :
    Calls Try.prog 48 #[.pointer (some ⟨S, 0, none⟩), .pointer (some ⟨K, 0, none⟩), .agg #[.int .i64 0, .int .i64 client, .int .i64 no, .int .i64 keep, .int .i64 k, .string a, .string b, .string t]] w (StepRes N w (pown S own lv K rv) S K Ls Lr (aCall Ls client no ⟨k, a, b, t⟩).log (aCall Lr client no ⟨k, a, b, t⟩).log) := by
  have HSC : Hid (∀ W B own lv rv, Pair N W S B own lv Ls K rv Lr → N ≤ W.heap.size → Calls Try.prog 52 #[.pointer (some ⟨S, 0, none⟩), .int .i64 client, .int .i64 no, .agg #[.int .i64 k, .string a, .string b, .string t]] W fun e w' => e = .returned (.tuple #[.agg #[.int .i64 (aCall Ls client no ⟨k, a, b, t⟩).code, .string (aCall Ls client no ⟨k, a, b, t⟩).text], .int .i64 (aCall Ls client no ⟨k, a, b, t⟩).err]) ∧ PTurned N W (pown S own lv K rv) S K w' (aCall Ls client no ⟨k, a, b, t⟩).log Lr) := fun W B own lv rv hp hNW => by
    refine (SCall_any hp.s client no ⟨k, a, b, t⟩ (by have := hp.ss; omega) hNW ha hb ht).mono ?_
    rintro e w' ⟨rfl, hT⟩
    exact ⟨rfl, hp.turnS hT (aCall_short hp.s.good hp.ss _ _ _)⟩
  have HRC : Hid (∀ W B own lv rv L', Pair N W S B own lv L' K rv Lr → N ≤ W.heap.size → Calls Try.prog 71 #[.pointer (some ⟨K, 0, none⟩), .int .i64 client, .int .i64 no, .agg #[.int .i64 k, .string a, .string b, .string t]] W fun e w' => (∃ q : Int, e = .returned (.tuple #[.agg #[.int .i64 (aCall Lr client no ⟨k, a, b, t⟩).code, .string (aCall Lr client no ⟨k, a, b, t⟩).text], .int .i64 q, .int .i64 (aCall Lr client no ⟨k, a, b, t⟩).err])) ∧ PTurned N W (pown S own lv K rv) S K w' L' (aCall Lr client no ⟨k, a, b, t⟩).log) := fun W B own lv rv L' hp hNW => by
    refine (CCall_any N K rv Lr client no ⟨k, a, b, t⟩ W hp.r hp.good hp.sr ha hb ht).mono ?_
    rintro e w' ⟨rfl, hT⟩
    exact ⟨⟨_, rfl⟩, hp.turnR hT (aCall_good hp.good _ _ _) (aCall_short hp.good hp.sr _ _ _) hNW⟩
  have HEQ : Hid (Ls = Lr → aCall Ls client no ⟨k, a, b, t⟩ = aCall Lr client no ⟨k, a, b, t⟩) := fun e => by rw [e]
  have hB0 : Below w.heap.size w (w.alloc (.cells #[.int .i64 0, .int .i64 client, .int .i64 no, .int .i64 keep, .int .i64 k, .string a, .string b, .string t] 81)) := (Below.refl _ _).alloc (Nat.le_refl _) _
  have HH := hide h
  have HB0 := hide hB0
  have hX : (w.alloc (.cells #[.int .i64 0, .int .i64 client, .int .i64 no, .int .i64 keep, .int .i64 k, .string a, .string b, .string t] 81)).heap[w.heap.size]? = some (.cells #[.int .i64 0, .int .i64 client, .int .i64 no, .int .i64 keep, .int .i64 k, .string a, .string b, .string t] 81 (0, 0)) := heap_alloc_new w _
  have HX := hide hX
  have hNo : ∀ j, w.heap.size ≤ j → j ∉ pown S own lv K rv := fun j hj hm => by have := (pown_ge h j hm).2; omega
  have HNO := hide hNo
  generalize aCall Ls client no ⟨k, a, b, t⟩ = Rs at *
  generalize aCall Lr client no ⟨k, a, b, t⟩ = Rr at *
  obtain ⟨scode, stext, serr, slog⟩ := Rs
  obtain ⟨rcode, rtext, rerr, rlog⟩ := Rr
  dsimp only at *
  clear h hB0 hX hNo ha hb ht
  go_enter Try.func48, Try.ntmps48
  go_wp2_with fail
  refine ((unhide HSC) _ B own lv rv ((unhide HH).below (unhide HB0)) (Nat.le_trans hN (unhide HB0).size)).mono ?_
  rintro e w1 ⟨rfl, hT1⟩
  have hX1 := hT1.blk ((unhide HH).below (unhide HB0)) (unhide HX) ((unhide HNO) _ (Nat.le_refl _))
  obtain ⟨B1, own1, lv1, rv1, hp1, hn1⟩ := hT1
  obtain ⟨⟨x0, x1, x2, x3⟩, ⟨x4, x5, x6, x7⟩, _⟩ := eight hX1
  have HP1 := hide hp1
  have HN1 := hide hn1
  have hz1 : w.heap.size < w1.heap.size := (Array.getElem?_eq_some_iff.1 hX1).1
  have HX1 := hide hX1
  clear hp1 hn1 hX1
  go_wp2_with fail
  obtain ⟨V1, hV1⟩ : ∃ V, V = w1.alloc (.cells #[.int .i64 scode, .string stext] 34) := ⟨_, rfl⟩
  rw [← hV1]
  have hbV1 : Below w1.heap.size w1 V1 := by rw [hV1]; exact (Below.refl _ _).alloc (Nat.le_refl _) _
  have hA1 : V1.heap[w1.heap.size]? = some (.cells #[.int .i64 scode, .string stext] 34 (0, 0)) := by rw [hV1]; exact heap_alloc_new _ _
  have hNV1 : N ≤ V1.heap.size := Nat.le_trans hN (by have := hbV1.size; omega)
  clear hV1
  refine ((unhide HRC) V1 B1 own1 lv1 rv1 slog ((unhide HP1).below hbV1) hNV1).mono ?_
  rintro e w2 ⟨⟨q, rfl⟩, hT2⟩
  clear x0 x1 x2 x3 x4 x5 x6 x7
  have hA2 := hT2.blk ((unhide HP1).below hbV1) hA1 (fun hm => by have := (pown_ge (unhide HP1) _ hm).2; omega)
  have hT12 : PTurned N w (pown S own lv K rv) S K w2 slog rlog := by
    obtain ⟨B2, own2, lv2, rv2, hp2, hn2⟩ := (hT2.before hbV1 (by omega))
    exact PTurned.before ⟨B2, own2, lv2, rv2, hp2, (unhide HN1).trans hn2⟩ (unhide HB0) hN
  have HT12 := hide hT12
  have hz2 : w1.heap.size < w2.heap.size := (Array.getElem?_eq_some_iff.1 hA2).1
  obtain ⟨⟨y0, y1⟩, _⟩ := two hA2
  clear hT2 hT12 hA1 hbV1 hA2
  have e34 := fun W => eql34 scode rcode stext rtext W
  generalize heb : (scode == rcode && stext.toList == rtext.toList) = eb at e34
  generalize hec : (serr == rerr) = ec
  have HEB : Hid (Ls = Lr → eb = true ∧ ec = true) := fun e => by
    have h := (unhide HEQ) e
    simp only [CRes.mk.injEq] at h
    obtain ⟨rfl, rfl, rfl, rfl⟩ := h
    rw [← heb, ← hec]
    simp
  clear heb
  cases eb
  · go_wp2
    go_ret
    exact ⟨⟨_, rfl, fun e => absurd ((unhide HEB) e).1 (by simp)⟩, (unhide HT12).after ((Below.refl _ _).alloc (Nat.le_refl _) _) (by omega)⟩
  · cases ec
    · go_wp2
      go_ret
      exact ⟨⟨_, rfl, fun e => absurd ((unhide HEB) e).2 (by simp)⟩, (unhide HT12).after ((Below.refl _ _).alloc (Nat.le_refl _) _) (by omega)⟩
    · go_wp2
      go_ret
      exact ⟨⟨_, rfl, fun _ => by simp⟩, (unhide HT12).after ((Below.refl _ _).alloc (Nat.le_refl _) _) (by omega)⟩

end Go.Proofs.Ytlndphpidkacgaa

/- storeStep: a call that is torn; a crash; else nothing; storeStep, whole. -/
namespace Go.Proofs.Ytlndphpidkacgaa
open Go.RowKit
set_option linter.unusedSimpArgs false
set_option linter.unusedVariables false

set_option maxRecDepth 100000 in
set_option maxHeartbeats 8000000 in
theorem storeStep_tear {N : Nat} {w : World} {S B : Nat} {own : List Nat} {lv : Value} {Ls : List ARec} {K : Nat} {rv : Value} {Lr : List ARec} (h : Pair N w S B own lv Ls K rv Lr) (client no keep k : Int) (a b t : ByteArray) (hN : N ≤ w.heap.size) (ha : a.size ≤ maxLen) (hb : b.size ≤ maxLen) (ht : t.size ≤ maxLen) :
    Calls Try.prog 48 #[.pointer (some ⟨S, 0, none⟩), .pointer (some ⟨K, 0, none⟩), .agg #[.int .i64 1, .int .i64 client, .int .i64 no, .int .i64 keep, .int .i64 k, .string a, .string b, .string t]] w (StepRes N w (pown S own lv K rv) S K Ls Lr (aTear Ls client no ⟨k, a, b, t⟩ keep).2 (aTear Lr client no ⟨k, a, b, t⟩ keep).2) := by
  have hB0 : Below w.heap.size w (w.alloc (.cells #[.int .i64 1, .int .i64 client, .int .i64 no, .int .i64 keep, .int .i64 k, .string a, .string b, .string t] 81)).drew := ((Below.refl _ _).alloc (Nat.le_refl _) _).drew
  have hX : (w.alloc (.cells #[.int .i64 1, .int .i64 client, .int .i64 no, .int .i64 keep, .int .i64 k, .string a, .string b, .string t] 81)).drew.heap[w.heap.size]? = some (.cells #[.int .i64 1, .int .i64 client, .int .i64 no, .int .i64 keep, .int .i64 k, .string a, .string b, .string t] 81 (0, 0)) := heap_alloc_new w _
  obtain ⟨W00, hW0⟩ : ∃ W, W = w.alloc (.cells #[.int .i64 1, .int .i64 client, .int .i64 no, .int .i64 keep, .int .i64 k, .string a, .string b, .string t] 81) := ⟨_, rfl⟩
  rw [← hW0] at hB0 hX
  have hp0 := h.below hB0
  have hNo : w.heap.size ∉ pown S own lv K rv := fun hm => by have := (pown_ge h _ hm).2; omega
  have hNW0 : N ≤ W00.drew.heap.size := Nat.le_trans hN hB0.size
  have HS1 : Hid (Calls Try.prog 54 #[.pointer (some ⟨S, 0, none⟩), .int .i64 client, .int .i64 no, .agg #[.int .i64 k, .string a, .string b, .string t], .int .i64 keep] W00.drew fun e w1 => e = .returned (.int .i64 (aTear Ls client no ⟨k, a, b, t⟩ keep).1) ∧ PTurned N W00.drew (pown S own lv K rv) S K w1 (aTear Ls client no ⟨k, a, b, t⟩ keep).2 Lr ∧ w1.heap[w.heap.size]? = some (.cells #[.int .i64 1, .int .i64 client, .int .i64 no, .int .i64 keep, .int .i64 k, .string a, .string b, .string t] 81 (0, 0))) := by
    refine (STear_any hp0.s client no keep ⟨k, a, b, t⟩ hp0.ss hNW0 ha hb ht).mono ?_
    rintro e w1 ⟨rfl, hT⟩
    have hT2 := hp0.turnS hT (aTear_short hp0.s.good hp0.ss _ _ _ _)
    exact ⟨rfl, hT2, hT2.blk hp0 hX hNo⟩
  have HR1 : Hid (∀ w1 L', PTurned N W00.drew (pown S own lv K rv) S K w1 L' Lr → Calls Try.prog 72 #[.pointer (some ⟨K, 0, none⟩), .int .i64 client, .int .i64 no, .agg #[.int .i64 k, .string a, .string b, .string t], .int .i64 keep] w1 fun e w2 => e = .returned (.int .i64 (aTear Lr client no ⟨k, a, b, t⟩ keep).1) ∧ PTurned N W00.drew (pown S own lv K rv) S K w2 L' (aTear Lr client no ⟨k, a, b, t⟩ keep).2 ∧ w2.heap[w.heap.size]? = some (.cells #[.int .i64 1, .int .i64 client, .int .i64 no, .int .i64 keep, .int .i64 k, .string a, .string b, .string t] 81 (0, 0))) := fun w1 L' hT => by
    obtain ⟨B1, own1, lv1, rv1, hp, hn⟩ := hT
    refine (CTear_any N K rv1 Lr client no keep ⟨k, a, b, t⟩ w1 hp.r hp.good hp.sr ha hb ht).mono ?_
    rintro e w2 ⟨rfl, hT2⟩
    have hT3 := hp.turnR hT2 (aTear_good hp.good _ _ _ _) (aTear_short hp.good hp.sr _ _ _ _) (Nat.le_trans hNW0 hn.below.size)
    obtain ⟨B2, own2, lv2, rv2, hp2, hn2⟩ := hT3
    have hT4 : PTurned N W00.drew (pown S own lv K rv) S K w2 L' (aTear Lr client no ⟨k, a, b, t⟩ keep).2 := ⟨B2, own2, lv2, rv2, hp2, hn.trans hn2⟩
    exact ⟨rfl, hT4, hT4.blk hp0 hX hNo⟩
  have HEQ : Hid (Ls = Lr → (aTear Ls client no ⟨k, a, b, t⟩ keep).1 = (aTear Lr client no ⟨k, a, b, t⟩ keep).1) := fun e => by rw [e]
  have HB0 := hide hB0
  have HX := hide hX
  obtain ⟨⟨x0, x1, x2, x3⟩, ⟨x4, x5, x6, x7⟩, _⟩ := eight hX
  generalize aTear Ls client no ⟨k, a, b, t⟩ keep = Ts at *
  generalize aTear Lr client no ⟨k, a, b, t⟩ keep = Tr at *
  obtain ⟨sE, sL⟩ := Ts
  obtain ⟨rE, rL⟩ := Tr
  dsimp only at *
  have HW0 := hide hW0
  have x0' : W00.cell? ⟨w.heap.size, 0, none⟩ = some (.int .i64 1) := x0
  have x1' : W00.cell? ⟨w.heap.size, 1, none⟩ = some (.int .i64 client) := x1
  have x2' : W00.cell? ⟨w.heap.size, 2, none⟩ = some (.int .i64 no) := x2
  have x3' : W00.cell? ⟨w.heap.size, 3, none⟩ = some (.int .i64 keep) := x3
  have x4' : W00.cell? ⟨w.heap.size, 4, none⟩ = some (.int .i64 k) := x4
  have x5' : W00.cell? ⟨w.heap.size, 5, none⟩ = some (.string a) := x5
  have x6' : W00.cell? ⟨w.heap.size, 6, none⟩ = some (.string b) := x6
  have x7' : W00.cell? ⟨w.heap.size, 7, none⟩ = some (.string t) := x7
  clear h hB0 hX hNo hp0 ha hb ht hW0
  go_enter Try.func48, Try.ntmps48
  go_wp2_with fail
  rw [← unhide HW0]
  go_region_held3 (fun w' => w'.cell? ⟨w.heap.size, 1, none⟩ = some (.int .i64 client) ∧ w'.cell? ⟨w.heap.size, 2, none⟩ = some (.int .i64 no) ∧ w'.cell? ⟨w.heap.size, 3, none⟩ = some (.int .i64 keep) ∧ w'.cell? ⟨w.heap.size, 4, none⟩ = some (.int .i64 k) ∧ w'.cell? ⟨w.heap.size, 5, none⟩ = some (.string a) ∧ w'.cell? ⟨w.heap.size, 6, none⟩ = some (.string b) ∧ w'.cell? ⟨w.heap.size, 7, none⟩ = some (.string t)) ((go_keep; done)) (first | (go_at_call 54; refine (unhide HS1).mono ?_; rintro e w1 ⟨rfl, hT1, hX1⟩; have HT1 := hide hT1; obtain ⟨⟨y0, y1, y2, y3⟩, ⟨y4, y5, y6, y7⟩, _⟩ := eight hX1; clear hT1 hX1) | (go_at_call 72; refine ((unhide HR1) _ _ (unhide HT1)).mono ?_; rintro e w2 ⟨rfl, hT2, hX2⟩; have HT2 := hide hT2; obtain ⟨⟨z0, z1, z2, z3⟩, ⟨z4, z5, z6, z7⟩, _⟩ := eight hX2; clear hT2 hX2))
  all_goals
    have HT3 := hide ((unhide HT2).before (unhide HB0) hN)
    clear y0 y1 y2 y3 y4 y5 y6 y7 z0 z1 z2 z3 z4 z5 z6 z7 x0 x1 x2 x3 x4 x5 x6 x7 x0' x1' x2' x3' x4' x5' x6' x7'
    cases hec : (sE == rE)
    · go_wp2
      go_ret
      exact ⟨⟨_, rfl, fun e => absurd ((unhide HEQ) e) (by simpa using hec)⟩, unhide HT3⟩
    · go_wp2
      go_ret
      exact ⟨⟨_, rfl, fun _ => by simp⟩, unhide HT3⟩


set_option maxRecDepth 100000 in
set_option maxHeartbeats 8000000 in
theorem storeStep_crash {N : Nat} {w : World} {S B : Nat} {own : List Nat} {lv : Value} {Ls : List ARec} {K : Nat} {rv : Value} {Lr : List ARec} (h : Pair N w S B own lv Ls K rv Lr) (client no keep k : Int) (a b t : ByteArray) (hN : N ≤ w.heap.size) :
    Calls Try.prog 48 #[.pointer (some ⟨S, 0, none⟩), .pointer (some ⟨K, 0, none⟩), .agg #[.int .i64 2, .int .i64 client, .int .i64 no, .int .i64 keep, .int .i64 k, .string a, .string b, .string t]] w (StepRes N w (pown S own lv K rv) S K Ls Lr Ls Lr) := by
  have hB0 : Below w.heap.size w (w.alloc (.cells #[.int .i64 2, .int .i64 client, .int .i64 no, .int .i64 keep, .int .i64 k, .string a, .string b, .string t] 81)) := (Below.refl _ _).alloc (Nat.le_refl _) _
  have HC : Hid (Calls Try.prog 53 #[.pointer (some ⟨S, 0, none⟩)] (w.alloc (.cells #[.int .i64 2, .int .i64 client, .int .i64 no, .int .i64 keep, .int .i64 k, .string a, .string b, .string t] 81)) fun e w1 => e = .returned (.tuple #[]) ∧ PTurned N w (pown S own lv K rv) S K w1 Ls Lr) := by
    have hp := h.below hB0
    refine (Crash_any hp.s (by have := hp.ss; omega) (Nat.le_trans hN hB0.size)).mono ?_
    rintro e w1 ⟨rfl, hT⟩
    exact ⟨rfl, (hp.turnS hT hp.ss).before hB0 hN⟩
  clear h hB0
  go_enter Try.func48, Try.ntmps48
  go_wp2_with fail
  refine (unhide HC).mono ?_
  rintro e w1 ⟨rfl, hT⟩
  have HT := hide hT
  clear hT
  go_wp2
  go_ret
  exact ⟨⟨_, rfl, fun _ => rfl⟩, unhide HT⟩

set_option maxRecDepth 100000 in
set_option maxHeartbeats 8000000 in
theorem storeStep_else {N : Nat} {w : World} {S B : Nat} {own : List Nat} {lv : Value} {Ls : List ARec} {K : Nat} {rv : Value} {Lr : List ARec} (h : Pair N w S B own lv Ls K rv Lr) (act client no keep k : Int) (a b t : ByteArray) (hN : N ≤ w.heap.size) (h0 : (act == 0) = false) (h1 : (act == 1) = false) (h2 : (act == 2) = false) :
    Calls Try.prog 48 #[.pointer (some ⟨S, 0, none⟩), .pointer (some ⟨K, 0, none⟩), .agg #[.int .i64 act, .int .i64 client, .int .i64 no, .int .i64 keep, .int .i64 k, .string a, .string b, .string t]] w (StepRes N w (pown S own lv K rv) S K Ls Lr Ls Lr) := by
  have HT := hide (PTurned.of_below h ((Below.refl w.heap.size w).alloc (Nat.le_refl _) (.cells #[.int .i64 act, .int .i64 client, .int .i64 no, .int .i64 keep, .int .i64 k, .string a, .string b, .string t] 81)) hN)
  clear h
  go_enter Try.func48, Try.ntmps48
  go_wp2
  go_ret
  exact ⟨⟨_, rfl, fun _ => rfl⟩, unhide HT⟩

theorem storeStep_any {N : Nat} {w : World} {S B : Nat} {own : List Nat} {lv : Value} {Ls : List ARec} {K : Nat} {rv : Value} {Lr : List ARec} (h : Pair N w S B own lv Ls K rv Lr) (x : AStep) (hN : N ≤ w.heap.size) (ha : x.call.name.size ≤ maxLen) (hb : x.call.dst.size ≤ maxLen) (ht : x.call.text.size ≤ maxLen) :
    Calls Try.prog 48 #[.pointer (some ⟨S, 0, none⟩), .pointer (some ⟨K, 0, none⟩), x.val] w (StepRes N w (pown S own lv K rv) S K Ls Lr (aStep Ls x) (aStep Lr x)) := by
  obtain ⟨act, client, no, keep, ⟨k, a, b, t⟩⟩ := x
  unfold aStep AStep.val
  dsimp only at *
  by_cases h0 : act = 0
  · subst h0
    rw [if_pos rfl, if_pos rfl]
    exact storeStep_call h client no keep k a b t hN ha hb ht
  rw [if_neg h0, if_neg h0]
  by_cases h1 : act = 1
  · subst h1
    rw [if_pos rfl, if_pos rfl]
    exact storeStep_tear h client no keep k a b t hN ha hb ht
  rw [if_neg h1, if_neg h1]
  by_cases h2 : act = 2
  · subst h2
    exact storeStep_crash h client no keep k a b t hN
  · exact storeStep_else h act client no keep k a b t hN (by simpa using h0) (by simpa using h1) (by simpa using h2)

end Go.Proofs.Ytlndphpidkacgaa

/- storeBegun, on lists. -/
namespace Go.Proofs.Ytlndphpidkacgaa
open Go.RowKit
set_option linter.unusedSimpArgs false
set_option linter.unusedVariables false

def ca : ACall := ⟨1, ⟨#[97]⟩, ⟨#[]⟩, ⟨#[]⟩⟩
def cb' : ACall := ⟨1, ⟨#[98]⟩, ⟨#[]⟩, ⟨#[]⟩⟩
def sr1 : ARec := ⟨1, 3, ca, 0, ⟨#[]⟩⟩
def sr2 : ARec := ⟨0, 1, ca, 5, ⟨#[]⟩⟩
theorem chk_ca : checkI ca = 0 := by
  have n1 : nameB ⟨#[97]⟩ = true := by rfl
  have e0 : emptyB ⟨#[]⟩ = true := by unfold emptyB; rw [empty_toList]; rfl
  unfold checkI formedB namedB ca
  simp only [n1, e0]
  simp
theorem chk_cb : checkI cb' = 0 := by
  have n1 : nameB ⟨#[98]⟩ = true := by rfl
  have e0 : emptyB ⟨#[]⟩ = true := by unfold emptyB; rw [empty_toList]; rfl
  unfold checkI formedB namedB cb'
  simp only [n1, e0]
  simp
theorem do_a : aDo [] ca = ⟨0, ⟨#[]⟩, [⟨⟨#[97]⟩, ByteArray.empty⟩]⟩ := by
  unfold aDo
  rw [if_neg (by simp [chk_ca])]
  rfl
theorem do_a2 : (aDo [⟨⟨#[97]⟩, ByteArray.empty⟩] ca).code = 5 ∧ (aDo [⟨⟨#[97]⟩, ByteArray.empty⟩] ca).text = ⟨#[]⟩ ∧ (aDo [⟨⟨#[97]⟩, ByteArray.empty⟩] ca).st = [⟨⟨#[97]⟩, ByteArray.empty⟩] := by
  have hf : fInt ⟨#[97]⟩ [⟨⟨#[97]⟩, ByteArray.empty⟩] = 0 := by unfold fInt fIdx; simp
  have hc : aCreate [⟨⟨#[97]⟩, ByteArray.empty⟩] ca.name = (5, [⟨⟨#[97]⟩, ByteArray.empty⟩]) := by
    show aCreate [⟨⟨#[97]⟩, ByteArray.empty⟩] ⟨#[97]⟩ = _
    unfold aCreate
    rw [hf]
    simp
  unfold aDo
  rw [if_neg (by simp [chk_ca]), if_pos (by rfl), hc]
  exact ⟨rfl, rfl, rfl⟩
theorem len_ca (client no d : Int) : (encL ⟨client, no, ca, d, ⟨#[]⟩⟩).length = 9 := by rw [encL_length]; rfl
theorem beg1 : aCall [] 1 3 ca = ⟨0, ⟨#[]⟩, 0, [sr1]⟩ := by
  unfold aCall
  rw [if_neg (by omega), if_neg (by simp [chk_ca]), if_neg (by simp [ca, changesB]), if_pos (by simp [lastR_nil, zeroRec]), if_neg (by rw [len_ca]; simp [logB])]
  show CRes.mk (aDo [] ca).code (aDo [] ca).text 0 ([] ++ [⟨1, 3, ca, (aDo [] ca).code, (aDo [] ca).text⟩]) = _
  rw [do_a]
  rfl
theorem beg2 : aCall [sr1] 1 3 ca = ⟨0, ⟨#[]⟩, 0, [sr1]⟩ := aCall_again (by rfl) (by omega) chk_ca (by simp [ca, changesB])
theorem beg3 : (aCall [sr1] 1 2 ca).err = 10 ∧ (aCall [sr1] 1 2 ca).log = [sr1] := by
  have hl : lastR [sr1] 1 = sr1 := by rfl
  unfold aCall
  rw [if_neg (by omega), if_neg (by simp [chk_ca]), if_neg (by simp [ca, changesB]), hl, if_neg (by simp [sr1]), if_neg (by simp [sr1])]
  exact ⟨rfl, rfl⟩
theorem beh1 : behind [sr1] = [⟨⟨#[97]⟩, ByteArray.empty⟩] := by
  have : behind [sr1] = (aDo [] ca).st := rfl
  rw [this, do_a]
theorem beg4 : aCall [sr1] 0 1 ca = ⟨5, ⟨#[]⟩, 0, [sr1, sr2]⟩ := by
  have hl : lastR [sr1] 0 = zeroRec := by rfl
  obtain ⟨d1, d2, d3⟩ := do_a2
  unfold aCall
  rw [if_neg (by omega), if_neg (by simp [chk_ca]), if_neg (by simp [ca, changesB]), hl, if_pos (by simp [zeroRec]), if_neg (by rw [len_ca]; have : (logB [sr1]).length = 9 := (by unfold logB; simp only [List.flatMap_cons, List.flatMap_nil, List.append_nil]; exact len_ca 1 3 0); omega), beh1, d1, d2]
  rfl
theorem len12 : (logB [sr1, sr2]).length = 18 := by
  unfold logB
  simp only [List.flatMap_cons, List.flatMap_nil, List.append_nil, List.length_append]
  rw [show (encL sr1).length = 9 from len_ca 1 3 0, show (encL sr2).length = 9 from len_ca 0 1 5]
theorem good12 : Good [sr1, sr2] := by
  have h1 := aCall_good (aCall_good Good.nil 1 3 ca) 0 1 ca
  rw [beg1, beg4] at h1
  exact h1
theorem beh2 : behind [sr1, sr2] = [⟨⟨#[97]⟩, ByteArray.empty⟩] := by
  have : behind [sr1, sr2] = (aDo (behind [sr1]) ca).st := rfl
  rw [this, beh1, do_a2.2.2]
theorem beg5 : aTear [sr1, sr2] 2 1 cb' 4 = (0, [sr1, sr2]) := by
  have hl : lastR [sr1, sr2] 2 = zeroRec := by rfl
  have hn : (encL ⟨2, 1, cb', 0, ⟨#[]⟩⟩).length = 9 := by rw [encL_length]; rfl
  obtain ⟨o1, o2, o3⟩ := new_ok (client := 2) (no := 1) (c := cb') (by omega) chk_cb (by simp [cb', changesB]) (behind [sr1, sr2])
  have hc : aCall [sr1, sr2] 2 1 cb' = ⟨(aDo (behind [sr1, sr2]) cb').code, (aDo (behind [sr1, sr2]) cb').text, 0, [sr1, sr2] ++ [⟨2, 1, cb', (aDo (behind [sr1, sr2]) cb').code, (aDo (behind [sr1, sr2]) cb').text⟩]⟩ := by
    unfold aCall
    rw [if_neg (by omega), if_neg (by simp [chk_cb]), if_neg (by simp [cb', changesB]), hl, if_pos (by simp [zeroRec]), if_neg (by rw [hn, len12]; omega)]
  unfold aTear
  rw [hc]
  dsimp only
  rw [if_pos ⟨rfl, by simp, by rw [logB_snoc, List.length_append, o3, hn, len12]; omega⟩]
theorem beg6 : allR (logB [sr1, sr2] ++ [1]) = ([sr1, sr2], 18) := by
  have hl : logB [sr1, sr2] = encL sr1 ++ encL sr2 := by simp [logB]
  have h1 := good12 sr1 (by simp)
  have h2 := good12 sr2 (by simp)
  have l1 : (encL sr1).length = 9 := len_ca 1 3 0
  have l2 : (encL sr2).length = 9 := len_ca 0 1 5
  have d1 := decR_enc h1 (encL sr2 ++ [1])
  have d2 := decR_enc h2 [1]
  have d3 : (decR [1]).code ≠ 0 := by
    rw [decR, if_neg (by simp)]
    have : readR ([1] : List UInt8) = none := by unfold readR; rw [if_pos (by simp)]
    have e : (List.take (UInt8.toNat 1) [1] : List UInt8) = [1] := rfl
    rw [e, this]
    simp
  rw [hl, List.append_assoc, allR_step (by rw [d1]), d1]
  simp only [Int.toNat_natCast, List.drop_left]
  rw [allR_step (by rw [d2]), d2]
  simp only [Int.toNat_natCast, List.drop_left]
  simp [allR_stop d3, l1, l2]

end Go.Proofs.Ytlndphpidkacgaa

/- storeBegun. -/
namespace Go.Proofs.Ytlndphpidkacgaa
open Go.RowKit
set_option linter.unusedSimpArgs false
set_option linter.unusedVariables false

theorem beg_call {N : Nat} {w : World} {S B : Nat} {own : List Nat} {lv : Value} {L L' : List ARec} {client no : Int} {d e : Int} {c : ACall} (h : SRep N w S B own lv L) (hN : N ≤ w.heap.size) (hs : (logB L).length ≤ 100000) (hc : c.name.size ≤ 100 ∧ c.dst.size ≤ 100 ∧ c.text.size ≤ 100) (h1 : (aCall L client no c).code = d) (h2 : (aCall L client no c).text = ⟨#[]⟩) (h3 : (aCall L client no c).err = e) (h4 : (aCall L client no c).log = L') :
    Calls Try.prog 52 #[.pointer (some ⟨S, 0, none⟩), .int .i64 client, .int .i64 no, .agg #[.int .i64 c.kind, .string c.name, .string c.dst, .string c.text]] w fun x w' => x = .returned (.tuple #[.agg #[.int .i64 d, .string ⟨#[]⟩], .int .i64 e]) ∧ STurned N w S own lv w' L' := by
  refine (SCall_any h client no c hs hN (by unfold maxLen; omega) (by unfold maxLen; omega) (by unfold maxLen; omega)).mono ?_
  rintro x w' ⟨rfl, hT⟩
  rw [h1, h2, h3, ← h4]
  exact ⟨rfl, hT⟩
theorem STurned.keep {N : Nat} {w w' : World} {S B : Nat} {own : List Nat} {lv : Value} {L L' : List ARec} (h : SRep N w S B own lv L) (hT : STurned N w S own lv w' L') : ∃ B' own' lv', SRep N w' S B' own' lv' L' ∧ (∀ b o, w.heap[b]? = some o → b ∉ sown S own lv → w'.heap[b]? = some o ∧ b ∉ sown S own' lv') ∧ Below N w w' := by
  obtain ⟨B', own', lv', hr, hn⟩ := hT
  exact ⟨B', own', lv', hr, fun b o hb hm => ⟨(hn.keep b (Array.getElem?_eq_some_iff.1 hb).1 hm).2.trans hb, (hn.keep b (Array.getElem?_eq_some_iff.1 hb).1 hm).1⟩, hn.below⟩
theorem l1s : (logB [sr1]).length ≤ 100000 := by
  have : (logB [sr1]).length = 9 := by unfold logB; simp only [List.flatMap_cons, List.flatMap_nil, List.append_nil]; exact len_ca 1 3 0
  omega

set_option maxRecDepth 100000 in
set_option maxHeartbeats 8000000 in
theorem storeBegun_any (w : World) : Calls Try.prog 42 #[] w fun e w' => e = .returned (.bool true) ∧ Below w.heap.size w w' := by
  have HN := hide (SNew_any w)
  go_enter Try.func42, Try.ntmps42
  go_wp2_with fail
  refine (unhide HN).mono ?_
  rintro e w1 ⟨S, B0, own0, lv0, rfl, hs0, b0⟩
  have hzA : w.heap.size ≤ w1.heap.size := b0.size
  obtain ⟨V0, hV0⟩ : ∃ V, V = w1.alloc (.cells #[.int .i64 1, .string ⟨#[97]⟩, .string ⟨#[]⟩, .string ⟨#[]⟩] 32) := ⟨_, rfl⟩
  have hbx : Below w1.heap.size w1 V0 := by rw [hV0]; exact (Below.refl _ _).alloc (Nat.le_refl _) _
  have hq0 : V0.heap[w1.heap.size]? = some (.cells #[.int .i64 1, .string ⟨#[97]⟩, .string ⟨#[]⟩, .string ⟨#[]⟩] 32 (0, 0)) := by rw [hV0]; exact heap_alloc_new _ _
  have hqn0 : w1.heap.size ∉ sown S own0 lv0 := fun hm => by have := (sown_ge hs0 _ hm).2; omega
  have HS0 := hide (hs0.below hbx)
  have HB0 := hide (b0.trans (hbx.mono hzA))
  have HQ0 := hide hq0
  have HQN0 := hide hqn0
  have hz0 : w.heap.size ≤ V0.heap.size := (unhide HB0).size
  have HV0 := hide hV0
  obtain ⟨⟨x0, x1, x2, x3⟩, _⟩ := four hq0
  clear hs0 b0 hbx hq0 hqn0 hV0
  go_wp2_with fail
  rw [← unhide HV0]

  refine (beg_call (c := ca) (L' := [sr1]) (d := 0) (e := 0) (unhide HS0) hz0 (by simp [logB]) ⟨by decide, by decide, by decide⟩ (by rw [beg1]) (by rw [beg1]) (by rw [beg1]) (by rw [beg1])).mono ?_
  rintro e w2 ⟨rfl, hT⟩
  clear x0 x1 x2 x3
  obtain ⟨B1, own1, lv1, hs, hk, hbb⟩ := hT.keep (unhide HS0)
  obtain ⟨V1, hV1⟩ : ∃ V, V = w2.alloc (.cells #[.int .i64 0, .string ⟨#[]⟩] 34) := ⟨_, rfl⟩
  have hbx : Below w2.heap.size w2 V1 := by rw [hV1]; exact (Below.refl _ _).alloc (Nat.le_refl _) _
  have hzw : w.heap.size ≤ w2.heap.size := Nat.le_trans hz0 hbb.size
  have HS1 := hide (hs.below hbx)
  have HB1 := hide (((unhide HB0).trans hbb).trans (hbx.mono hzw))
  have hz1 : w.heap.size ≤ V1.heap.size := (unhide HB1).size
  have HQ1 := hide ((hbx.block _ (Array.getElem?_eq_some_iff.1 (hk _ _ (unhide HQ0) (unhide HQN0)).1).1).trans (hk _ _ (unhide HQ0) (unhide HQN0)).1)
  have HQN1 := hide (hk _ _ (unhide HQ0) (unhide HQN0)).2
  have HAa1 : Hid (V1.heap[w2.heap.size]? = some (.cells #[.int .i64 0, .string ⟨#[]⟩] 34 (0, 0))) := by rw [hV1]; exact heap_alloc_new _ _
  have HAaN1 : Hid (w2.heap.size ∉ sown S own1 lv1) := fun hm => by have := (sown_ge hs _ hm).2; omega
  have HV1 := hide hV1
  have hqj := (hk _ _ (unhide HQ0) (unhide HQN0)).1
  obtain ⟨⟨x0, x1, x2, x3⟩, _⟩ := four hqj
  have hqz1 : w1.heap.size < w2.heap.size := (Array.getElem?_eq_some_iff.1 hqj).1
  clear hT hs hk hbb hbx hzw hV1 hqj
  go_wp2_with fail
  rw [← unhide HV1]

  refine (beg_call (c := ca) (L' := [sr1]) (d := 0) (e := 0) (unhide HS1) hz1 l1s ⟨by decide, by decide, by decide⟩ (by rw [beg2]) (by rw [beg2]) (by rw [beg2]) (by rw [beg2])).mono ?_
  rintro e w3 ⟨rfl, hT⟩
  clear x0 x1 x2 x3
  obtain ⟨B2, own2, lv2, hs, hk, hbb⟩ := hT.keep (unhide HS1)
  obtain ⟨V2, hV2⟩ : ∃ V, V = w3.alloc (.cells #[.int .i64 0, .string ⟨#[]⟩] 34) := ⟨_, rfl⟩
  have hbx : Below w3.heap.size w3 V2 := by rw [hV2]; exact (Below.refl _ _).alloc (Nat.le_refl _) _
  have hzw : w.heap.size ≤ w3.heap.size := Nat.le_trans hz1 hbb.size
  have HS2 := hide (hs.below hbx)
  have HB2 := hide (((unhide HB1).trans hbb).trans (hbx.mono hzw))
  have hz2 : w.heap.size ≤ V2.heap.size := (unhide HB2).size
  have HQ2 := hide ((hbx.block _ (Array.getElem?_eq_some_iff.1 (hk _ _ (unhide HQ1) (unhide HQN1)).1).1).trans (hk _ _ (unhide HQ1) (unhide HQN1)).1)
  have HQN2 := hide (hk _ _ (unhide HQ1) (unhide HQN1)).2
  have HAa2 := hide ((hbx.block _ (Array.getElem?_eq_some_iff.1 (hk _ _ (unhide HAa1) (unhide HAaN1)).1).1).trans (hk _ _ (unhide HAa1) (unhide HAaN1)).1)
  have HAaN2 := hide (hk _ _ (unhide HAa1) (unhide HAaN1)).2
  have HAb2 : Hid (V2.heap[w3.heap.size]? = some (.cells #[.int .i64 0, .string ⟨#[]⟩] 34 (0, 0))) := by rw [hV2]; exact heap_alloc_new _ _
  have HAbN2 : Hid (w3.heap.size ∉ sown S own2 lv2) := fun hm => by have := (sown_ge hs _ hm).2; omega
  have HV2 := hide hV2
  have hqj := (hk _ _ (unhide HQ1) (unhide HQN1)).1
  obtain ⟨⟨x0, x1, x2, x3⟩, _⟩ := four hqj
  have hqz2 : w1.heap.size < w3.heap.size := (Array.getElem?_eq_some_iff.1 hqj).1
  clear hT hs hk hbb hbx hzw hV2 hqj
  go_wp2_with fail
  rw [← unhide HV2]

  refine (beg_call (c := ca) (L' := [sr1]) (d := 0) (e := 10) (unhide HS2) hz2 l1s ⟨by decide, by decide, by decide⟩ (aCall_err (by rw [beg3.1]; simp)).2.1 (aCall_err (by rw [beg3.1]; simp)).2.2 beg3.1 beg3.2).mono ?_
  rintro e w4 ⟨rfl, hT⟩
  clear x0 x1 x2 x3
  obtain ⟨B3, own3, lv3, hs, hk, hbb⟩ := hT.keep (unhide HS2)
  obtain ⟨V3, hV3⟩ : ∃ V, V = w4.alloc (.cells #[.int .i64 0, .string ⟨#[]⟩] 34) := ⟨_, rfl⟩
  have hbx : Below w4.heap.size w4 V3 := by rw [hV3]; exact (Below.refl _ _).alloc (Nat.le_refl _) _
  have hzw : w.heap.size ≤ w4.heap.size := Nat.le_trans hz2 hbb.size
  have HS3 := hide (hs.below hbx)
  have HB3 := hide (((unhide HB2).trans hbb).trans (hbx.mono hzw))
  have hz3 : w.heap.size ≤ V3.heap.size := (unhide HB3).size
  have HQ3 := hide ((hbx.block _ (Array.getElem?_eq_some_iff.1 (hk _ _ (unhide HQ2) (unhide HQN2)).1).1).trans (hk _ _ (unhide HQ2) (unhide HQN2)).1)
  have HQN3 := hide (hk _ _ (unhide HQ2) (unhide HQN2)).2
  have HAa3 := hide ((hbx.block _ (Array.getElem?_eq_some_iff.1 (hk _ _ (unhide HAa2) (unhide HAaN2)).1).1).trans (hk _ _ (unhide HAa2) (unhide HAaN2)).1)
  have HAaN3 := hide (hk _ _ (unhide HAa2) (unhide HAaN2)).2
  have HAb3 := hide ((hbx.block _ (Array.getElem?_eq_some_iff.1 (hk _ _ (unhide HAb2) (unhide HAbN2)).1).1).trans (hk _ _ (unhide HAb2) (unhide HAbN2)).1)
  have HAbN3 := hide (hk _ _ (unhide HAb2) (unhide HAbN2)).2
  have HAc3 : Hid (V3.heap[w4.heap.size]? = some (.cells #[.int .i64 0, .string ⟨#[]⟩] 34 (0, 0))) := by rw [hV3]; exact heap_alloc_new _ _
  have HAcN3 : Hid (w4.heap.size ∉ sown S own3 lv3) := fun hm => by have := (sown_ge hs _ hm).2; omega
  have HV3 := hide hV3
  have hqj := (hk _ _ (unhide HQ2) (unhide HQN2)).1
  obtain ⟨⟨x0, x1, x2, x3⟩, _⟩ := four hqj
  have hqz3 : w1.heap.size < w4.heap.size := (Array.getElem?_eq_some_iff.1 hqj).1
  clear hT hs hk hbb hbx hzw hV3 hqj
  go_wp2_with fail
  rw [← unhide HV3]

  refine (beg_call (c := ca) (L' := [sr1, sr2]) (d := 5) (e := 0) (unhide HS3) hz3 l1s ⟨by decide, by decide, by decide⟩ (by rw [beg4]) (by rw [beg4]) (by rw [beg4]) (by rw [beg4])).mono ?_
  rintro e w5 ⟨rfl, hT⟩
  clear x0 x1 x2 x3
  obtain ⟨B4, own4, lv4, hs, hk, hbb⟩ := hT.keep (unhide HS3)
  obtain ⟨V4, hV4⟩ : ∃ V, V = w5.alloc (.cells #[.int .i64 5, .string ⟨#[]⟩] 34) := ⟨_, rfl⟩
  have hbx : Below w5.heap.size w5 V4 := by rw [hV4]; exact (Below.refl _ _).alloc (Nat.le_refl _) _
  have hzw : w.heap.size ≤ w5.heap.size := Nat.le_trans hz3 hbb.size
  have HS4 := hide (hs.below hbx)
  have HB4 := hide (((unhide HB3).trans hbb).trans (hbx.mono hzw))
  have hz4 : w.heap.size ≤ V4.heap.size := (unhide HB4).size
  have HQ4 := hide ((hbx.block _ (Array.getElem?_eq_some_iff.1 (hk _ _ (unhide HQ3) (unhide HQN3)).1).1).trans (hk _ _ (unhide HQ3) (unhide HQN3)).1)
  have HQN4 := hide (hk _ _ (unhide HQ3) (unhide HQN3)).2
  have HAa4 := hide ((hbx.block _ (Array.getElem?_eq_some_iff.1 (hk _ _ (unhide HAa3) (unhide HAaN3)).1).1).trans (hk _ _ (unhide HAa3) (unhide HAaN3)).1)
  have HAaN4 := hide (hk _ _ (unhide HAa3) (unhide HAaN3)).2
  have HAb4 := hide ((hbx.block _ (Array.getElem?_eq_some_iff.1 (hk _ _ (unhide HAb3) (unhide HAbN3)).1).1).trans (hk _ _ (unhide HAb3) (unhide HAbN3)).1)
  have HAbN4 := hide (hk _ _ (unhide HAb3) (unhide HAbN3)).2
  have HAc4 := hide ((hbx.block _ (Array.getElem?_eq_some_iff.1 (hk _ _ (unhide HAc3) (unhide HAcN3)).1).1).trans (hk _ _ (unhide HAc3) (unhide HAcN3)).1)
  have HAcN4 := hide (hk _ _ (unhide HAc3) (unhide HAcN3)).2
  have HAd4 : Hid (V4.heap[w5.heap.size]? = some (.cells #[.int .i64 5, .string ⟨#[]⟩] 34 (0, 0))) := by rw [hV4]; exact heap_alloc_new _ _
  have HAdN4 : Hid (w5.heap.size ∉ sown S own4 lv4) := fun hm => by have := (sown_ge hs _ hm).2; omega
  have HV4 := hide hV4
  have hqj := (hk _ _ (unhide HQ3) (unhide HQN3)).1
  obtain ⟨⟨x0, x1, x2, x3⟩, _⟩ := four hqj
  have hqz4 : w1.heap.size < w5.heap.size := (Array.getElem?_eq_some_iff.1 hqj).1
  clear hT hs hk hbb hbx hzw hV4 hqj
  go_wp2_with fail
  rw [← unhide HV4]

  clear x0 x1 x2 x3
  have HTE := hide (STear_any (unhide HS4) 2 1 4 cb' (by rw [len12]; omega) hz4 (by unfold maxLen; decide) (by unfold maxLen; decide) (by unfold maxLen; decide))
  rw [beg5] at HTE
  refine (unhide HTE).mono ?_
  rintro e w6 ⟨rfl, hT⟩
  dsimp only at hT ⊢
  obtain ⟨B5, own5, lv5, hs, hk, hbb⟩ := hT.keep (unhide HS4)
  have HS5 := hide hs
  have HB5 := hide ((unhide HB4).trans hbb)
  have hz5 : w.heap.size ≤ w6.heap.size := (unhide HB5).size
  have HAa5 := hide (hk _ _ (unhide HAa4) (unhide HAaN4)).1
  have HAb5 := hide (hk _ _ (unhide HAb4) (unhide HAbN4)).1
  have HAd5 := hide (hk _ _ (unhide HAd4) (unhide HAdN4)).1
  clear hT hs hk hbb
  have HLG := hide (Log_any (unhide HS5) (by rw [len12]; omega))
  rw [len12] at HLG
  go_wp2_with fail
  refine (unhide HLG).mono ?_
  rintro e w7 ⟨la, lc, rfl, ol, b7⟩
  have HOL := hide (ol.alloc (.cells #[.int .u8 1] 5))
  have hl18 : (logB [sr1, sr2]).length = 18 := len12
  have HB7 := hide b7
  have hz7 := b7.size
  clear ol b7
  go_wp2_with (at_builtin; refine wpList_bytes _ rfl _ _ rfl w6.heap.size (.slice la 18 lc) (logB [sr1, sr2]) rfl (unhide HOL) (.slice (some ⟨w7.heap.size, 0, none⟩) 1 1) 1 [1] rfl rfl (by exact lies_block (heap_alloc_new w7 (.cells #[.int .u8 1] 5)) 1 1) (by rw [hl18]; omega) (by simp; omega) ?_; intro ad8 c8 w8 ho8 hg8; rw [hl18] at ho8)
  have HB8 := hide ((((unhide HB7).alloc hz7 (.cells #[.int .u8 1] 5))).grown hg8 (by simp; omega) (fun j hj => ((unhide HOL).lt j hj).1))
  obtain ⟨hby, hnil, hcap⟩ := ho8.by (by rw [List.length_append, hl18]; rfl)
  have hop := Open_any ad8 19 c8 (logB [sr1, sr2] ++ [1]) w8 hby (by rw [List.length_append, hl18]; rfl) hcap (by omega) hnil
  rw [beg6] at hop
  have HOP := hide hop
  clear ho8 hg8 hby hnil hcap hop
  refine (unhide HOP).mono ?_
  rintro e w9 ⟨S2, B2, own2, lv2, rfl, hs2, b9⟩
  dsimp only at hs2 ⊢
  have HB9 := hide ((unhide HB8).trans (b9.mono (unhide HB8).size))
  have hs9 := (unhide HS5).below (unhide HB9)
  have HS9 := hide hs9
  have HX9 := hide hs2
  have hp9 := hs9.ptr
  obtain ⟨⟨u0, u1⟩, _⟩ := two (((unhide HB9).block _ (Array.getElem?_eq_some_iff.1 (unhide HAa5)).1).trans (unhide HAa5))
  obtain ⟨⟨v0, v1⟩, _⟩ := two (((unhide HB9).block _ (Array.getElem?_eq_some_iff.1 (unhide HAb5)).1).trans (unhide HAb5))
  obtain ⟨⟨y0, y1⟩, _⟩ := two (((unhide HB9).block _ (Array.getElem?_eq_some_iff.1 (unhide HAd5)).1).trans (unhide HAd5))
  have HL1 := hide (SLast_any hs9 1)
  have HL2 := hide (SLast_any hs9 2)
  have hl1 : (if (1 : Int) < 0 ∨ 2 < (1 : Int) then (0 : Int) else (lastR [sr1, sr2] 1).no) = 3 := by rw [if_neg (by omega)]; rfl
  have hl2 : (if (2 : Int) < 0 ∨ 2 < (2 : Int) then (0 : Int) else (lastR [sr1, sr2] 2).no) = 0 := by rw [if_neg (by omega)]; rfl
  rw [hl1] at HL1
  rw [hl2] at HL2
  have hnm := Names_obj hs9.files
  have hnx := fun W (hW : Below w9.heap.size w9 W) => Names_obj ((hs2.below hW).files)
  rw [beh2] at hnm hnx
  have HNM := hide hnm
  have HNX := hide hnx
  have e34 := fun W => eql34 0 0 ⟨#[]⟩ ⟨#[]⟩ W
  simp only [beq_self_eq_true, Bool.and_self] at e34
  clear hs9 hs2 hnm hnx b9 hl1 hl2
  go_wp2_with fail
  refine (unhide HL1).mono ?_
  rintro e w10 ⟨rfl, rfl⟩
  go_wp2_with fail
  refine (unhide HL2).mono ?_
  rintro e w11 ⟨rfl, rfl⟩
  go_wp2_with fail
  refine (unhide HNM).mono ?_
  rintro e w12 ⟨gn, cn, rfl, on, b12⟩
  have hpx := ((unhide HX9).below b12).ptr
  have HB12 := hide b12
  clear on b12
  dsimp only [List.length_cons, List.length_nil]
  go_wp2_with fail
  refine ((unhide HNX) _ (unhide HB12)).mono ?_
  rintro e w13 ⟨gm, cm, rfl, om, b13⟩
  have HFIN := hide ((unhide HB5).trans (((unhide HB9).trans ((unhide HB12).mono (unhide HB9).size)).mono hz5))
  have HFIN2 := hide ((unhide HFIN).trans (b13.mono (unhide HFIN).size))
  clear om b13
  dsimp only [List.length_cons, List.length_nil]
  go_wp2
  go_ret
  exact ⟨rfl, unhide HFIN2⟩

end Go.Proofs.Ytlndphpidkacgaa

