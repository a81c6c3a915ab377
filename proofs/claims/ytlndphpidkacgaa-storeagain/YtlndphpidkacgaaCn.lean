/- CodecBack: the walk. -/
import Derived.Test.YtlndphpidkacgaaCk
import Derived.BigQuiet
namespace Go.Proofs.Ytlndphpidkacgaa
open Go.RowKit
set_option linter.unusedSimpArgs false
set_option linter.unusedVariables false

theorem Encode_brow (r : ARec) (W : World) (n : Nat) (E : List UInt8) (hE : encL r = E) (hn : E.length = n) (hr : recI r = 0) :
    Calls Try.prog 33 #[r.val] W fun e w' => ∃ g cap, e = .returned (.tuple #[.slice (some ⟨g, 0, none⟩) n cap, .int .i64 0]) ∧ BRow w' W.heap.size (.slice (some ⟨g, 0, none⟩) n cap) E ∧ Below W.heap.size W w' := by
  subst hn hE
  have h := Encode_ok r.client r.no r.call.kind r.call.name r.call.dst r.call.text r.code r.ans W hr
  have hl : 5 + (tb [r.call.name, r.call.dst, r.call.text]).length = (encL r).length := (encL_length r).symm
  rw [hl] at h
  exact h

/-- Whatever Encode is handed: a row or none, and a code. -/
theorem Encode_some (r : ARec) (W : World) (ha : r.call.name.size ≤ maxLen) (hb : r.call.dst.size ≤ maxLen) (ht : r.call.text.size ≤ maxLen) :
    Calls Try.prog 33 #[r.val] W fun e w' => ∃ v, e = .returned (.tuple #[v, .int .i64 (recI r)]) ∧ Below W.heap.size W w' := by
  by_cases h : recI r = 0
  · refine (Encode_brow r W _ _ rfl rfl h).mono ?_
    rintro e w' ⟨g, cap, rfl, _, hb⟩
    exact ⟨_, by rw [h], hb⟩
  · refine (Encode_no r.client r.no r.call.kind r.call.name r.call.dst r.call.text r.code r.ans W ha hb ht h).mono ?_
    rintro e w' ⟨rfl, hb⟩
    exact ⟨_, rfl, hb⟩

/-- The bytes that came in lie there still. -/
theorem ByAt.below {w W : World} {a : Option Addr} {bs : List UInt8} (h : ByAt w a bs) (hb : Below w.heap.size w W) : ByAt W a bs := fun h0 => by
  obtain ⟨b, off, rfl, hc⟩ := h h0
  refine ⟨b, off, rfl, fun j x hx => ?_⟩
  have := hc j x hx
  exact (hb.cell (p := ⟨b, off + j, none⟩) (World.block_lt_of_cell? w _ this)).trans this
theorem ByAt.lies {w : World} {a : Option Addr} {bs : List UInt8} {L cap : Nat} (h : ByAt w a bs) (hL : bs.length = L) (hn : a = none → L = 0 ∧ cap = 0) : Lies w (.slice a L cap) L (bv bs) := by
  cases a with
  | none =>
    obtain ⟨rfl, rfl⟩ := hn rfl
    exact .inl ⟨rfl, rfl, by simp [List.length_eq_zero_iff.1 hL, bv]⟩
  | some A =>
    refine .inr ⟨A, cap, rfl, fun j u hu => ?_⟩
    have h0 : bs ≠ [] := fun h0 => by subst h0; simp [bv] at hu
    obtain ⟨b, off, e, hc⟩ := h h0
    cases e
    simp [bv] at hu
    obtain ⟨x, hx, rfl⟩ := hu
    rw [addr_add]
    exact hc j x hx

theorem encL_le5 {r : ARec} (h : recI r = 0) : 5 ≤ (encL r).length ∧ (encL r).length ≤ 255 := by
  have := (texts_small (rec_ok h)).2
  rw [encL_length]
  omega

def recCells (r : ARec) : Array Value := #[.int .i64 r.client, .int .i64 r.no, .int .i64 r.call.kind, .string r.call.name, .string r.call.dst, .string r.call.text, .int .i64 r.code, .string r.ans]
/-- Two records that came in by value, in a later world. -/
structure Two (b : Nat) (r q : ARec) (W : World) : Prop where
  r : W.heap[b]? = some (.cells (recCells r) 47 (0, 0))
  q : W.heap[b + 1]? = some (.cells (recCells q) 47 (0, 0))
theorem Two.below {b m : Nat} {r q : ARec} {W W' : World} (h : Two b r q W) (hb : Below m W W') (hm : b + 1 < m) : Two b r q W' := ⟨(hb.block b (by omega)).trans h.r, (hb.block (b + 1) hm).trans h.q⟩
theorem Two.lt {b : Nat} {r q : ARec} {W : World} (h : Two b r q W) : b + 1 < W.heap.size := (Array.getElem?_eq_some_iff.1 h.q).1

set_option maxRecDepth 100000 in
set_option maxHeartbeats 8000000 in
theorem back_walk (r q : ARec) (a0 : Option Addr) (L cap : Nat) (bs : List UInt8) (w : World) (hb : ByAt w a0 bs) (hL : bs.length = L) (hcap : L ≤ cap) (hm : L ≤ maxLen) (hnil : a0 = none → L = 0 ∧ cap = 0)
    (r1 : r.call.name.size ≤ maxLen) (r2 : r.call.dst.size ≤ maxLen) (r3 : r.call.text.size ≤ maxLen) (r4 : r.ans.size ≤ maxLen) (q1 : q.call.name.size ≤ maxLen) (q2 : q.call.dst.size ≤ maxLen) (q3 : q.call.text.size ≤ maxLen) (q4 : q.ans.size ≤ maxLen) :
    Calls Try.prog 8 #[r.val, q.val, .slice a0 L cap] w fun e w' => e = .returned (.bool true) ∧ Below w.heap.size w w' := by
  obtain ⟨dd, hdd⟩ : ∃ d, d = decR bs := ⟨_, rfl⟩
  have HDB : Hid (∀ W, Below w.heap.size w W → Calls Try.prog 36 #[.slice a0 L cap] W (DecRes W dd)) := fun W h => by rw [hdd]; exact Decode_any a0 L cap bs W (hb.below h) hL hcap hm
  have HLI : Hid (∀ W, Below w.heap.size w W → Lies W (.slice a0 L cap) L (bv bs)) := fun W h => (hb.below h).lies hL hnil
  have HZ : Hid (dd.code ≠ 0 → dd = ⟨zeroRec, 0, dd.code⟩) := fun h => by
    rw [hdd] at h
    obtain ⟨e1, e2⟩ := decR_zero h
    rw [← hdd] at e1 e2
    obtain ⟨a, b, c⟩ := dd
    dsimp only at e1 e2
    subst e1 e2
    rfl
  have HI : Hid (dd.code = 0 → ∃ (G : List UInt8) (nG b off : Nat), encL dd.rcd = G ∧ G.length = nG ∧ recI dd.rcd = 0 ∧ dd = ⟨dd.rcd, (nG : Int), 0⟩ ∧ nG ≤ L ∧ a0 = some ⟨b, off, none⟩ ∧ ∀ W, Below w.heap.size w W → ∀ (j : Nat) (x : UInt8), G[j]? = some x → W.cell? ⟨b, off + j, none⟩ = some (.int .u8 (x.toNat : Int))) := fun h => by
    have h0 : (decR bs).code = 0 := by rw [← hdd]; exact h
    obtain ⟨e1, e2, e3, e4⟩ := decR_inv h0
    rw [← hdd] at e1 e2 e3 e4
    have h5 := (encL_le5 e1)
    obtain ⟨b, off, ha, hc⟩ := hb (fun h0 => by rw [h0, List.length_nil] at e4; omega)
    refine ⟨encL dd.rcd, _, b, off, rfl, rfl, e1, ?_, by omega, ha, fun W hW j x hx => ?_⟩
    · obtain ⟨a, b, c⟩ := dd
      dsimp only at e2 h ⊢
      rw [e2, h]
    · have hx' : bs[j]? = some x := by
        rw [← e3, List.getElem?_take] at hx
        split at hx
        · exact hx
        · cases hx
      have := hc j x hx'
      exact (hW.cell (p := ⟨b, off + j, none⟩) (World.block_lt_of_cell? w _ this)).trans this
  have HBG := hide codecBegun_any
  have HGR : Hid (∀ W, Calls Try.prog 32 #[r.val] W fun e w' => (∃ r, e = .returned (.bool r)) ∧ Below W.heap.size W w') := fun W => greatRecord_any r.client r.no r.call.kind r.call.name r.call.dst r.call.text r.code r.ans W r4
  have HGQ : Hid (∀ W, Calls Try.prog 32 #[q.val] W fun e w' => (∃ r, e = .returned (.bool r)) ∧ Below W.heap.size W w') := fun W => greatRecord_any q.client q.no q.call.kind q.call.name q.call.dst q.call.text q.code q.ans W q4
  have HSR := hide (fun W => Encode_some r W r1 r2 r3)
  have HSQ := hide (fun W => Encode_some q W q1 q2 q3)
  have HER := hide (fun W => Encode_brow r W)
  have HEQ := hide (fun W => Encode_brow q W)
  have HN := hide (fun W => neq47 r r W)
  rw [recB_self] at HN
  have HQ := hide (fun W => eql47 r q W)
  have HDR := hide (fun (h : recI r = 0) (b : List UInt8) => decR_enc h b)
  have HINJ : Hid (recI r = 0 → recI q = 0 → (encL r = encL q ∧ recB r q = true ∨ encL r ≠ encL q ∧ recB r q = false)) := fun h1 h2 => by
    by_cases h : encL r = encL q
    · exact .inl ⟨h, (recB_iff r q).2 (encL_inj h1 h2 h)⟩
    · refine .inr ⟨h, ?_⟩
      cases hx : recB r q
      · rfl
      · exact absurd (congrArg encL ((recB_iff r q).1 hx)) h
  have HSZ := hide (fun (h : recI r = 0) => encL_le5 h)
  have hT : Two w.heap.size r q ((w.alloc (.cells (recCells r) 47)).alloc (.cells (recCells q) 47)) := ⟨(Below.heap_alloc _ _ _ (by simp)).trans (heap_alloc_new w _), by
    have h := heap_alloc_new (w.alloc (.cells (recCells r) 47)) (.cells (recCells q) 47)
    rw [show (w.alloc (.cells (recCells r) 47)).heap.size = w.heap.size + 1 by simp] at h
    exact h⟩
  have HBB := hide hb
  have HT := hide hT
  have HB0 := hide (((Below.refl w.heap.size w).alloc (Nat.le_refl _) (.cells (recCells r) 47)).alloc (by simp) (.cells (recCells q) 47))
  clear hb hT hdd
  unfold maxLen at hm
  have HLL := hide hL
  clear hL hnil r1 r2 r3 r4 q1 q2 q3 q4
  generalize hrr : recI r = cr at HSR HER HDR HINJ HSZ
  generalize hqq : recI q = cq at HSQ HEQ HINJ
  generalize encL r = E at HER HDR HINJ HSZ
  generalize encL q = F at HEQ HINJ
  generalize recB r q = eq at HQ HINJ
  clear hrr hqq
  obtain ⟨rc, rn, ⟨rk, ra, rb, rt⟩, rd, ru⟩ := r
  obtain ⟨qc, qn, ⟨qk, qa, qb, qt⟩, qd, qu⟩ := q
  dsimp only [ARec.val, recCells, Bool.not_true] at *
  go_enter Try.func8, Try.ntmps8
  go_wp2_with fail
  refine ((unhide HBG) _).mono ?_
  rintro e w1 ⟨rfl, b1⟩
  have HT1 := hide ((unhide HT).below b1 (unhide HT).lt)
  have HB1 := hide ((unhide HB0).trans (b1.mono (unhide HB0).size))
  clear b1
  obtain ⟨⟨z0, z1, z2, z3⟩, ⟨z4, z5, z6, z7⟩, _⟩ := eight (unhide HT1).r
  obtain ⟨⟨y0, y1, y2, y3⟩, ⟨y4, y5, y6, y7⟩, _⟩ := eight (unhide HT1).q
  dsimp only at z0 z1 z2 z3 z4 z5 z6 z7 y0 y1 y2 y3 y4 y5 y6 y7
  go_wp2_with fail
  refine ((unhide HGR) _).mono ?_
  rintro e w2 ⟨⟨g1, rfl⟩, b2⟩
  clear z0 z1 z2 z3 z4 z5 z6 z7 y0 y1 y2 y3 y4 y5 y6 y7
  have HT2 := hide ((unhide HT1).below b2 (unhide HT1).lt)
  have HB2 := hide ((unhide HB1).trans (b2.mono (unhide HB1).size))
  clear b2
  obtain ⟨⟨z0, z1, z2, z3⟩, ⟨z4, z5, z6, z7⟩, _⟩ := eight (unhide HT2).r
  obtain ⟨⟨y0, y1, y2, y3⟩, ⟨y4, y5, y6, y7⟩, _⟩ := eight (unhide HT2).q
  dsimp only at z0 z1 z2 z3 z4 z5 z6 z7 y0 y1 y2 y3 y4 y5 y6 y7
  cases g1
  case true =>
    go_wp2
    go_ret
    exact ⟨rfl, unhide HB2⟩
  go_wp2_with fail
  refine ((unhide HGQ) _).mono ?_
  rintro e w3 ⟨⟨g2, rfl⟩, b3⟩
  clear z0 z1 z2 z3 z4 z5 z6 z7 y0 y1 y2 y3 y4 y5 y6 y7
  have HT3 := hide ((unhide HT2).below b3 (unhide HT2).lt)
  have HB3 := hide ((unhide HB2).trans (b3.mono (unhide HB2).size))
  clear b3
  obtain ⟨⟨z0, z1, z2, z3⟩, ⟨z4, z5, z6, z7⟩, _⟩ := eight (unhide HT3).r
  obtain ⟨⟨y0, y1, y2, y3⟩, ⟨y4, y5, y6, y7⟩, _⟩ := eight (unhide HT3).q
  dsimp only at z0 z1 z2 z3 z4 z5 z6 z7 y0 y1 y2 y3 y4 y5 y6 y7
  cases g2
  case true =>
    go_wp2
    go_ret
    exact ⟨rfl, unhide HB3⟩
  by_cases hbig : (4000 : Int) < (L : Int)
  · go_wp2
    go_ret
    exact ⟨rfl, unhide HB3⟩
  go_wp2_with fail
  by_cases hcr : cr = 0
  · subst hcr
    obtain ⟨n, hEn⟩ : ∃ n, E.length = n := ⟨_, rfl⟩
    have HEn := hide hEn
    refine ((unhide HER) _ n E rfl hEn rfl).mono ?_
    clear hEn
    rintro e w4 ⟨gx, cx, rfl, ox, b4⟩
    have HX4 : Hid (BRow w4 0 (.slice (some ⟨gx, 0, none⟩) n cx) E) := ownsRow_base ox (Nat.zero_le _)
    clear ox
    clear z0 z1 z2 z3 z4 z5 z6 z7 y0 y1 y2 y3 y4 y5 y6 y7
    have HT4 := hide ((unhide HT3).below b4 (unhide HT3).lt)
    have HB4 := hide ((unhide HB3).trans (b4.mono (unhide HB3).size))
    clear b4
    obtain ⟨⟨z0, z1, z2, z3⟩, ⟨z4, z5, z6, z7⟩, _⟩ := eight (unhide HT4).r
    obtain ⟨⟨y0, y1, y2, y3⟩, ⟨y4, y5, y6, y7⟩, _⟩ := eight (unhide HT4).q
    dsimp only at z0 z1 z2 z3 z4 z5 z6 z7 y0 y1 y2 y3 y4 y5 y6 y7
    go_wp2_with fail
    by_cases hcq : cq = 0
    · subst hcq
      obtain ⟨m, hFm⟩ : ∃ n, F.length = n := ⟨_, rfl⟩
      have HFm := hide hFm
      refine ((unhide HEQ) _ m F rfl hFm rfl).mono ?_
      clear hFm
      rintro e w5 ⟨gy, cy, rfl, oy, b5⟩
      have HY5 : Hid (BRow w5 0 (.slice (some ⟨gy, 0, none⟩) m cy) F) := ownsRow_base oy (Nat.zero_le _)
      have HW45 := hide b5
      clear oy
      clear z0 z1 z2 z3 z4 z5 z6 z7 y0 y1 y2 y3 y4 y5 y6 y7
      have HT5 := hide ((unhide HT4).below b5 (unhide HT4).lt)
      have HB5 := hide ((unhide HB4).trans (b5.mono (unhide HB4).size))
      clear b5
      obtain ⟨⟨z0, z1, z2, z3⟩, ⟨z4, z5, z6, z7⟩, _⟩ := eight (unhide HT5).r
      obtain ⟨⟨y0, y1, y2, y3⟩, ⟨y4, y5, y6, y7⟩, _⟩ := eight (unhide HT5).q
      dsimp only at z0 z1 z2 z3 z4 z5 z6 z7 y0 y1 y2 y3 y4 y5 y6 y7
      have HX5 : Hid (BRow w5 0 (.slice (some ⟨gx, 0, none⟩) n cx) E) := ownsRow_same (unhide HX4) (fun k hk => (unhide HW45).block k ((unhide HX4).lt k hk).2)
      have hzn : n ≤ 255 := by have := (unhide HSZ) (by trivial); rw [(unhide HEn)] at this; omega
      have hEn := unhide HEn
      go_wp2_with (first
        | (at_builtin; refine wpList_bytes _ rfl _ _ rfl w5.heap.size (.slice none 0 0) [] rfl (BRow.nil _ _) (.slice (some ⟨gx, 0, none⟩) n cx) n E rfl (unhide HEn) (unhide HX5).lies (by simp; omega) (Nat.le_refl _) ?_; intro ad6 c6 w6 ho6 hg6; have HO6 : Hid (BRow w6 w5.heap.size (.slice ad6 n c6) E) := (by have h := ho6; simp only [List.length_nil, Nat.zero_add, List.nil_append] at h; exact h); have HB6 := hide (((Below.refl w5.heap.size w5).grown hg6 (Nat.le_refl _) (fun j hj => by simp [Value.ownBlock] at hj))); have hz6 : w5.heap.size ≤ w6.heap.size := hg6.size; have HLY := hide ((unhide HLI) w6 ((unhide HB5).trans ((unhide HB6).mono (unhide HB5).size))))
        | (at_builtin; refine wpList_bytes _ rfl _ _ rfl w5.heap.size (.slice ad6 n c6) E rfl (unhide HO6) (.slice a0 L cap) L bs rfl (unhide HLL) (unhide HLY) (by rw [unhide HEn]; omega) hz6 ?_; intro ad7 c7 w7 ho7 hg7))
      rw [(unhide HEn)] at ho7
      obtain ⟨g7, rfl, _⟩ := ho7.form (by have := (unhide HSZ) (by trivial); intro h; have h2 := congrArg List.length h; rw [List.length_append, List.length_nil] at h2; omega)
      have HB57 := hide ((unhide HB6).grown hg7 hz6 (fun j hj => ((unhide HO6).lt j hj).1))
      have hdec := Decode_any (some ⟨g7, 0, none⟩) (n + L) c7 (E ++ bs) w7 (fun _ => ⟨g7, 0, rfl, ho7.cells⟩) (by rw [List.length_append, unhide HEn, unhide HLL]) ho7.cap.1 (by unfold maxLen; omega)
      rw [(unhide HDR) (by trivial) bs, (unhide HEn)] at hdec
      have HDEC := hide hdec
      clear hdec ho7 hg7 ho6 hg6 hEn
      refine (unhide HDEC).mono ?_
      rintro e w8 ⟨b8, rfl⟩
      have HB58 := hide ((unhide HB57).trans (b8.mono (unhide HB57).size))
      clear b8
      dsimp only [ARec.val]
      have HB8 := hide ((unhide HB5).trans ((unhide HB58).mono (unhide HB5).size))
      have HB9 := hide ((unhide HB8).alloc (unhide HB8).size (.cells #[.int .i64 rc, .int .i64 rn, .int .i64 rk, .string ra, .string rb, .string rt, .int .i64 rd, .string ru] 47))
      have HW9 := hide ((unhide HB58).alloc (unhide HB58).size (.cells #[.int .i64 rc, .int .i64 rn, .int .i64 rk, .string ra, .string rb, .string rt, .int .i64 rd, .string ru] 47))
      have HT9 := hide ((unhide HT5).below (unhide HW9) (unhide HT5).lt)
      have hz8 : w5.heap.size ≤ w8.heap.size := (unhide HB58).size
      have hz5 := (unhide HT5).lt
      obtain ⟨⟨z0, z1, z2, z3⟩, ⟨z4, z5, z6, z7⟩, _⟩ := eight (unhide HT9).r
      obtain ⟨⟨y0, y1, y2, y3⟩, ⟨y4, y5, y6, y7⟩, _⟩ := eight (unhide HT9).q
      dsimp only at z0 z1 z2 z3 z4 z5 z6 z7 y0 y1 y2 y3 y4 y5 y6 y7
      obtain ⟨sE, hsE⟩ : ∃ s : ByteArray, s = ⟨E.toArray⟩ := ⟨_, rfl⟩
      obtain ⟨sF, hsF⟩ : ∃ s : ByteArray, s = ⟨F.toArray⟩ := ⟨_, rfl⟩
      have cv1 : ∀ q, (convert 48 9 (.slice (some ⟨gx, 0, none⟩) n cx)).run Try.prog ((w8.alloc (.cells #[.int .i64 rc, .int .i64 rn, .int .i64 rk, .string ra, .string rb, .string rt, .int .i64 rd, .string ru] 47)).drewN q) = .ok (.string sE) ((w8.alloc (.cells #[.int .i64 rc, .int .i64 rn, .int .i64 rk, .string ra, .string rb, .string rt, .int .i64 rd, .string ru] 47)).drewN q) := fun q => hsE ▸ conv_at _ ⟨gx, 0, none⟩ E cx n (unhide HEn).symm (fun j x hx => by rw [addr_add]; exact ((unhide HX5).below (unhide HW9)).cells j x hx)
      have cv2 : ∀ q, (convert 48 9 (.slice (some ⟨gy, 0, none⟩) m cy)).run Try.prog ((w8.alloc (.cells #[.int .i64 rc, .int .i64 rn, .int .i64 rk, .string ra, .string rb, .string rt, .int .i64 rd, .string ru] 47)).drewN q) = .ok (.string sF) ((w8.alloc (.cells #[.int .i64 rc, .int .i64 rn, .int .i64 rk, .string ra, .string rb, .string rt, .int .i64 rd, .string ru] 47)).drewN q) := fun q => hsF ▸ conv_at _ ⟨gy, 0, none⟩ F cy m (unhide HFm).symm (fun j x hx => by rw [addr_add]; exact ((unhide HY5).below (unhide HW9)).cells j x hx)
      have n47 := unhide HN
      have e47 := unhide HQ
      have hst : (sE.toList == sF.toList) = eq := by
        rw [hsE, hsF]
        rcases (unhide HINJ) (by trivial) (by trivial) with ⟨h1, h2⟩ | ⟨h1, h2⟩
        · rw [h2, h1]; simp
        · rw [h2, eqB]
          simp only [decide_eq_false_iff_not]
          intro h
          exact h1 (by have := congrArg (fun b => b.data.toList) h; simpa using this)
      clear hsE hsF
      cases eq
      all_goals
        go_wp2_with fail
        go_quiet (fail)
        have HB10 : Hid (Below w.heap.size w ((w8.alloc (.cells #[.int .i64 rc, .int .i64 rn, .int .i64 rk, .string ra, .string rb, .string rt, .int .i64 rd, .string ru] 47)).drewN nq)) := ⟨(unhide HB9).os, (unhide HB9).tape, (unhide HB9).output, (unhide HB9).size, (unhide HB9).block⟩
        clear z0 z1 z2 z3 z4 z5 z6 z7 y0 y1 y2 y3 y4 y5 y6 y7
        clear cv1 cv2 n47 e47 hst
        go_wp2_with fail
        refine ((unhide HDB) _ (unhide HB10)).mono ?_
        rintro e w20 ⟨b20, rfl⟩
        have HB20 := hide ((unhide HB10).trans (b20.mono (unhide HB10).size))
        clear b20
        by_cases hcode : dd.code = 0
        · obtain ⟨G, nG, b, off, hG, hGl, hrd, hd3, hnL, rfl, hby⟩ := (unhide HI) hcode
          have HEN := hide (fun W => Encode_brow dd.rcd W nG G hG hGl hrd)
          rw [hd3]
          have HBY := hide hby
          have HGL := hide hGl
          clear hby hG hGl hrd hd3 hcode HI HZ HDB
          generalize dd.rcd = dr at HEN
          obtain ⟨dc, dn, ⟨dk, da, db, dt⟩, dq, du⟩ := dr
          dsimp only [ARec.val] at *
          have hle : (nG : Int) ≤ (L : Int) := by omega
          have hlc : (nG : Int) ≤ (cap : Int) := by omega
          go_wp2_with fail
          refine ((unhide HEN) _).mono ?_
          rintro e w21 ⟨gu, cu, rfl, ou, b21⟩
          have HB21 := hide (((unhide HB20).alloc (unhide HB20).size (.cells #[.int .i64 dc, .int .i64 dn, .int .i64 dk, .string da, .string db, .string dt, .int .i64 dq, .string du] 47)).trans (b21.mono (by have := (unhide HB20).size; simp; omega)))
          have cv1 : ∀ q, (convert 48 9 (.slice (some ⟨gu, 0, none⟩) nG cu)).run Try.prog (w21.drewN q) = .ok (.string ⟨G.toArray⟩) (w21.drewN q) := fun q => conv_at _ ⟨gu, 0, none⟩ G cu nG (unhide HGL).symm (fun j x hx => by rw [addr_add]; exact ou.cells j x hx)
          have cv2 : ∀ q, (convert 48 9 (.slice (some ⟨b, off, none⟩) nG cap)).run Try.prog (w21.drewN q) = .ok (.string ⟨G.toArray⟩) (w21.drewN q) := fun q => conv_at _ ⟨b, off, none⟩ G cap nG (unhide HGL).symm (fun j x hx => by rw [addr_add]; exact (unhide HBY) w21 (unhide HB21) j x hx)
          clear ou b21
          go_wp2_with fail
          go_quiet (fail)
          go_wp2
          go_ret
          exact ⟨rfl, ⟨(unhide HB21).os, (unhide HB21).tape, (unhide HB21).output, (unhide HB21).size, (unhide HB21).block⟩⟩
        · have hd3 := (unhide HZ) hcode
          rw [hd3]
          have e47 : ∀ W, (binOp .eql 47 (.agg #[.int .i64 0, .int .i64 0, .int .i64 0, .string ⟨#[]⟩, .string ⟨#[]⟩, .string ⟨#[]⟩, .int .i64 0, .string ⟨#[]⟩]) (.agg #[.int .i64 0, .int .i64 0, .int .i64 0, .string ⟨#[]⟩, .string ⟨#[]⟩, .string ⟨#[]⟩, .int .i64 0, .string ⟨#[]⟩])).run Try.prog W = .ok (.bool true) W := fun W => by
            have h := eql47 zeroRec zeroRec W
            rw [recB_self] at h
            exact h
          clear hd3 HI HZ HDB
          dsimp only [ARec.val, zeroRec]
          generalize dd.code = code at hcode
          go_wp2
          go_ret
          exact ⟨rfl, (unhide HB20).alloc (unhide HB20).size _⟩
    · refine ((unhide HSQ) _).mono ?_
      rintro e w5 ⟨vy, rfl, b5⟩
      have HW45 := hide b5
      clear z0 z1 z2 z3 z4 z5 z6 z7 y0 y1 y2 y3 y4 y5 y6 y7
      have HT5 := hide ((unhide HT4).below b5 (unhide HT4).lt)
      have HB5 := hide ((unhide HB4).trans (b5.mono (unhide HB4).size))
      clear b5
      obtain ⟨⟨z0, z1, z2, z3⟩, ⟨z4, z5, z6, z7⟩, _⟩ := eight (unhide HT5).r
      obtain ⟨⟨y0, y1, y2, y3⟩, ⟨y4, y5, y6, y7⟩, _⟩ := eight (unhide HT5).q
      dsimp only at z0 z1 z2 z3 z4 z5 z6 z7 y0 y1 y2 y3 y4 y5 y6 y7
      have HX5 : Hid (BRow w5 0 (.slice (some ⟨gx, 0, none⟩) n cx) E) := ownsRow_same (unhide HX4) (fun k hk => (unhide HW45).block k ((unhide HX4).lt k hk).2)
      have hzn : n ≤ 255 := by have := (unhide HSZ) (by trivial); rw [(unhide HEn)] at this; omega
      have hEn := unhide HEn
      go_wp2_with (first
        | (at_builtin; refine wpList_bytes _ rfl _ _ rfl w5.heap.size (.slice none 0 0) [] rfl (BRow.nil _ _) (.slice (some ⟨gx, 0, none⟩) n cx) n E rfl (unhide HEn) (unhide HX5).lies (by simp; omega) (Nat.le_refl _) ?_; intro ad6 c6 w6 ho6 hg6; have HO6 : Hid (BRow w6 w5.heap.size (.slice ad6 n c6) E) := (by have h := ho6; simp only [List.length_nil, Nat.zero_add, List.nil_append] at h; exact h); have HB6 := hide (((Below.refl w5.heap.size w5).grown hg6 (Nat.le_refl _) (fun j hj => by simp [Value.ownBlock] at hj))); have hz6 : w5.heap.size ≤ w6.heap.size := hg6.size; have HLY := hide ((unhide HLI) w6 ((unhide HB5).trans ((unhide HB6).mono (unhide HB5).size))))
        | (at_builtin; refine wpList_bytes _ rfl _ _ rfl w5.heap.size (.slice ad6 n c6) E rfl (unhide HO6) (.slice a0 L cap) L bs rfl (unhide HLL) (unhide HLY) (by rw [unhide HEn]; omega) hz6 ?_; intro ad7 c7 w7 ho7 hg7))
      rw [(unhide HEn)] at ho7
      obtain ⟨g7, rfl, _⟩ := ho7.form (by have := (unhide HSZ) (by trivial); intro h; have h2 := congrArg List.length h; rw [List.length_append, List.length_nil] at h2; omega)
      have HB57 := hide ((unhide HB6).grown hg7 hz6 (fun j hj => ((unhide HO6).lt j hj).1))
      have hdec := Decode_any (some ⟨g7, 0, none⟩) (n + L) c7 (E ++ bs) w7 (fun _ => ⟨g7, 0, rfl, ho7.cells⟩) (by rw [List.length_append, unhide HEn, unhide HLL]) ho7.cap.1 (by unfold maxLen; omega)
      rw [(unhide HDR) (by trivial) bs, (unhide HEn)] at hdec
      have HDEC := hide hdec
      clear hdec ho7 hg7 ho6 hg6 hEn
      refine (unhide HDEC).mono ?_
      rintro e w8 ⟨b8, rfl⟩
      have HB58 := hide ((unhide HB57).trans (b8.mono (unhide HB57).size))
      clear b8
      dsimp only [ARec.val]
      have HB8 := hide ((unhide HB5).trans ((unhide HB58).mono (unhide HB5).size))
      have HB9 := hide ((unhide HB8).alloc (unhide HB8).size (.cells #[.int .i64 rc, .int .i64 rn, .int .i64 rk, .string ra, .string rb, .string rt, .int .i64 rd, .string ru] 47))
      have HW9 := hide ((unhide HB58).alloc (unhide HB58).size (.cells #[.int .i64 rc, .int .i64 rn, .int .i64 rk, .string ra, .string rb, .string rt, .int .i64 rd, .string ru] 47))
      have HT9 := hide ((unhide HT5).below (unhide HW9) (unhide HT5).lt)
      have hz8 : w5.heap.size ≤ w8.heap.size := (unhide HB58).size
      have hz5 := (unhide HT5).lt
      obtain ⟨⟨z0, z1, z2, z3⟩, ⟨z4, z5, z6, z7⟩, _⟩ := eight (unhide HT9).r
      obtain ⟨⟨y0, y1, y2, y3⟩, ⟨y4, y5, y6, y7⟩, _⟩ := eight (unhide HT9).q
      dsimp only at z0 z1 z2 z3 z4 z5 z6 z7 y0 y1 y2 y3 y4 y5 y6 y7
      have n47 := unhide HN
      go_wp2_with fail
      go_quiet (fail)
      have HB10 : Hid (Below w.heap.size w ((w8.alloc (.cells #[.int .i64 rc, .int .i64 rn, .int .i64 rk, .string ra, .string rb, .string rt, .int .i64 rd, .string ru] 47)).drewN nq)) := ⟨(unhide HB9).os, (unhide HB9).tape, (unhide HB9).output, (unhide HB9).size, (unhide HB9).block⟩
      clear z0 z1 z2 z3 z4 z5 z6 z7 y0 y1 y2 y3 y4 y5 y6 y7
      clear n47
      go_wp2_with fail
      refine ((unhide HDB) _ (unhide HB10)).mono ?_
      rintro e w20 ⟨b20, rfl⟩
      have HB20 := hide ((unhide HB10).trans (b20.mono (unhide HB10).size))
      clear b20
      by_cases hcode : dd.code = 0
      · obtain ⟨G, nG, b, off, hG, hGl, hrd, hd3, hnL, rfl, hby⟩ := (unhide HI) hcode
        have HEN := hide (fun W => Encode_brow dd.rcd W nG G hG hGl hrd)
        rw [hd3]
        have HBY := hide hby
        have HGL := hide hGl
        clear hby hG hGl hrd hd3 hcode HI HZ HDB
        generalize dd.rcd = dr at HEN
        obtain ⟨dc, dn, ⟨dk, da, db, dt⟩, dq, du⟩ := dr
        dsimp only [ARec.val] at *
        have hle : (nG : Int) ≤ (L : Int) := by omega
        have hlc : (nG : Int) ≤ (cap : Int) := by omega
        go_wp2_with fail
        refine ((unhide HEN) _).mono ?_
        rintro e w21 ⟨gu, cu, rfl, ou, b21⟩
        have HB21 := hide (((unhide HB20).alloc (unhide HB20).size (.cells #[.int .i64 dc, .int .i64 dn, .int .i64 dk, .string da, .string db, .string dt, .int .i64 dq, .string du] 47)).trans (b21.mono (by have := (unhide HB20).size; simp; omega)))
        have cv1 : ∀ q, (convert 48 9 (.slice (some ⟨gu, 0, none⟩) nG cu)).run Try.prog (w21.drewN q) = .ok (.string ⟨G.toArray⟩) (w21.drewN q) := fun q => conv_at _ ⟨gu, 0, none⟩ G cu nG (unhide HGL).symm (fun j x hx => by rw [addr_add]; exact ou.cells j x hx)
        have cv2 : ∀ q, (convert 48 9 (.slice (some ⟨b, off, none⟩) nG cap)).run Try.prog (w21.drewN q) = .ok (.string ⟨G.toArray⟩) (w21.drewN q) := fun q => conv_at _ ⟨b, off, none⟩ G cap nG (unhide HGL).symm (fun j x hx => by rw [addr_add]; exact (unhide HBY) w21 (unhide HB21) j x hx)
        clear ou b21
        go_wp2_with fail
        go_quiet (fail)
        go_wp2
        go_ret
        exact ⟨rfl, ⟨(unhide HB21).os, (unhide HB21).tape, (unhide HB21).output, (unhide HB21).size, (unhide HB21).block⟩⟩
      · have hd3 := (unhide HZ) hcode
        rw [hd3]
        have e47 : ∀ W, (binOp .eql 47 (.agg #[.int .i64 0, .int .i64 0, .int .i64 0, .string ⟨#[]⟩, .string ⟨#[]⟩, .string ⟨#[]⟩, .int .i64 0, .string ⟨#[]⟩]) (.agg #[.int .i64 0, .int .i64 0, .int .i64 0, .string ⟨#[]⟩, .string ⟨#[]⟩, .string ⟨#[]⟩, .int .i64 0, .string ⟨#[]⟩])).run Try.prog W = .ok (.bool true) W := fun W => by
          have h := eql47 zeroRec zeroRec W
          rw [recB_self] at h
          exact h
        clear hd3 HI HZ HDB
        dsimp only [ARec.val, zeroRec]
        generalize dd.code = code at hcode
        go_wp2
        go_ret
        exact ⟨rfl, (unhide HB20).alloc (unhide HB20).size _⟩
  · refine ((unhide HSR) _).mono ?_
    rintro e w4 ⟨vx, rfl, b4⟩
    clear z0 z1 z2 z3 z4 z5 z6 z7 y0 y1 y2 y3 y4 y5 y6 y7
    have HT4 := hide ((unhide HT3).below b4 (unhide HT3).lt)
    have HB4 := hide ((unhide HB3).trans (b4.mono (unhide HB3).size))
    clear b4
    obtain ⟨⟨z0, z1, z2, z3⟩, ⟨z4, z5, z6, z7⟩, _⟩ := eight (unhide HT4).r
    obtain ⟨⟨y0, y1, y2, y3⟩, ⟨y4, y5, y6, y7⟩, _⟩ := eight (unhide HT4).q
    dsimp only at z0 z1 z2 z3 z4 z5 z6 z7 y0 y1 y2 y3 y4 y5 y6 y7
    go_wp2_with fail
    refine ((unhide HSQ) _).mono ?_
    rintro e w5 ⟨vy, rfl, b5⟩
    clear z0 z1 z2 z3 z4 z5 z6 z7 y0 y1 y2 y3 y4 y5 y6 y7
    have HT5 := hide ((unhide HT4).below b5 (unhide HT4).lt)
    have HB5 := hide ((unhide HB4).trans (b5.mono (unhide HB4).size))
    clear b5
    obtain ⟨⟨z0, z1, z2, z3⟩, ⟨z4, z5, z6, z7⟩, _⟩ := eight (unhide HT5).r
    obtain ⟨⟨y0, y1, y2, y3⟩, ⟨y4, y5, y6, y7⟩, _⟩ := eight (unhide HT5).q
    dsimp only at z0 z1 z2 z3 z4 z5 z6 z7 y0 y1 y2 y3 y4 y5 y6 y7
    go_wp2_with fail
    refine ((unhide HDB) _ (unhide HB5)).mono ?_
    rintro e w20 ⟨b20, rfl⟩
    have HB20 := hide ((unhide HB5).trans (b20.mono (unhide HB5).size))
    clear b20
    by_cases hcode : dd.code = 0
    · obtain ⟨G, nG, b, off, hG, hGl, hrd, hd3, hnL, rfl, hby⟩ := (unhide HI) hcode
      have HEN := hide (fun W => Encode_brow dd.rcd W nG G hG hGl hrd)
      rw [hd3]
      have HBY := hide hby
      have HGL := hide hGl
      clear hby hG hGl hrd hd3 hcode HI HZ HDB
      generalize dd.rcd = dr at HEN
      obtain ⟨dc, dn, ⟨dk, da, db, dt⟩, dq, du⟩ := dr
      dsimp only [ARec.val] at *
      have hle : (nG : Int) ≤ (L : Int) := by omega
      have hlc : (nG : Int) ≤ (cap : Int) := by omega
      go_wp2_with fail
      refine ((unhide HEN) _).mono ?_
      rintro e w21 ⟨gu, cu, rfl, ou, b21⟩
      have HB21 := hide (((unhide HB20).alloc (unhide HB20).size (.cells #[.int .i64 dc, .int .i64 dn, .int .i64 dk, .string da, .string db, .string dt, .int .i64 dq, .string du] 47)).trans (b21.mono (by have := (unhide HB20).size; simp; omega)))
      have cv1 : ∀ q, (convert 48 9 (.slice (some ⟨gu, 0, none⟩) nG cu)).run Try.prog (w21.drewN q) = .ok (.string ⟨G.toArray⟩) (w21.drewN q) := fun q => conv_at _ ⟨gu, 0, none⟩ G cu nG (unhide HGL).symm (fun j x hx => by rw [addr_add]; exact ou.cells j x hx)
      have cv2 : ∀ q, (convert 48 9 (.slice (some ⟨b, off, none⟩) nG cap)).run Try.prog (w21.drewN q) = .ok (.string ⟨G.toArray⟩) (w21.drewN q) := fun q => conv_at _ ⟨b, off, none⟩ G cap nG (unhide HGL).symm (fun j x hx => by rw [addr_add]; exact (unhide HBY) w21 (unhide HB21) j x hx)
      clear ou b21
      go_wp2_with fail
      go_quiet (fail)
      go_wp2
      go_ret
      exact ⟨rfl, ⟨(unhide HB21).os, (unhide HB21).tape, (unhide HB21).output, (unhide HB21).size, (unhide HB21).block⟩⟩
    · have hd3 := (unhide HZ) hcode
      rw [hd3]
      have e47 : ∀ W, (binOp .eql 47 (.agg #[.int .i64 0, .int .i64 0, .int .i64 0, .string ⟨#[]⟩, .string ⟨#[]⟩, .string ⟨#[]⟩, .int .i64 0, .string ⟨#[]⟩]) (.agg #[.int .i64 0, .int .i64 0, .int .i64 0, .string ⟨#[]⟩, .string ⟨#[]⟩, .string ⟨#[]⟩, .int .i64 0, .string ⟨#[]⟩])).run Try.prog W = .ok (.bool true) W := fun W => by
        have h := eql47 zeroRec zeroRec W
        rw [recB_self] at h
        exact h
      clear hd3 HI HZ HDB
      dsimp only [ARec.val, zeroRec]
      generalize dd.code = code at hcode
      go_wp2
      go_ret
      exact ⟨rfl, (unhide HB20).alloc (unhide HB20).size _⟩

end Go.Proofs.Ytlndphpidkacgaa
