/- codecBegun. -/
import Derived.Test.YtlndphpidkacgaaCj
import Derived.Test.YtlndphpidkacgaaRc
namespace Go.Proofs.Ytlndphpidkacgaa
open Go.RowKit
set_option linter.unusedSimpArgs false
set_option linter.unusedVariables false

/-- Bytes in a row of one's own. -/
def BRow (w : World) (N : Nat) (v : Value) (bs : List UInt8) : Prop := w.ownsRow N 5 1 v bs.length (bv bs)

theorem bv_one (bs : List UInt8) : ∀ u, u ∈ bv bs → u.oneCell' = true := fun u hu => by
  simp [bv] at hu
  obtain ⟨b, _, rfl⟩ := hu
  rfl

theorem BRow.cells {w : World} {N g n c : Nat} {bs : List UInt8} (h : BRow w N (.slice (some ⟨g, 0, none⟩) n c) bs) : ∀ (j : Nat) (x : UInt8), bs[j]? = some x → w.cell? ⟨g, 0 + j, none⟩ = some (.int .u8 (x.toNat : Int)) := fun j x hx => by
  have hn : n = bs.length := by
    obtain ⟨_, _, e⟩ := row_form h
    cases e; rfl
  subst hn
  have := h.cellAt j (by have := (List.getElem?_eq_some_iff.1 hx).1; omega)
  rw [Nat.zero_add, this]
  simp [bv, hx]
theorem BRow.cap {w : World} {N g n c : Nat} {bs : List UInt8} (h : BRow w N (.slice (some ⟨g, 0, none⟩) n c) bs) : n ≤ c ∧ g < w.heap.size ∧ N ≤ g := by
  refine ⟨?_, (h.lt g rfl).2, (h.lt g rfl).1⟩
  rcases h.2 with ⟨e, _⟩ | ⟨g', c', cur, e, _, _, h1, _⟩
  · cases e
  · cases e; exact h1
theorem BRow.below {w w' : World} {N : Nat} {v : Value} {bs : List UInt8} (h : BRow w N v bs) (hb : Below w.heap.size w w') : BRow w' N v bs := ownsRow_same h (fun k hk => hb.block k (h.lt k hk).2)

/-- Append of bytes that lie somewhere onto bytes of one's own. -/
theorem wpList_bytes (w : World) {ops : Array Oper} {rest : List Oper} {o : Oper} {a : Act} {Q : Exit → Act → World → Prop} (hgd : o.guard = none) (s x : Operand)
    (ho : o.op = .call { callee := .builtin .append, args := #[s, x], argTypes := #[48, 48] })
    (N : Nat) (v : Value) (xs : List UInt8) (hs : a.eval s = v) (hown : BRow w N v xs) (y : Value) (m : Nat) (ys : List UInt8) (hx : a.eval x = y) (hl : ys.length = m) (hy : Lies w y m (bv ys)) (hsz : xs.length + m ≤ 1000000) (hN : N ≤ w.heap.size)
    (h : ∀ ad c w', BRow w' N (.slice ad (xs.length + m) c) (xs ++ ys) → w.grownBy w' v.ownBlock → wpList Try.prog ops Q rest (a.put o.dst (.slice ad (xs.length + m) c)) w') : wpList Try.prog ops Q (o :: rest) a w := by
  obtain ⟨i0, hi0, hz0, hz1, hz2⟩ := info_parts cinfo5
  refine wpList_plain hgd fun K hK => ?_
  obtain ⟨ad, c, w', hr, h2, h3, h4⟩ := run_app (w := w) 48 o.type N 5 i0 _ 1 1 Try.underlying48 hi0 hz0 hz1 hz2 rfl (by omega) v xs.length (bv xs) hown y m (bv ys) hy (by rw [bv_length]; omega) (bv_one ys) (by unfold maxLen; omega) (by omega) hN
  unfold Oper.wp execOp
  simp only [ho, resolve, invoke, builtin, Sem.run_bind, Sem.run_pure, Result.andThen_ok, List.map_toArray, List.map_cons, List.map_nil, hs, hx, hr]
  refine hK _ _ (h ad c w' ?_ h3)
  unfold BRow
  rw [List.length_append, hl, bv_append]
  exact h2

theorem BRow.nil (w : World) (N : Nat) : BRow w N (.slice none 0 0) [] := World.ownsRow_nil _ _ _ _
theorem BRow.lies {w : World} {N g n c : Nat} {bs : List UInt8} (h : BRow w N (.slice (some ⟨g, 0, none⟩) n c) bs) : Lies w (.slice (some ⟨g, 0, none⟩) n c) n (bv bs) := .inr ⟨_, _, rfl, fun j u hu => World.ownsRow.cells (v := .slice (some ⟨g, 0, none⟩) n c) h (g := g) rfl j u hu⟩
theorem BRow.form {w : World} {N : Nat} {a : Option Addr} {n c : Nat} {bs : List UInt8} (h : BRow w N (.slice a n c) bs) (h0 : bs ≠ []) : ∃ g, a = some ⟨g, 0, none⟩ ∧ n = bs.length := by
  have : 0 < bs.length := List.length_pos_iff.2 h0
  obtain ⟨g, cap, e, _⟩ := World.ownsRow.form h this
  cases e
  exact ⟨g, rfl, rfl⟩

def r0 : ARec := ⟨1, 7, ⟨3, ⟨#[97]⟩, ⟨#[98, 99]⟩, ⟨#[]⟩⟩, 6, ⟨#[]⟩⟩
theorem rec0 : recI ⟨1, 7, ⟨3, ⟨#[97]⟩, ⟨#[98, 99]⟩, ⟨#[]⟩⟩, 6, ⟨#[]⟩⟩ = 0 := by
  have n1 : nameB ⟨#[97]⟩ = true := by rfl
  have n2 : nameB ⟨#[98, 99]⟩ = true := by rfl
  have e0 : emptyB ⟨#[]⟩ = true := by unfold emptyB; rw [empty_toList]; rfl
  have c0 : checkI ⟨3, ⟨#[97]⟩, ⟨#[98, 99]⟩, ⟨#[]⟩⟩ = 0 := by
    unfold checkI formedB namedB
    simp only [n1, n2, e0]
    simp
  unfold recI
  simp [c0, changesB]
theorem len0 : (tb [⟨#[97]⟩, ⟨#[98, 99]⟩, ⟨#[]⟩]).length = 6 := by rfl
theorem enc0 : encL r0 = [11, 1, 7, 3, 6, 1, 97, 2, 98, 99, 0] := by rfl

theorem all0 : allR (encL r0 ++ encL r0) = ([r0, r0], 22) := by
  have hl : (encL r0).length = 11 := by rw [enc0]; rfl
  have d1 := decR_enc (r := r0) rec0 (encL r0)
  have d2 := decR_enc (r := r0) rec0 []
  rw [List.append_nil] at d2
  rw [allR_step (by rw [d1]), d1]
  have e1 : ((encL r0 ++ encL r0).drop ((encL r0).length : Int).toNat) = encL r0 := by rw [Int.toNat_natCast, List.drop_left]
  simp only [e1]
  rw [allR_step (by rw [d2]), d2]
  have e2 : ((encL r0).drop ((encL r0).length : Int).toNat) = [] := by rw [Int.toNat_natCast, List.drop_length]
  simp only [e2, allR_nil]
  rw [hl]
  rfl

set_option maxRecDepth 100000 in
set_option maxHeartbeats 8000000 in
theorem codecBegun_any (w : World) : Calls Try.prog 31 #[] w fun e w' => e = .returned (.bool true) ∧ Below w.heap.size w w' := by
  have henc := fun W => Encode_ok 1 7 3 ⟨#[97]⟩ ⟨#[98, 99]⟩ ⟨#[]⟩ 6 ⟨#[]⟩ W rec0
  rw [len0] at henc
  obtain ⟨E, hE⟩ : ∃ E, E = encL r0 := ⟨_, rfl⟩
  have hEl : E.length = 11 := by rw [hE, enc0]; rfl
  have HEN : Hid (∀ W, Calls Try.prog 33 #[.agg #[.int .i64 1, .int .i64 7, .int .i64 3, .string ⟨#[97]⟩, .string ⟨#[98, 99]⟩, .string ⟨#[]⟩, .int .i64 6, .string ⟨#[]⟩]] W
      fun e w' => ∃ g cap, e = .returned (.tuple #[.slice (some ⟨g, 0, none⟩) 11 cap, .int .i64 0]) ∧ BRow w' W.heap.size (.slice (some ⟨g, 0, none⟩) 11 cap) E ∧ Below W.heap.size W w') := fun W => by
    refine (henc W).mono ?_
    rintro e w' ⟨g, cap, he, ho, hb⟩
    refine ⟨g, cap, he, ?_, hb⟩
    unfold BRow
    rw [hEl, hE]
    exact ho
  have HDE : Hid (decR (E ++ [9]) = ⟨r0, 11, 0⟩) := by rw [hE, decR_enc (r := r0) rec0, ← hE, hEl]; exact rfl
  have HAL : Hid (allR (E ++ E) = ([r0, r0], 22)) := by rw [hE]; exact all0
  have HST : Hid (∀ W g c, BRow W 0 (.slice (some ⟨g, 0, none⟩) 11 c) E → (convert 48 9 (.slice (some ⟨g, 0, none⟩) 11 c)).run Try.prog W = .ok (.string ⟨#[11, 1, 7, 3, 6, 1, 97, 2, 98, 99, 0]⟩) W) := fun W g c h => by
    have h1 := conv_at W ⟨g, 0, none⟩ E c 11 hEl.symm (fun j x hx => by rw [addr_add]; exact h.cells j x hx)
    rw [h1, hE, enc0]
  have HD0 := hide (fun W => Decode_any none 0 0 [] W (fun h => absurd rfl h) rfl (by omega) (by unfold maxLen; omega))
  have HE := hide hE
  clear henc hE
  go_enter Try.func31, Try.ntmps31
  go_wp2_with fail
  refine ((unhide HEN) _).mono ?_
  rintro e w1 ⟨g, cap, rfl, ho1, b1⟩
  have HB1 := hide (((Below.refl w.heap.size w).alloc (Nat.le_refl _) (.cells #[.int .i64 1, .int .i64 7, .int .i64 3, .string ⟨#[97]⟩, .string ⟨#[98, 99]⟩, .string ⟨#[]⟩, .int .i64 6, .string ⟨#[]⟩] 47)).trans (b1.mono (by simp)))
  have HR1 := hide ((b1.block w.heap.size (by simp)).trans (heap_alloc_new w (.cells #[.int .i64 1, .int .i64 7, .int .i64 3, .string ⟨#[97]⟩, .string ⟨#[98, 99]⟩, .string ⟨#[]⟩, .int .i64 6, .string ⟨#[]⟩] 47)))
  have HO1 : Hid (BRow w1 0 (.slice (some ⟨g, 0, none⟩) 11 cap) E) := ownsRow_base ho1 (Nat.zero_le _)
  clear ho1 b1
  have hwl : w.heap.size < w1.heap.size := (Array.getElem?_eq_some_iff.1 (unhide HR1)).1
  have hgl : g < w1.heap.size := ((unhide HO1).lt g rfl).2
  have nE : ¬ E = [] := fun h => by rw [h] at hEl; cases hEl
  have e47 : ∀ W, (binOp .eql 47 (.agg #[.int .i64 1, .int .i64 7, .int .i64 3, .string ⟨#[97]⟩, .string ⟨#[98, 99]⟩, .string ⟨#[]⟩, .int .i64 6, .string ⟨#[]⟩]) (.agg #[.int .i64 1, .int .i64 7, .int .i64 3, .string ⟨#[97]⟩, .string ⟨#[98, 99]⟩, .string ⟨#[]⟩, .int .i64 6, .string ⟨#[]⟩])).run Try.prog W = .ok (.bool true) W := fun W => by
    have h := eql47 r0 r0 W
    rw [recB_self] at h
    exact h
  go_wp2_with (first
    | (at_builtin; refine wpList_bytes _ rfl _ _ rfl w1.heap.size (.slice none 0 0) [] rfl (BRow.nil _ _) (.slice (some ⟨g, 0, none⟩) 11 cap) 11 E rfl hEl (unhide HO1).lies (by simp) (Nat.le_refl _) ?_; intro ad2 c2 w2 ho2 hg2; have HO2 : Hid (BRow w2 w1.heap.size (.slice ad2 11 c2) E) := (by have h := ho2; simp only [List.length_nil, Nat.zero_add, List.nil_append] at h; exact h); have hz2 : w1.heap.size ≤ w2.heap.size := hg2.size)
    | (at_builtin; refine wpList_bytes _ rfl _ _ rfl w1.heap.size (.slice ad2 11 c2) E rfl ((unhide HO2).below ((Below.refl _ _).alloc (Nat.le_refl _) _)) (.slice (some ⟨w2.heap.size, 0, none⟩) 1 1) 1 [9] rfl rfl (by exact lies_block (heap_alloc_new w2 (.cells #[.int .u8 9] 5)) 1 1) (by omega) (by simp; omega) ?_; intro ad3 c3 w3 ho3 hg3))
  obtain ⟨g3, rfl, _⟩ := ho3.form (by simp)
  rw [hEl] at ho3
  have B13 : Hid (Below w1.heap.size w1 w3) := ((((Below.refl _ _).grown hg2 (Nat.le_refl _) (fun j hj => by simp [Value.ownBlock] at hj)).alloc hz2 (.cells #[.int .u8 9] 5)).grown hg3 (by simp; omega) (fun j hj => ((unhide HO2).lt j hj).1))
  have hdec := Decode_any (some ⟨g3, 0, none⟩) 12 c3 (E ++ [9]) w3 (fun _ => ⟨g3, 0, rfl, ho3.cells⟩) (by simp [hEl]) ho3.cap.1 (by unfold maxLen; omega)
  rw [HDE.out] at hdec
  have HDEC := hide hdec
  clear hdec ho3 hg3 ho2 hg2
  refine (unhide HDEC).mono ?_
  rintro e w4 ⟨b4, rfl⟩
  have B14 : Hid (Below w1.heap.size w1 w4) := (unhide B13).trans (b4.mono (unhide B13).size)
  have hz4 := (unhide B14).size
  clear b4
  simp only [ARec.val, r0]
  go_wp2_with fail
  refine ((unhide HD0) _).mono ?_
  rintro e w5 ⟨b5, rfl⟩
  have HR5 := hide ((b5.block w4.heap.size (by simp)).trans (heap_alloc_new w4 (.cells #[.int .i64 1, .int .i64 7, .int .i64 3, .string ⟨#[97]⟩, .string ⟨#[98, 99]⟩, .string ⟨#[]⟩, .int .i64 6, .string ⟨#[]⟩] 47)))
  have B15 : Hid (Below w1.heap.size w1 w5) := ((unhide B14).alloc hz4 _).trans (b5.mono (by simp; omega))
  have hz5 : w4.heap.size < w5.heap.size := (Array.getElem?_eq_some_iff.1 (unhide HR5)).1
  clear b5
  simp only [decR, ARec.val, zeroRec]
  have HO5 : Hid (BRow (w5.alloc (.cells #[.int .i64 0, .int .i64 0, .int .i64 0, .string ⟨#[]⟩, .string ⟨#[]⟩, .string ⟨#[]⟩, .int .i64 0, .string ⟨#[]⟩] 47)) 0 (.slice (some ⟨g, 0, none⟩) 11 cap) E) := ownsRow_same (unhide HO1) (fun k hk => ((unhide B15).alloc (unhide B15).size (.cells #[.int .i64 0, .int .i64 0, .int .i64 0, .string ⟨#[]⟩, .string ⟨#[]⟩, .string ⟨#[]⟩, .int .i64 0, .string ⟨#[]⟩] 47)).block k ((unhide HO1).lt k hk).2)
  go_wp2_with (first
    | (at_builtin; refine wpList_bytes _ rfl _ _ rfl (w5.heap.size + 1) (.slice none 0 0) [] rfl (BRow.nil _ _) (.slice (some ⟨g, 0, none⟩) 11 cap) 11 E rfl hEl (unhide HO5).lies (by simp) (by simp) ?_; intro ad6 c6 w6 ho6 hg6; have HO6 : Hid (BRow w6 (w5.heap.size + 1) (.slice ad6 11 c6) E) := (by have h := ho6; simp only [List.length_nil, Nat.zero_add, List.nil_append] at h; exact h); have hz6 : w5.heap.size + 1 ≤ w6.heap.size := (by have := hg6.size; simp at this; exact this); have HO6b : Hid (BRow w6 0 (.slice (some ⟨g, 0, none⟩) 11 cap) E) := ownsRow_same (unhide HO5) (fun k hk => hg6.block k ((unhide HO5).lt k hk).2 (by simp [Value.ownBlock])))
    | (at_builtin; refine wpList_bytes _ rfl _ _ rfl (w5.heap.size + 1) (.slice ad6 11 c6) E rfl (unhide HO6) (.slice (some ⟨g, 0, none⟩) 11 cap) 11 E rfl hEl (unhide HO6b).lies (by omega) hz6 ?_; intro ad7 c7 w7 ho7 hg7))
  obtain ⟨g7, rfl, _⟩ := ho7.form (by simp [nE])
  rw [hEl] at ho7
  have B57 : Hid (Below (w5.heap.size + 1) (w5.alloc (.cells #[.int .i64 0, .int .i64 0, .int .i64 0, .string ⟨#[]⟩, .string ⟨#[]⟩, .string ⟨#[]⟩, .int .i64 0, .string ⟨#[]⟩] 47)) w7) := (((Below.refl _ _).grown hg6 (by simp) (fun j hj => by simp [Value.ownBlock] at hj)).grown hg7 hz6 (fun j hj => ((unhide HO6).lt j hj).1))
  have hall := All_some g7 0 22 c7 (E ++ E) w7 ho7.cells ho7.cap.2.1 (by simp [hEl]) ho7.cap.1 (by omega)
  rw [HAL.out] at hall
  have HALL := hide hall
  clear hall ho7 hg7 ho6 hg6
  refine (unhide HALL).mono ?_
  rintro e w8 ⟨a8, c8, rfl, o8, b8⟩
  have B58 : Hid (Below (w5.heap.size + 1) (w5.alloc (.cells #[.int .i64 0, .int .i64 0, .int .i64 0, .string ⟨#[]⟩, .string ⟨#[]⟩, .string ⟨#[]⟩, .int .i64 0, .string ⟨#[]⟩] 47)) w8) := (unhide B57).trans (b8.mono (by have := (unhide B57).size; simp at this; omega))
  have B18 : Hid (Below w1.heap.size w1 w8) := ((unhide B15).alloc (unhide B15).size (.cells #[.int .i64 0, .int .i64 0, .int .i64 0, .string ⟨#[]⟩, .string ⟨#[]⟩, .string ⟨#[]⟩, .int .i64 0, .string ⟨#[]⟩] 47)).trans ((unhide B58).mono (by have := (unhide B15).size; omega))
  have HR8 := hide ((unhide B58).block w4.heap.size (by omega))
  have HR8' : Hid (w8.heap[w4.heap.size]? = some (.cells #[.int .i64 1, .int .i64 7, .int .i64 3, .string ⟨#[97]⟩, .string ⟨#[98, 99]⟩, .string ⟨#[]⟩, .int .i64 6, .string ⟨#[]⟩] 47 (0, 0))) := (unhide HR8).trans ((Below.heap_alloc w5 _ w4.heap.size hz5).trans (unhide HR5))
  have HRw : Hid (w8.heap[w.heap.size]? = some (.cells #[.int .i64 1, .int .i64 7, .int .i64 3, .string ⟨#[97]⟩, .string ⟨#[98, 99]⟩, .string ⟨#[]⟩, .int .i64 6, .string ⟨#[]⟩] 47 (0, 0))) := ((unhide B18).block w.heap.size hwl).trans (unhide HR1)
  obtain ⟨⟨y0, y1, y2, y3⟩, ⟨y4, y5, y6, y7⟩, _⟩ := eight (unhide HR8')
  obtain ⟨⟨z0, z1, z2, z3⟩, ⟨z4, z5, z6, z7⟩, _⟩ := eight (unhide HRw)
  have hst := (unhide HST) w8 g cap (ownsRow_same (unhide HO1) (fun k hk => (unhide B18).block k ((unhide HO1).lt k hk).2))
  have HFIN : Hid (Below w.heap.size w w8) := (unhide HB1).trans ((unhide B18).mono (unhide HB1).size)
  clear o8 b8
  dsimp only [List.length_cons, List.length_nil]
  go_wp2
  go_ret
  exact ⟨rfl, unhide HFIN⟩

end Go.Proofs.Ytlndphpidkacgaa
