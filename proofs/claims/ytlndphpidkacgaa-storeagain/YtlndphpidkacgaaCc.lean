/- Package codec: Encode. -/
import Derived.Test.YtlndphpidkacgaaCb
import Derived.Test.YtlndphpidkacgaaWl
import Derived.Laws.OwnMore
namespace Go.Proofs.Ytlndphpidkacgaa
open Go.RowKit
set_option linter.unusedSimpArgs false
set_option linter.unusedVariables false

/-- What holds of a record that may be. -/
structure RecOk (r : ARec) : Prop where
  c0 : 0 ≤ r.client
  c1 : r.client ≤ 2
  n0 : 1 ≤ r.no
  n1 : r.no ≤ 200
  k0 : 1 ≤ r.call.kind
  k1 : r.call.kind ≤ 4
  chk : checkI r.call = 0
  d0 : 0 ≤ r.code
  d1 : r.code ≤ 99
  ans : r.ans = ⟨#[]⟩
  name : r.call.name.size ≤ 5
  dst : r.call.dst.size ≤ 5
  text : r.call.text.size ≤ 8

theorem emptyB_size {s : ByteArray} (h : emptyB s = true) : s.size = 0 := by
  unfold emptyB at h
  rw [empty_toList] at h
  rw [of_decide_eq_true h]; rfl

theorem changesB_iff {k : Int} : changesB k = true ↔ 1 ≤ k ∧ k ≤ 4 := by
  unfold changesB
  simp
  omega

theorem rec_ok {r : ARec} (h : recI r = 0) : RecOk r := by
  unfold recI at h
  by_cases q1 : r.client < 0 ∨ 2 < r.client ∨ r.no < 1 ∨ 200 < r.no
  · rw [if_pos q1] at h; cases h
  rw [if_neg q1] at h
  by_cases q2 : changesB r.call.kind = false
  · rw [if_pos q2] at h; cases h
  rw [if_neg q2] at h
  by_cases q3 : checkI r.call ≠ 0
  · rw [if_pos q3] at h; exact absurd h q3
  rw [if_neg q3] at h
  by_cases q4 : r.code < 0 ∨ 99 < r.code
  · rw [if_pos q4] at h; cases h
  rw [if_neg q4] at h
  by_cases q5 : r.ans ≠ ⟨#[]⟩
  · rw [if_pos q5] at h; cases h
  have q2' : changesB r.call.kind = true := by simpa using q2
  have q3' : checkI r.call = 0 := by simpa using q3
  obtain ⟨hk0, hk1⟩ := changesB_iff.1 q2'
  obtain ⟨_, _, hfm, hnm, htx⟩ := check_zero q3'
  have hn := nameB_size (named_name hnm (by omega))
  have hf2 := hfm
  unfold formedB at hf2
  simp only [Bool.and_eq_true, Bool.or_eq_true] at hf2
  obtain ⟨⟨_, f1⟩, f2⟩ := hf2
  refine ⟨by omega, by omega, by omega, by omega, hk0, hk1, q3', by omega, by omega, by simpa using q5, by omega, ?_, ?_⟩
  · rcases f1 with f | f
    · rw [emptyB_size f]; omega
    · have h3 : r.call.kind = 3 := by simpa using f
      have := nameB_size (named_dst hnm h3)
      omega
  · rcases f2 with f | f
    · rw [emptyB_size f]; omega
    · have h4 : r.call.kind = 4 := by simpa using f
      have := htx h4
      unfold textB withinB at this
      simp only [Bool.and_eq_true, decide_eq_true_eq] at this
      omega

def ARec.texts (r : ARec) : List ByteArray := [r.call.name, r.call.dst, r.call.text]

/-- The bytes of a record. -/
def encL (r : ARec) : List UInt8 :=
  UInt8.ofNat (5 + (tb r.texts).length) :: [UInt8.ofNat r.client.toNat, UInt8.ofNat r.no.toNat, UInt8.ofNat r.call.kind.toNat, UInt8.ofNat r.code.toNat] ++ tb r.texts

theorem ofInt_u8 {x : Int} (h0 : 0 ≤ x) (h1 : x ≤ 255) : (((UInt8.ofNat x.toNat).toNat : Nat) : Int) = x := by
  have : (UInt8.ofNat x.toNat).toNat = x.toNat := by simp; omega
  rw [this]; omega

theorem enc_bv (r : ARec) (c0 : 0 ≤ r.client) (n0 : 1 ≤ r.no) (k0 : 1 ≤ r.call.kind) (d0 : 0 ≤ r.code) (c1 : r.client ≤ 2) (n1 : r.no ≤ 200) (k1 : r.call.kind ≤ 4) (d1 : r.code ≤ 99) (hL : (tb r.texts).length ≤ 250) :
    bv (encL r) = [.int .u8 (5 + ((tb r.texts).length : Int)), .int .u8 r.client, .int .u8 r.no, .int .u8 r.call.kind, .int .u8 r.code] ++ bv (tb r.texts) := by
  have e : (((UInt8.ofNat (5 + (tb r.texts).length)).toNat : Nat) : Int) = 5 + ((tb r.texts).length : Int) := by
    have : (UInt8.ofNat (5 + (tb r.texts).length)).toNat = 5 + (tb r.texts).length := by simp; omega
    rw [this]; omega
  unfold encL
  simp only [bv, List.map_append, List.map_cons, List.map_nil, e, ofInt_u8 c0 (by omega), ofInt_u8 (x := r.no) (by omega) (by omega), ofInt_u8 (x := r.call.kind) (by omega) (by omega), ofInt_u8 d0 (by omega), List.cons_append, List.nil_append]

set_option maxRecDepth 100000 in
set_option maxHeartbeats 2000000 in
theorem Encode_no (c n k : Int) (a b t : ByteArray) (d : Int) (u : ByteArray) (w : World) (ha : a.size ≤ maxLen) (hb : b.size ≤ maxLen) (ht : t.size ≤ maxLen) (hr : recI ⟨c, n, ⟨k, a, b, t⟩, d, u⟩ ≠ 0) :
    Calls Try.prog 33 #[.agg #[.int .i64 c, .int .i64 n, .int .i64 k, .string a, .string b, .string t, .int .i64 d, .string u]] w
      fun e w' => e = .returned (.tuple #[.slice none 0 0, .int .i64 (recI ⟨c, n, ⟨k, a, b, t⟩, d, u⟩)]) ∧ Below w.heap.size w w' := by
  have HC := hide (fun W => cCheck_any c n k a b t d u W ha hb ht)
  generalize recI ⟨c, n, ⟨k, a, b, t⟩, d, u⟩ = rr at hr HC ⊢
  go_enter Try.func33, Try.ntmps33
  go_wp2_with fail
  refine ((unhide HC) _).mono ?_
  rintro e w1 ⟨rfl, b1⟩
  go_wp2
  go_ret2
  exact ⟨rfl, ((Below.refl _ _).alloc (Nat.le_refl _) _).trans (b1.mono (by simp))⟩

set_option maxRecDepth 100000 in
set_option maxHeartbeats 2000000 in
theorem Encode_ok (c n k : Int) (a b t : ByteArray) (d : Int) (u : ByteArray) (w : World) (hr : recI ⟨c, n, ⟨k, a, b, t⟩, d, u⟩ = 0) :
    Calls Try.prog 33 #[.agg #[.int .i64 c, .int .i64 n, .int .i64 k, .string a, .string b, .string t, .int .i64 d, .string u]] w
      fun e w' => ∃ g cap, e = .returned (.tuple #[.slice (some ⟨g, 0, none⟩) (5 + (tb [a, b, t]).length) cap, .int .i64 0]) ∧ w'.ownsRow w.heap.size 5 1 (.slice (some ⟨g, 0, none⟩) (5 + (tb [a, b, t]).length) cap) (5 + (tb [a, b, t]).length) (bv (encL ⟨c, n, ⟨k, a, b, t⟩, d, u⟩)) ∧ Below w.heap.size w w' := by
  obtain ⟨c0, c1, n0, n1, k0, k1, chk, d0, d1, hu, s1, s2, s3⟩ := rec_ok hr
  dsimp only at c0 c1 n0 n1 k0 k1 chk d0 d1 hu s1 s2 s3
  have HC := hide (fun W => cCheck_any c n k a b t d u W (by unfold maxLen; omega) (by unfold maxLen; omega) (by unfold maxLen; omega))
  rw [hr] at HC
  have hts : ∀ x, x ∈ [a, b, t] → x.size ≤ 255 := by intro x hx; simp at hx; rcases hx with rfl | rfl | rfl <;> omega
  have hL : (tb [a, b, t]).length ≤ 250 := by simp [tb, ebytes_length]; omega
  obtain ⟨L, HLn⟩ : ∃ L, Hid ((tb [a, b, t]).length = L) := ⟨_, rfl⟩
  rw [HLn.out] at hL ⊢
  have wc : IntKind.u8.wrap c = c := by rw [IntKind.wrap_u8]; omega
  have wn : IntKind.u8.wrap n = n := by rw [IntKind.wrap_u8]; omega
  have wk : IntKind.u8.wrap k = k := by rw [IntKind.wrap_u8]; omega
  have wd : IntKind.u8.wrap d = d := by rw [IntKind.wrap_u8]; omega
  have wL : IntKind.u8.wrap ((5 + L : Nat) : Int) = ((5 + L : Nat) : Int) := by rw [IntKind.wrap_u8]; omega
  obtain ⟨E, HE⟩ : ∃ E, Hid (bv (encL ⟨c, n, ⟨k, a, b, t⟩, d, u⟩) = E) := ⟨_, rfl⟩
  rw [HE.out]
  have HT := hide hts
  have HB0 := hide (And.intro c0 (And.intro n0 (And.intro k0 d0)))
  have HB1 := hide (And.intro c1 (And.intro n1 (And.intro k1 d1)))
  clear hts c0 c1 n0 n1 k0 k1 d0 d1 chk hu s1 s2 s3 hr
  go_enter Try.func33, Try.ntmps33
  go_wp2_with fail
  refine ((unhide HC) _).mono ?_
  rintro e w1 ⟨rfl, b1⟩
  have q0 := b1.cell (p := ⟨w.heap.size, 0, none⟩) (by simp)
  have q1 := b1.cell (p := ⟨w.heap.size, 1, none⟩) (by simp)
  have q2 := b1.cell (p := ⟨w.heap.size, 2, none⟩) (by simp)
  have q3 := b1.cell (p := ⟨w.heap.size, 3, none⟩) (by simp)
  have q4 := b1.cell (p := ⟨w.heap.size, 4, none⟩) (by simp)
  have q5 := b1.cell (p := ⟨w.heap.size, 5, none⟩) (by simp)
  have q6 := b1.cell (p := ⟨w.heap.size, 6, none⟩) (by simp)
  have hz : w.heap.size < w1.heap.size := by have := b1.size; simp at this; omega
  simp at q0 q1 q2 q3 q4 q5 q6
  have HB := hide (((Below.refl w.heap.size w).alloc (Nat.le_refl _) _).trans (b1.mono (by simp)))
  clear b1
  go_wp2_with fail
  have HW : Hid (Below w.heap.size w ((w1.alloc (.cells #[.int .u8 0, .int .u8 c, .int .u8 n, .int .u8 k, .int .u8 d] 5)).alloc (.cells #[.string a, .string b, .string t] 9))) :=
    ((unhide HB).alloc (by omega) _).alloc (by simp; omega) _
  have hrow0 : w1.alloc (.cells #[.int .u8 0, .int .u8 c, .int .u8 n, .int .u8 k, .int .u8 d] 5) |>.ownsRow w.heap.size 5 1 (.slice (some ⟨w1.heap.size, 0, none⟩) 5 5) 5 [.int .u8 0, .int .u8 c, .int .u8 n, .int .u8 k, .int .u8 d] :=
    World.ownsRow_lit w1 #[.int .u8 0, .int .u8 c, .int .u8 n, .int .u8 k, .int .u8 d] 5 (by omega) (by unfold maxLen; omega) rfl
  have hput := cput_any w.heap.size w1.heap.size 5 5 (w1.heap.size + 1) 3 [.int .u8 0, .int .u8 c, .int .u8 n, .int .u8 k, .int .u8 d] [a, b, t] _ (hrow0.alloc (.cells #[.string a, .string b, .string t] 9)) (by omega) (by omega) (by simp) (by omega)
    (fun j x hx => by
      rw [al_new _ _ _ _ _ _ (by simp)]
      match j, hx with
      | 0, hx => simpa using hx
      | 1, hx => simpa using hx
      | 2, hx => simpa using hx
      | (j + 3), hx => simp at hx) (unhide HT)
  rw [HLn.out] at hput
  refine hput.mono ?_
  rintro e w2 ⟨g, cap, rfl, hown2, b2⟩
  have HB2 := hide ((unhide HW).trans b2)
  have x0 := hown2.cellAt 0 (by omega)
  have x1 := hown2.frozenAt 0
  have x2 := (hown2.lt g rfl).2
  have HO2 := hide hown2
  simp at x0
  clear hput hrow0 hown2 b2 q0 q1 q2 q3 q4 q5 q6
  go_wp2
  go_ret2
  obtain ⟨hs1, hs2⟩ := (unhide HO2).stored 0 (.int .u8 (5 + (L : Int)))
  refine ⟨g, cap, rfl, ?_, (unhide HB2).grown hs2 (unhide HB2).size (fun j hj => ((unhide HO2).lt j (by simpa [Value.ownBlock] using hj)).1)⟩
  rw [← HE.out, enc_bv _ (unhide HB0).1 (unhide HB0).2.1 (unhide HB0).2.2.1 (unhide HB0).2.2.2 (unhide HB1).1 (unhide HB1).2.1 (unhide HB1).2.2.1 (unhide HB1).2.2.2 (by show (tb [a, b, t]).length ≤ 250; rw [HLn.out]; exact hL)]
  show _ = _ ∧ _
  have e : (tb (ARec.texts ⟨c, n, ⟨k, a, b, t⟩, d, u⟩)).length = L := HLn.out
  rw [e]
  exact hs1

end Go.Proofs.Ytlndphpidkacgaa
