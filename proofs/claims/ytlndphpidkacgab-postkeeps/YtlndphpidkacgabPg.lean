/- Take of a Post; SamePackets. -/
import Derived.Test.YtlndphpidkacgabPf
namespace Go.Proofs.Ytlndphpidkacgab
open Go.RowKit
set_option linter.unusedSimpArgs false
set_option linter.unusedVariables false

def zArr : Array Value := #[.bool false, .int .i64 0, .int .i64 0, .int .i64 0, .string ⟨#[]⟩, .string ⟨#[]⟩, .string ⟨#[]⟩, .int .i64 0, .string ⟨#[]⟩]
theorem psplit {ms : List APkt} {j : Nat} {f : APkt} (h : ms[j]? = some f) : ∃ l1 l2, ms = l1 ++ f :: l2 ∧ l1.length = j ∧ ms.eraseIdx j = l1 ++ l2 := by
  obtain ⟨hj, hf⟩ := List.getElem?_eq_some_iff.1 h
  refine ⟨ms.take j, ms.drop (j + 1), ?_, by simp; omega, ?_⟩
  · rw [← hf, List.getElem_cons_drop, List.take_append_drop]
  · rw [List.eraseIdx_eq_take_drop_succ]

set_option maxRecDepth 100000 in
set_option maxHeartbeats 4000000 in
theorem Take_Pnone {N : Nat} {w : World} {P : Nat} {v : Value} (h : PRep 47 N w P v []) (n : Int) :
    Calls Try.prog 10 #[.pointer (some ⟨P, 0, none⟩), .int .i64 n] w fun e w' => e = .returned (.tuple #[zeroPkt.val, .bool false]) ∧ PTurn 47 N w P v w' [] := by
  obtain ⟨V, hV⟩ : ∃ V, V = w.alloc (.cells zArr 33) := ⟨_, rfl⟩
  have hBV : Below w.heap.size w V := by rw [hV]; exact (Below.refl _ _).alloc (Nat.le_refl _) _
  have hXV : V.heap[w.heap.size]? = some (.cells zArr 33 (0, 0)) := by rw [hV]; exact heap_alloc_new _ _
  obtain ⟨V5, hV5⟩ : ∃ W, W = V.setRow w.heap.size zArr := ⟨_, rfl⟩
  have hZ : V5.heap[w.heap.size]? = some (.cells zArr 33 (0, 0)) := by rw [hV5]; exact setRow_heap V w.heap.size _ _ 33 (0, 0) hXV
  have hB5 : Below w.heap.size w V5 := by
    rw [hV5]
    exact ⟨hBV.os, hBV.tape, hBV.output, by simp [World.setRow]; exact hBV.size, fun k hk => (setRow_other V w.heap.size k _ (by omega)).trans (hBV.block k hk)⟩
  have HT := hide (PTurn.of_below h hB5)
  obtain ⟨⟨z0, z1, z2, z3⟩, ⟨z4, z5, z6, z7, z8⟩, _⟩ := nine hZ
  have hc := h.can.1
  have hPl := h.lt
  obtain ⟨a, cap, rfl⟩ := h.form
  have hcV := (hBV.cell (p := ⟨P, 0, none⟩) hPl).trans hc
  have HV := hide hV
  dsimp only [zeroPkt, APkt.val, zArr, List.length_nil] at *
  clear h hBV hZ hB5 hV
  rw [unhide HV] at hXV hV5
  go_enter Try.func10, Try.ntmps10
  go_wp2_with (refine wpList_store_row rfl 33 _ _ rfl w.heap.size #[.bool false, .int .i64 0, .int .i64 0, .int .i64 0, .string ⟨#[]⟩, .string ⟨#[]⟩, .string ⟨#[]⟩, .int .i64 0, .string ⟨#[]⟩] rfl rfl 33 _ hXV infoP rfl (by simp [Value.oneCell']) ?_)
  rw [← hV5]
  refine bodyPost_ret (v := .tuple #[.agg #[.bool false, .int .i64 0, .int .i64 0, .int .i64 0, .string ⟨#[]⟩, .string ⟨#[]⟩, .string ⟨#[]⟩, .int .i64 0, .string ⟨#[]⟩], .bool false]) (by simp [results, Try.results10, go_sem, z0, z1, z2, z3, z4, z5, z6, z7, z8]) rfl ⟨rfl, unhide HT⟩

/-- What was put into a block of the call's own leaves the object. -/
theorem PTurn.store {t : TypeId} {N : Nat} {w V W3 W4 : World} {P : Nat} {v : Value} {ms ms' : List APkt} {R : Nat} (h0 : PRep t N w P v ms) (hb : Below w.heap.size w V) (hT : PTurn t N V P v W3 ms') (hR1 : w.heap.size ≤ R) (hR2 : R < V.heap.size) (hk : Kept [R] W3 W4) : PTurn t N w P v W4 ms' := by
  obtain ⟨v', hr, hk1, hn⟩ := hT
  refine ⟨v', hr.kept hk (fun k h1 h2 => ?_), ((Kept.of_below hb).trans hk1 (fun x hx => .inl hx)).trans hk (fun x hx => ?_), fun k hk2 => ?_⟩
  · simp at h2
    subst h2
    rcases hn _ h1 with h3 | h3
    · have := (h0.ge _ h3).2; omega
    · omega
  · simp at hx; subst hx; exact .inr hR1
  · rcases hn k hk2 with h | h
    · exact .inl h
    · right; have := hb.size; omega
theorem kept_setRow (w : World) (b : Nat) (cs : Array Value) : Kept [b] w (w.setRow b cs) := ⟨rfl, rfl, rfl, by simp [World.setRow], fun k hk hn => setRow_other w b k cs (by simpa using hn)⟩

set_option maxRecDepth 100000 in
set_option maxHeartbeats 8000000 in
theorem Take_P {N : Nat} {w : World} {P : Nat} {v : Value} {l1 l2 : List APkt} {m : APkt} (h : PRep 47 N w P v (l1 ++ m :: l2)) (n : Int) (hr : rnd n (l1 ++ m :: l2).length = l1.length) :
    Calls Try.prog 10 #[.pointer (some ⟨P, 0, none⟩), .int .i64 n] w fun e w' => e = .returned (.tuple #[m.val, .bool true]) ∧ PTurn 47 N w P v w' (l1 ++ l2) := by
  obtain ⟨k, hk⟩ : ∃ k, (l1 ++ m :: l2).length = k := ⟨_, rfl⟩
  obtain ⟨r, hrr⟩ : ∃ r, l1.length = r := ⟨_, rfl⟩
  have hrk : r < k := by rw [← hk, ← hrr]; simp
  have hk40 : k ≤ 40 := by rw [← hk]; exact h.few
  obtain ⟨V, hV⟩ : ∃ V, V = w.alloc (.cells zArr 33) := ⟨_, rfl⟩
  have hBV : Below w.heap.size w V := by rw [hV]; exact (Below.refl _ _).alloc (Nat.le_refl _) _
  have hRV : V.heap[w.heap.size]? = some (.cells zArr 33 (0, 0)) := by rw [hV]; exact heap_alloc_new _ _
  have hrV := h.below hBV
  have HRD := hide (round_P hrV n hk (by omega))
  rw [hk, hrr] at hr
  rw [hr] at HRD
  have HCL := hide (fun W => clone_P m W (h.small m (by simp)))
  obtain ⟨a, cap, rfl⟩ := h.form
  obtain ⟨g0, hg0, hc⟩ := (pkts_row hrV.row rfl).2 (by rw [hk]; omega)
  have hat := hc r m (by rw [← hrr]; simp)
  cases hg0
  have HH := hide h
  have HRV := hide hrV
  have hcV := hrV.can.1
  have hcw := h.can.1
  have hPl := h.lt
  have hgl : g0 < w.heap.size := (h.row.lt g0 rfl).2
  rw [hk] at hcV hcw
  have hzV : V.heap.size = w.heap.size + 1 := by rw [hV]; simp
  have hri : (r : Int) < (k : Int) := by omega
  have hr0 : (0 : Int) ≤ (r : Int) := by omega
  have h0i : ((k : Int) == 0) = false := by simp; omega
  have hwr : IntKind.i64.wrap ((r : Int) + 1) = (r : Int) + 1 := by rw [IntKind.wrap_i64]; omega
  obtain ⟨x0, x1, x2, x3, x4, x5, x6, x7, x8⟩ := hat
  have HHK := hide hk
  have HRR := hide hrr
  have HBV := hide hBV
  have HRB := hide hRV
  have HV := hide hV
  have HDL := hide (fun W (hW : PRep 47 N W P (.slice (some ⟨g0, 0, none⟩) k cap) (l1 ++ m :: l2)) => DeleteP_rep hW hk.symm)
  rw [hrr] at HDL
  rw [hk] at HH HRV
  have HVV : Hid (∀ x : Value, x = (.slice (some ⟨g0, 0, none⟩) k cap : Value) → x = (.slice (some ⟨g0, 0, none⟩) (l1 ++ m :: l2).length cap)) := fun x hx => by rw [hx, hk]
  clear h hc hBV hRV hrV hV hk hrr hr
  obtain ⟨y, c, nn, ⟨kk, s1, s2, s3⟩, d, u⟩ := m
  dsimp only [APkt.val, zArr] at *
  go_enter Try.func10, Try.ntmps10
  go_wp2_with fail
  rw [← unhide HV]
  clear hcw
  refine (unhide HRD).mono ?_
  rintro e w0 ⟨rfl, hw0⟩
  obtain rfl := hw0.symm
  clear hw0
  go_wp2_with fail
  refine ((unhide HCL) _).mono ?_
  rintro e w1 ⟨rfl, b1⟩
  clear x0 x1 x2 x3 x4 x5 x6 x7 x8 hcV
  obtain ⟨V1, hV1⟩ : ∃ V1, V1 = w1.alloc (.cells #[.bool y, .int .i64 c, .int .i64 nn, .int .i64 kk, .string s1, .string s2, .string s3, .int .i64 d, .string u] 33) := ⟨_, rfl⟩
  have hb1 : Below w1.heap.size w1 V1 := by rw [hV1]; exact (Below.refl _ _).alloc (Nat.le_refl _) _
  have hbV1 : Below V.heap.size V V1 := b1.trans (hb1.mono b1.size)
  have hMV1 : V1.heap[w1.heap.size]? = some (.cells #[.bool y, .int .i64 c, .int .i64 nn, .int .i64 kk, .string s1, .string s2, .string s3, .int .i64 d, .string u] 33 (0, 0)) := by rw [hV1]; exact heap_alloc_new _ _
  have hRV1 := (hbV1.block w.heap.size (by omega)).trans (unhide HRB)
  have hrV1 := (unhide HRV).below hbV1
  have HDL1 := hide ((unhide HDL) V1 hrV1)
  have hcw1 := ((unhide HRV).below b1).can.1
  have hPw1 : P < w1.heap.size := ((unhide HRV).below b1).lt
  have HbV1 := hide ((unhide HBV).trans (hbV1.mono (unhide HBV).size))
  have HMV1 := hide hMV1
  have HRV1 := hide hRV1
  have HV1 := hide hV1
  have hz1 : V.heap.size ≤ w1.heap.size := b1.size
  have hzV1 : V1.heap.size = w1.heap.size + 1 := by rw [hV1]; simp
  clear b1 hb1 hbV1 hMV1 hRV1 hrV1 hV1
  go_wp2_with fail
  rw [← unhide HV1]
  clear hcw1
  refine (unhide HDL1).mono ?_
  rintro e w2 ⟨rfl, hk2, hgP, hcan2, hT2⟩
  obtain ⟨W3, hW3⟩ : ∃ W3, W3 = w2.setCell ⟨P, 0, none⟩ (.slice (some ⟨g0, 0, none⟩) (k - 1) cap) := ⟨_, rfl⟩
  rw [← hW3] at hT2
  have hM2 := (hk2.block w1.heap.size (by omega) (by simp; omega)).trans (unhide HMV1)
  have hR2 := (hk2.block w.heap.size (by omega) (by simp; omega)).trans (unhide HRV1)
  have hR3 := (Below.heap_setCell w2 ⟨P, 0, none⟩ (.slice (some ⟨g0, 0, none⟩) (k - 1) cap) w.heap.size (by simp; omega)).trans hR2
  rw [← hW3] at hR3
  obtain ⟨⟨m0, m1, m2, m3⟩, ⟨m4, m5, m6, m7, m8⟩, _⟩ := nine hM2
  have hcp := hcan2.1
  have hcf := hcan2.2
  obtain ⟨W4, hW4⟩ : ∃ W4, W4 = W3.setRow w.heap.size #[.bool y, .int .i64 c, .int .i64 nn, .int .i64 kk, .string s1, .string s2, .string s3, .int .i64 d, .string u] := ⟨_, rfl⟩
  have hZ : W4.heap[w.heap.size]? = some (.cells #[.bool y, .int .i64 c, .int .i64 nn, .int .i64 kk, .string s1, .string s2, .string s3, .int .i64 d, .string u] 33 (0, 0)) := by rw [hW4]; exact setRow_heap W3 w.heap.size _ _ 33 (0, 0) hR3
  have hT4 := PTurn.store (W4 := W4) (R := w.heap.size) (unhide HH) (unhide HbV1) hT2 (Nat.le_refl _) (by omega) (by rw [hW4]; exact kept_setRow W3 _ _)
  have HT4 := hide hT4
  obtain ⟨⟨z0, z1, z2, z3⟩, ⟨z4, z5, z6, z7, z8⟩, _⟩ := nine hZ
  rw [hW3] at hR3 hW4
  clear hk2 hcan2 hT2 hM2 hR2 hT4 hZ hW3
  go_wp2_with (refine wpList_store_row rfl 33 _ _ rfl w.heap.size #[.bool y, .int .i64 c, .int .i64 nn, .int .i64 kk, .string s1, .string s2, .string s3, .int .i64 d, .string u] rfl rfl 33 _ hR3 infoP rfl (by simp [Value.oneCell']) ?_)
  rw [← hW4]
  refine bodyPost_ret (v := .tuple #[.agg #[.bool y, .int .i64 c, .int .i64 nn, .int .i64 kk, .string s1, .string s2, .string s3, .int .i64 d, .string u], .bool true]) (by simp [results, Try.results10, go_sem, z0, z1, z2, z3, z4, z5, z6, z7, z8]) rfl ⟨rfl, by rw [unhide HHK]; exact unhide HT4⟩

end Go.Proofs.Ytlndphpidkacgab
