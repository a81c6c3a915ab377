/- Take and Double of a Bag; SamePackets. -/
import Derived.Test.YtlndphpidkacgabPg
import Derived.BigQuiet
import Derived.Deep.QuietTactic
namespace Go.Proofs.Ytlndphpidkacgab
open Go.RowKit
set_option linter.unusedSimpArgs false
set_option linter.unusedVariables false

theorem lies_prow {w : World} {base g n cap : Nat} {l1 l2 : List APkt} {m : APkt} (ho : w.ownsRow base 33 9 (.slice (some ⟨g, 0, none⟩) n cap) n ((l1 ++ m :: l2).flatMap pcells)) (hn : (l1 ++ m :: l2).length = n) (W : World) (hW : W.heap[g]? = w.heap[g]?) :
    Lies W (.slice (some ⟨g, 0, none⟩) l1.length cap) l1.length (l1.flatMap pcells) ∧ Lies W (.slice (if cap = l1.length + 1 then some ⟨g, 0, none⟩ else some ⟨g, (l1.length + 1) * 9, none⟩) (n - (l1.length + 1)) (cap - (l1.length + 1))) (n - (l1.length + 1)) (l2.flatMap pcells) := by
  have hc := ho.cells (g := g) rfl
  have hcap : n ≤ cap := row_cap ho
  have hW' : ∀ i, W.cell? ⟨g, i, none⟩ = w.cell? ⟨g, i, none⟩ := fun i => World.cell?_of_block (a := ⟨g, i, none⟩) hW
  have hfl : (pcells m).length = 9 := rfl
  have hflat : (l1 ++ m :: l2).flatMap pcells = l1.flatMap pcells ++ (pcells m ++ l2.flatMap pcells) := by simp
  refine ⟨.inr ⟨_, _, rfl, fun j u hu => ?_⟩, ?_⟩
  · rw [addr_add, hW']
    have := hc j u (by rw [hflat, List.getElem?_append_left (List.getElem?_eq_some_iff.1 hu).1]; exact hu)
    rwa [addr_add] at this
  · by_cases h : cap = l1.length + 1
    · rw [if_pos h]
      refine .inr ⟨_, _, rfl, fun j u hu => ?_⟩
      exfalso
      have h2 : l2 = [] := by
        have : l2.length = 0 := by simp at hn; omega
        exact List.length_eq_zero_iff.1 this
      rw [h2] at hu
      simp at hu
    · rw [if_neg h]
      refine .inr ⟨_, _, rfl, fun j u hu => ?_⟩
      rw [addr_add, hW']
      have := hc ((l1.length + 1) * 9 + j) u (by rw [hflat, List.getElem?_append_right (by rw [pflat_len]; omega), pflat_len, List.getElem?_append_right (by rw [hfl]; omega), hfl, show (l1.length + 1) * 9 + j - l1.length * 9 - 9 = j by omega]; exact hu)
      rwa [addr_add, Nat.zero_add] at this

/-- The list laid anew. -/
theorem PRep.lay {t : TypeId} {N : Nat} {w w4 : World} {P : Nat} {v v' : Value} {ms ms' : List APkt} (h : PRep t N w P v ms) (hk : Below w.heap.size w w4) (hrow : w4.ownsRow N 33 9 v' ms'.length (ms'.flatMap pcells))
    (hat : ∀ k, v'.ownBlock = some k → w.heap.size ≤ k) (hf : ms'.length ≤ 40) (hs : ∀ m, m ∈ ms' → SmallP m) : PTurn t N w P v (w4.setCell ⟨P, 0, none⟩ v') ms' := by
  have hnD : v'.ownBlock ≠ some P := fun e => by have h1 := hat P e; have := h.lt; omega
  have hD4 : w4.heap[P]? = some (.cells #[v] t (0, 0)) := (hk.block P h.lt).trans h.blk
  refine ⟨v', ⟨h.new, ?_, ?_, hnD, hf, hs⟩, ?_, fun k hk2 => ?_⟩
  · rw [heap_setCell_same hD4 v']; rfl
  · exact ownsRow_same hrow (fun k hk2 => Below.heap_setCell _ _ _ _ (fun e => hnD (by rw [hk2]; simp at e; rw [e])))
  · exact (Kept.of_below hk).trans (kept_setCell [P] w4 P 0 v' (by simp)) (fun x hx => .inl (by rw [List.mem_singleton.1 hx]; exact List.mem_cons_self))
  · rcases List.mem_cons.1 hk2 with rfl | h1
    · exact .inl List.mem_cons_self
    · exact .inr (hat k (by simpa using h1))

set_option maxRecDepth 100000 in
set_option maxHeartbeats 4000000 in
theorem Take_Bnone {N : Nat} {w : World} {P : Nat} {v : Value} (h : PRep 27 N w P v []) (n : Int) :
    Calls Try.prog 11 #[.pointer (some ⟨P, 0, none⟩), .int .i64 n] w fun e w' => e = .returned (.tuple #[zeroPkt.val, .bool false]) ∧ PTurn 27 N w P v w' [] := by
  obtain ⟨V, hV⟩ : ∃ V, V = w.alloc (.cells zArr 33) := ⟨_, rfl⟩
  have hBV : Below w.heap.size w V := by rw [hV]; exact (Below.refl _ _).alloc (Nat.le_refl _) _
  have hXV : V.heap[w.heap.size]? = some (.cells zArr 33 (0, 0)) := by rw [hV]; exact heap_alloc_new _ _
  obtain ⟨V5, hV5⟩ : ∃ W, W = V.setRow w.heap.size zArr := ⟨_, rfl⟩
  have hZ : V5.heap[w.heap.size]? = some (.cells zArr 33 (0, 0)) := by rw [hV5]; exact setRow_heap V w.heap.size _ _ 33 (0, 0) hXV
  have hB5 : Below w.heap.size w V5 := by
    rw [hV5]
    exact ⟨hBV.os, hBV.tape, hBV.output, by simp [World.setRow]; exact hBV.size, fun k hk => (setRow_other V w.heap.size k _ (by omega)).trans (hBV.block k hk)⟩
  have HT := hide (PTurn.of_below h hB5)
  obtain ⟨⟨z0, z1, z2, z3⟩, ⟨z4, z5, z6, z7, z8⟩, _⟩ := nine hZ
  have hc := h.can.1
  have hPl := h.lt
  obtain ⟨a, cap, rfl⟩ := h.form
  have HV := hide hV
  dsimp only [zeroPkt, APkt.val, zArr, List.length_nil] at *
  clear h hBV hZ hB5 hV
  rw [unhide HV] at hXV hV5
  go_enter Try.func11, Try.ntmps11
  go_wp2_with (refine wpList_store_row rfl 33 _ _ rfl w.heap.size #[.bool false, .int .i64 0, .int .i64 0, .int .i64 0, .string ⟨#[]⟩, .string ⟨#[]⟩, .string ⟨#[]⟩, .int .i64 0, .string ⟨#[]⟩] rfl rfl 33 _ hXV infoP rfl (by simp [Value.oneCell']) ?_)
  rw [← hV5]
  refine bodyPost_ret (v := .tuple #[.agg #[.bool false, .int .i64 0, .int .i64 0, .int .i64 0, .string ⟨#[]⟩, .string ⟨#[]⟩, .string ⟨#[]⟩, .int .i64 0, .string ⟨#[]⟩], .bool false]) (by simp [results, Try.results11, go_sem, z0, z1, z2, z3, z4, z5, z6, z7, z8]) rfl ⟨rfl, unhide HT⟩

set_option maxRecDepth 100000 in
set_option maxHeartbeats 8000000 in
theorem Take_B {N : Nat} {w : World} {P : Nat} {v : Value} {l1 l2 : List APkt} {m : APkt} (h : PRep 27 N w P v (l1 ++ m :: l2)) (n : Int) (hr : rnd n (l1 ++ m :: l2).length = l1.length) :
    Calls Try.prog 11 #[.pointer (some ⟨P, 0, none⟩), .int .i64 n] w fun e w' => e = .returned (.tuple #[m.val, .bool true]) ∧ PTurn 27 N w P v w' (l1 ++ l2) := by
  obtain ⟨i0, hi0, hz0, hz1, hz2⟩ := info_parts infoPP
  obtain ⟨k, hk⟩ : ∃ k, (l1 ++ m :: l2).length = k := ⟨_, rfl⟩
  obtain ⟨r, hrr⟩ : ∃ r, l1.length = r := ⟨_, rfl⟩
  have hrk : r < k := by rw [← hk, ← hrr]; simp
  have hk40 : k ≤ 40 := by rw [← hk]; exact h.few
  have hkl : l2.length = k - (r + 1) := by rw [← hk, ← hrr]; simp; omega
  obtain ⟨V, hV⟩ : ∃ V, V = w.alloc (.cells zArr 33) := ⟨_, rfl⟩
  have hBV : Below w.heap.size w V := by rw [hV]; exact (Below.refl _ _).alloc (Nat.le_refl _) _
  have hRV : V.heap[w.heap.size]? = some (.cells zArr 33 (0, 0)) := by rw [hV]; exact heap_alloc_new _ _
  have hrV := h.below hBV
  have HRD := hide (at_B hrV n hk (by omega))
  rw [hk, hrr] at hr
  rw [hr] at HRD
  have HSM := hide h.small
  obtain ⟨a, cap, rfl⟩ := h.form
  obtain ⟨g0, hg0, hc⟩ := (pkts_row hrV.row rfl).2 (by rw [hk]; omega)
  have hat := hc r m (by rw [← hrr]; simp)
  cases hg0
  have hcapn : k ≤ cap := by have := row_cap h.row; omega
  have hcapm : cap ≤ maxLen := by
    rcases h.row.2 with ⟨he, _⟩ | ⟨g', cap', cur, he, _, _, hnc, hcm, _⟩
    · cases he
    · obtain ⟨_, rfl⟩ : g0 = g' ∧ cap = cap' := by simpa using he
      exact hcm
  unfold maxLen at hcapm
  have HN : Hid (N ≤ w.heap.size) := Nat.le_trans h.new (Nat.le_of_lt h.lt)
  have HH := hide h
  have HRV := hide hrV
  have hcV := hrV.can.1
  have hcw := h.can.1
  have hPl := h.lt
  have hgl : g0 < w.heap.size := (h.row.lt g0 rfl).2
  rw [hk] at hcV hcw
  have hzV : V.heap.size = w.heap.size + 1 := by rw [hV]; simp
  have hri : (r : Int) < (k : Int) := by omega
  have hr0 : (0 : Int) ≤ (r : Int) := by omega
  have ix2 : (r : Int) + 1 ≤ (k : Int) := by omega
  have ix3 : (0 : Int) ≤ (r : Int) + 1 := by omega
  have ic1 : r ≤ cap := by omega
  have ic2 : r + 1 ≤ cap := by omega
  have htn : ((r : Int) + 1).toNat = r + 1 := by omega
  have h0i : ((k : Int) == 0) = false := by simp; omega
  have hwr : IntKind.i64.wrap ((r : Int) + 1) = (r : Int) + 1 := by rw [IntKind.wrap_i64]; omega
  obtain ⟨x0, x1, x2, x3, x4, x5, x6, x7, x8⟩ := hat
  have HHK := hide hk
  have HRR := hide hrr
  have HKL := hide hkl
  have HBV := hide hBV
  have HRB := hide hRV
  have HV := hide hV
  rw [hk] at HH HRV
  have hgV : g0 < V.heap.size := by omega
  have hlie := fun W (hW : Below V.heap.size V W) => lies_prow (by rw [← hk]; rw [hk]; have := (unhide HRV).row; rw [hk] at this; exact this) hk W (hW.block g0 hgV)
  rw [hrr] at hlie
  obtain ⟨A, hA, HL2⟩ : ∃ A : Addr, (if cap = r + 1 then some (⟨g0, 0, none⟩ : Addr) else some ⟨g0, (r + 1) * 9, none⟩) = some A ∧ Hid (∀ W, Below V.heap.size V W → Lies W (.slice (some A) (k - (r + 1)) (cap - (r + 1))) (k - (r + 1)) (l2.flatMap pcells)) := by
    by_cases h : cap = r + 1
    · exact ⟨⟨g0, 0, none⟩, by simp [h], fun W hW => by have := (hlie W hW).2; rwa [if_pos h] at this⟩
    · exact ⟨⟨g0, (r + 1) * 9, none⟩, by simp [h], fun W hW => by have := (hlie W hW).2; rwa [if_neg h] at this⟩
  have HL1 : Hid (∀ W, Below V.heap.size V W → Lies W (.slice (some ⟨g0, 0, none⟩) r cap) r (l1.flatMap pcells)) := fun W hW => (hlie W hW).1
  have HE1 : Hid ((l1.flatMap pcells).length = r * 9) := by rw [Hid, pflat_len, hrr]
  have HE3 : Hid ((l2.flatMap pcells).length = (k - (r + 1)) * 9) := by rw [Hid, pflat_len, hkl]
  have HE2 : Hid (∀ u ∈ l1.flatMap pcells, u.oneCell' = true) := pflat_one l1
  have HE4 : Hid (∀ u ∈ l2.flatMap pcells, u.oneCell' = true) := pflat_one l2
  clear h hc hBV hRV hrV hV hk hrr hr hlie hkl
  obtain ⟨y, c, nn, ⟨kk, s1, s2, s3⟩, d, u⟩ := m
  dsimp only [APkt.val, zArr] at *
  go_enter Try.func11, Try.ntmps11
  go_wp2_with fail
  rw [← unhide HV]
  clear hcw
  refine (unhide HRD).mono ?_
  rintro e w0 ⟨rfl, hw0⟩
  obtain rfl := hw0.symm
  clear hw0
  obtain ⟨V1, hV1⟩ : ∃ V1, V1 = V.alloc (.cells #[.bool y, .int .i64 c, .int .i64 nn, .int .i64 kk, .string s1, .string s2, .string s3, .int .i64 d, .string u] 33) := ⟨_, rfl⟩
  have hb1 : Below V.heap.size V V1 := by rw [hV1]; exact (Below.refl _ _).alloc (Nat.le_refl _) _
  have HbV1 := hide ((unhide HBV).trans (hb1.mono (unhide HBV).size))
  have HB1 := hide hb1
  have HMV1 : Hid (V1.heap[V.heap.size]? = some (.cells #[.bool y, .int .i64 c, .int .i64 nn, .int .i64 kk, .string s1, .string s2, .string s3, .int .i64 d, .string u] 33 (0, 0))) := by rw [hV1]; exact heap_alloc_new _ _
  have HRV1 := hide ((hb1.block w.heap.size (by omega)).trans (unhide HRB))
  have hrV1 := (unhide HRV).below hb1
  have HRW := hide hrV1
  have hPV1 : P < V1.heap.size := hrV1.lt
  have cD2 := hrV1.can.1
  have cD2f := hrV1.can.2
  have HV1 := hide hV1
  have hzV1 : V1.heap.size = V.heap.size + 1 := by rw [hV1]; simp
  have HL1' : Hid (∀ W, Below V1.heap.size V1 W → Lies W (.slice (some ⟨g0, 0, none⟩) r cap) r (l1.flatMap pcells)) := fun W hW => (unhide HL1) W (hb1.trans (hW.mono hb1.size))
  have HL2' : Hid (∀ W, Below V1.heap.size V1 W → Lies W (.slice (some A) (k - (r + 1)) (cap - (r + 1))) (k - (r + 1)) (l2.flatMap pcells)) := fun W hW => (unhide HL2) W (hb1.trans (hW.mono hb1.size))
  clear hb1 hrV1 hV1
  have hPV : P < V.heap.size := by omega
  go_wp2_with fail
  rw [← unhide HV1]
  clear x0 x1 x2 x3 x4 x5 x6 x7 x8 hcV
  go_region_law (first | (refine step_new (wx := V1) (by rfl) (.tmp 25) (.tmp 30) 27 (by rfl) (below_drew V1) 33 i0 _ 9 104 Try.underlying27 hi0 hz0 hz1 hz2 rfl (by omega) (.slice none 0 0) 0 [] (by simp [Act.eval, Act.put]) (World.ownsRow_nil _ _ _ _) (.slice (some ⟨g0, 0, none⟩) r cap) r (l1.flatMap pcells) (by simp [Act.eval, Act.put]) ((unhide HL1') _ (below_drew V1)) (unhide HE1) (unhide HE2) (by unfold maxLen; omega) (by omega) ?_; intro aA cA wA hownA bA hgrowA; rw [Nat.zero_add, List.nil_append] at hownA; rw [Nat.zero_add]; have hcA := (bA.cell (p := ⟨P, 0, none⟩) hPV1).trans cD2; clear hgrowA) | (refine step_new (wx := V1) (by rfl) (.tmp 31) (.tmp 37) 27 (by rfl) bA 33 i0 _ 9 104 Try.underlying27 hi0 hz0 hz1 hz2 rfl (by omega) (.slice aA r cA) r (l1.flatMap pcells) (by simp [Act.eval, Act.put]) hownA (.slice (some A) (k - (r + 1)) (cap - (r + 1))) (k - (r + 1)) (l2.flatMap pcells) (by simp [Act.eval, Act.put]) ((unhide HL2') _ bA) (unhide HE3) (unhide HE4) (by unfold maxLen; omega) (by omega) ?_; intro aB cB wB hownB bB hgrowB; have hcB := (bB.cell (p := ⟨P, 0, none⟩) hPV1).trans cD2; have hcBf := (bB.frozen (p := ⟨P, 0, none⟩) hPV1).trans cD2f; clear hgrowB) | fail)
  all_goals
    obtain ⟨W3, hW3⟩ : ∃ W3, W3 = wB.setCell ⟨P, 0, none⟩ (.slice aB (r + (k - (r + 1))) cB) := ⟨_, rfl⟩
    have hT2 : PTurn 27 N V1 P (.slice (some ⟨g0, 0, none⟩) k cap) W3 (l1 ++ l2) := by
      rw [hW3]
      have e1 : (l1 ++ l2).length = r + (k - (r + 1)) := by rw [List.length_append, unhide HRR, unhide HKL]
      refine (unhide HRW).lay bB ?_ (fun k e => (hownB.lt k e).1) (by rw [e1]; omega) (fun m hm => (unhide HSM) m (by simp at hm ⊢; rcases hm with h | h; exact .inl h; exact .inr (.inr h)))
      rw [e1, List.flatMap_append]
      exact ownsRow_base hownB (by have := unhide HN; have := (unhide HBV).size; omega)
    have hR2 := (bB.block w.heap.size (by omega)).trans (unhide HRV1)
    have hM2 := (bB.block V.heap.size (by omega)).trans (unhide HMV1)
    have hR3 := (Below.heap_setCell wB ⟨P, 0, none⟩ (.slice aB (r + (k - (r + 1))) cB) w.heap.size (by simp; omega)).trans hR2
    rw [← hW3] at hR3
    rw [hzV] at hM2
    have hM3 := (Below.heap_setCell wB ⟨P, 0, none⟩ (.slice aB (r + (k - (r + 1))) cB) (w.heap.size + 1) (by simp; omega)).trans hM2
    obtain ⟨⟨m0, m1, m2, m3⟩, ⟨m4, m5, m6, m7, m8⟩, _⟩ := nine hM3
    obtain ⟨W4, hW4⟩ : ∃ W4, W4 = W3.setRow w.heap.size #[.bool y, .int .i64 c, .int .i64 nn, .int .i64 kk, .string s1, .string s2, .string s3, .int .i64 d, .string u] := ⟨_, rfl⟩
    have hZ : W4.heap[w.heap.size]? = some (.cells #[.bool y, .int .i64 c, .int .i64 nn, .int .i64 kk, .string s1, .string s2, .string s3, .int .i64 d, .string u] 33 (0, 0)) := by rw [hW4]; exact setRow_heap W3 w.heap.size _ _ 33 (0, 0) hR3
    have hT4 := PTurn.store (W4 := W4) (R := w.heap.size) (unhide HH) (unhide HbV1) hT2 (Nat.le_refl _) (by omega) (by rw [hW4]; exact kept_setRow W3 _ _)
    have HT4 := hide hT4
    obtain ⟨⟨z0, z1, z2, z3⟩, ⟨z4, z5, z6, z7, z8⟩, _⟩ := nine hZ
    rw [hW3] at hR3 hW4
    clear hT2 hM2 hM3 hR2 hT4 hZ hW3 hownA hownB bA bB hcA hcB hcBf cD2 cD2f
    go_wp2_with (refine wpList_store_row rfl 33 _ _ rfl w.heap.size #[.bool y, .int .i64 c, .int .i64 nn, .int .i64 kk, .string s1, .string s2, .string s3, .int .i64 d, .string u] rfl rfl 33 _ hR3 infoP rfl (by simp [Value.oneCell']) ?_)
    rw [← hW4]
    refine bodyPost_ret (v := .tuple #[.agg #[.bool y, .int .i64 c, .int .i64 nn, .int .i64 kk, .string s1, .string s2, .string s3, .int .i64 d, .string u], .bool true]) (by simp [results, Try.results11, go_sem, z0, z1, z2, z3, z4, z5, z6, z7, z8]) rfl ⟨rfl, by rw [unhide HHK]; exact unhide HT4⟩

set_option maxRecDepth 100000 in
set_option maxHeartbeats 4000000 in
theorem Double_Bnot {N : Nat} {w : World} {P : Nat} {v : Value} (h : PRep 27 N w P v []) (n : Int) :
    Calls Try.prog 13 #[.pointer (some ⟨P, 0, none⟩), .int .i64 n] w fun e w' => e = .returned (.bool false) ∧ w' = w := by
  have hc := h.can.1
  obtain ⟨a, cap, rfl⟩ := h.form
  dsimp only [List.length_nil] at *
  clear h
  go_enter Try.func13, Try.ntmps13
  go_wp2
  go_ret
  exact ⟨rfl, rfl⟩

set_option maxRecDepth 100000 in
set_option maxHeartbeats 8000000 in
theorem Double_B {N : Nat} {w : World} {P : Nat} {v : Value} {ms : List APkt} (h : PRep 27 N w P v ms) (n : Int) (h0 : 0 < ms.length) {m : APkt} (hm : ms[rnd n ms.length]? = some m) :
    Calls Try.prog 13 #[.pointer (some ⟨P, 0, none⟩), .int .i64 n] w fun e w' => e = .returned (.bool (decide (ms.length < 40))) ∧ PTurn 27 N w P v w' (if ms.length < 40 then ms ++ [m] else ms) := by
  obtain ⟨k, hk⟩ : ∃ k, ms.length = k := ⟨_, rfl⟩
  have hsend : Calls Try.prog 9 #[.pointer (some ⟨P, 0, none⟩), m.val] w.drew fun e w' => e = .returned (.bool (decide (ms.length < 40))) ∧ PTurn 27 N w P v w' (if ms.length < 40 then ms ++ [m] else ms) := by
    have hb := below_drew w
    by_cases hl : ms.length < 40
    · refine (Send_B (h.below hb) m (h.small m (List.mem_of_getElem? hm)) hl).mono ?_
      rintro e w' ⟨rfl, hT⟩
      rw [if_pos hl, decide_eq_true hl]
      exact ⟨rfl, hT.before hb⟩
    · refine (Send_Bfull (h.below hb) m hl).mono ?_
      rintro e w' ⟨rfl, hT⟩
      rw [if_neg hl, decide_eq_false hl]
      exact ⟨rfl, hT.before hb⟩
  obtain ⟨res, hres⟩ : ∃ b, decide (ms.length < 40) = b := ⟨_, rfl⟩
  obtain ⟨ms', hms'⟩ : ∃ l, (if ms.length < 40 then ms ++ [m] else ms) = l := ⟨_, rfl⟩
  rw [hres, hms'] at hsend ⊢
  have HSD := hide hsend
  have HRD := hide (at_B (h.below (below_drew w)) n hk (by omega))
  rw [hk] at h0 hm
  obtain ⟨r, hr⟩ : ∃ r, rnd n k = r := ⟨_, rfl⟩
  have hrk := rnd_lt n h0
  rw [hr] at hm hrk
  rw [hr] at HRD
  have hri : (r : Int) < (k : Int) := by omega
  have hr0 : (0 : Int) ≤ (r : Int) := by omega
  obtain ⟨a, cap, rfl⟩ := h.form
  obtain ⟨g0, hg0, hc⟩ := (pkts_row h.row rfl).2 (by omega)
  have hat0 := hc r m hm
  cases hg0
  have h0i : ((k : Int) == 0) = false := by simp; omega
  obtain ⟨x0, x1, x2, x3, x4, x5, x6, x7, x8⟩ := hat0
  have hc1 := h.can.1
  rw [hk] at hc1
  clear h hc hm hr hres hms' hsend
  obtain ⟨y, c, nn, ⟨kk, s1, s2, s3⟩, d, u⟩ := m
  dsimp only [APkt.val] at *
  go_enter Try.func13, Try.ntmps13
  go_wp2_with fail
  go_region_law (first
      | (go_simp; go_at_call 21; refine (unhide HRD).mono ?_; rintro e w1 ⟨rfl, hw1⟩; obtain rfl := hw1.symm; clear hw1)
      | (go_simp; go_at_call 9; refine (unhide HSD).mono ?_; rintro e w2 ⟨rfl, hT⟩; have HT := hide hT; clear hT))
  all_goals
    go_wp2
    go_ret
    exact ⟨rfl, unhide HT⟩

set_option maxRecDepth 100000 in
set_option maxHeartbeats 4000000 in
theorem SamePackets_any (a b : Option Addr) (n m ca cb : Nat) (rs qs : List APkt) (w : World) (ha : PktsAt w a n rs) (hb : PktsAt w b m qs) (hn : n ≤ 1000000) (hm : m ≤ 1000000) (res : Bool) (HR : Hid (res = true ↔ rs = qs)) :
    Calls Try.prog 15 #[.slice a n ca, .slice b m cb] w fun e w' => e = .returned (.bool res) ∧ Below w.heap.size w w' := by
  by_cases hnm : n = m
  · subst hnm
    have HA := hide ha
    have HB := hide hb
    clear ha hb
    go_enter Try.func15, Try.ntmps15
    go_wp2
    go_loopw [5] (fun i wr => ∃ k : Nat, k ≤ n ∧ i = .int .i64 k ∧ Hid (Below w.heap.size w wr) ∧ Hid (rs.take k = qs.take k)) (fun i _ => n - (intOf i).toNat)
    case atStart => exact ⟨0, Nat.zero_le _, rfl, Below.refl _ _, by simp [Hid]⟩
    case round =>
      obtain ⟨k, hk, rfl, HW, HE⟩ := hrel
      by_cases hlt : (k : Int) < (n : Int)
      · obtain ⟨r, hr⟩ : ∃ r, rs[k]? = some r := ⟨_, List.getElem?_eq_getElem (by rw [(unhide HA).1]; omega)⟩
        obtain ⟨q, hq⟩ : ∃ q, qs[k]? = some q := ⟨_, List.getElem?_eq_getElem (by rw [(unhide HB).1]; omega)⟩
        obtain ⟨b1, rfl, hx⟩ := ((unhide HA).below (unhide HW)).2 (by omega)
        obtain ⟨b2, rfl, hy⟩ := ((unhide HB).below (unhide HW)).2 (by omega)
        obtain ⟨x0, x1, x2, x3, x4, x5, x6, x7, x8⟩ := hx k r hr
        obtain ⟨y0, y1, y2, y3, y4, y5, y6, y7, y8⟩ := hy k q hq
        have HRK := hide hr
        have HQK := hide hq
        by_cases hrq : r = q
        · subst hrq
          have eP := fun W => neqP r r W
          rw [pktB_self] at eP
          have HE2 : Hid (rs.take (k + 1) = qs.take (k + 1)) := by rw [Hid, List.take_add_one, List.take_add_one, unhide HE, hr, hq]
          clear hx hy hr hq
          obtain ⟨ry, rc, rn, ⟨rk, ra, rb, rt⟩, rd, ru⟩ := r
          dsimp only [APkt.val, Bool.not_true] at *
          go_wp2_with fail
          go_quiet (fail)
          go_wp2
          go_roundw
          case rel => exact ⟨k + 1, by omega, by go_num, ⟨(unhide HW).os, (unhide HW).tape, (unhide HW).output, (unhide HW).size, (unhide HW).block⟩, unhide HE2⟩
          case measure => simp [intOf]; omega
        · have eP := fun W => neqP r q W
          rw [pktB_ne hrq] at eP
          have hres : res = false := by
            cases hb : res
            · rfl
            · have e := HR.out.1 hb
              rw [e, hq] at hr
              exact absurd (by simpa using hr.symm) hrq
          subst hres
          clear hx hy hr hq hrq
          obtain ⟨ry, rc, rn, ⟨rk, ra, rb, rt⟩, rd, ru⟩ := r
          obtain ⟨qy, qc, qn, ⟨qk, qa, qb, qt⟩, qd, qu⟩ := q
          dsimp only [APkt.val, Bool.not_false] at *
          go_wp2_with fail
          go_quiet (fail)
          go_wp2
          go_ret
          exact ⟨rfl, ⟨(unhide HW).os, (unhide HW).tape, (unhide HW).output, (unhide HW).size, (unhide HW).block⟩⟩
      · have hres : res = true := by
          refine HR.out.2 ?_
          have := unhide HE
          rwa [List.take_of_length_le (by rw [(unhide HA).1]; omega), List.take_of_length_le (by rw [(unhide HB).1]; omega)] at this
        subst hres
        go_wp2
        go_ret
        exact ⟨rfl, unhide HW⟩
  · have hne : ((n : Int) != (m : Int)) = true := by simp; omega
    have hd : res = false := by
      cases hx : res
      · rfl
      · have e := HR.out.1 hx
        exact absurd (by rw [← ha.1, ← hb.1, e]) hnm
    subst hd
    clear ha hb hnm
    go_enter Try.func15, Try.ntmps15
    go_wp2
    go_ret
    exact ⟨rfl, Below.refl _ _⟩

end Go.Proofs.Ytlndphpidkacgab
