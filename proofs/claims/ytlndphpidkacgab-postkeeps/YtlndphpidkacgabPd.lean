/- Send, of both. -/
import Derived.Test.YtlndphpidkacgabPc
namespace Go.Proofs.Ytlndphpidkacgab
open Go.RowKit
set_option linter.unusedSimpArgs false
set_option linter.unusedVariables false

theorem infoPP : (Try.prog.info? 33).map (fun i => (i.zero, i.size, i.bytes)) = some (some (.agg #[.bool false, .int .i64 0, .int .i64 0, .int .i64 0, .string ⟨#[]⟩, .string ⟨#[]⟩, .string ⟨#[]⟩, .int .i64 0, .string ⟨#[]⟩]), 9, 104) := by kernel_rfl

/-- One packet more. -/
theorem PRep.push {t : TypeId} {N : Nat} {w w3 : World} {P : Nat} {v : Value} {ms : List APkt} (hr : PRep t N w P v ms) {g cap n : Nat} {m : APkt} (hg : w.grownBy w3 v.ownBlock) (hn : n = ms.length + 1) (hl : ms.length < 40) (hm : SmallP m)
    (hown : w3.ownsRow N 33 9 (.slice (some ⟨g, 0, none⟩) n cap) n (ms.flatMap pcells ++ pcells m)) (hat : v.ownBlock = some g ∨ g = w.heap.size) :
    PTurn t N w P v (w3.setCell ⟨P, 0, none⟩ (.slice (some ⟨g, 0, none⟩) n cap)) (ms ++ [m]) := by
  have hP := hr.lt
  have hgP : g ≠ P := by
    rcases hat with h | h
    · intro e; subst e; exact hr.nd h
    · omega
  have hold : ∀ k, k < w.heap.size → v.ownBlock ≠ some k → w3.heap[k]? = w.heap[k]? := fun k hk hne => hg.block k hk (fun e => hne e.symm)
  refine ⟨.slice (some ⟨g, 0, none⟩) n cap, ⟨hr.new, ?_, ?_, ?_, ?_, ?_⟩, ?_, ?_⟩
  · rw [heap_setCell_same (c := #[v]) (e := t) (fr := (0, 0))]
    · simp
    · rw [hold P hP hr.nd]; exact hr.blk
  · have : w3.ownsRow N 33 9 (.slice (some ⟨g, 0, none⟩) n cap) (ms ++ [m]).length ((ms ++ [m]).flatMap pcells) := by
      have e1 : (ms ++ [m]).length = n := by simp [hn]
      have e2 : (ms ++ [m]).flatMap pcells = ms.flatMap pcells ++ pcells m := by simp
      rw [e1, e2]; exact hown
    exact ownsRow_same this fun k hk => by
      have : k = g := by simpa [Value.ownBlock] using hk.symm
      rw [this]
      exact Below.heap_setCell _ _ _ _ hgP
  · intro e
    simp [Value.ownBlock] at e
    exact hgP e
  · simp; omega
  · intro x hx
    rcases List.mem_append.1 hx with hx | hx
    · exact hr.small x hx
    · simp at hx; subst hx; exact hm
  · have k1 : Kept (powns P v) w w3 := ⟨hg.os, hg.tape, hg.output, hg.size, fun k hk hn => hold k hk (fun e => hn (List.mem_cons_of_mem _ (by simp [e])))⟩
    exact k1.trans (kept_setCell (powns P v) _ _ _ _ List.mem_cons_self) (fun x hx => .inl hx)
  · intro k hk
    rcases List.mem_cons.1 hk with rfl | hk
    · exact .inl List.mem_cons_self
    · have : k = g := by simpa [Value.ownBlock] using hk
      rcases hat with h1 | h1
      · exact .inl (List.mem_cons_of_mem _ (by rw [this]; simp [h1]))
      · right; omega

theorem Can.grown' {w w' : World} {b o : Nat} {v : Value} {row : Option Nat} (h : Can w b o v) (hg : w.grownBy w' row) (hne : row ≠ some b) : Can w' b o v := h.grown hg hne

set_option maxRecDepth 100000 in
set_option maxHeartbeats 4000000 in
theorem Send_P {N : Nat} {w : World} {P : Nat} {v : Value} {ms : List APkt} (h : PRep 47 N w P v ms) (m : APkt) (hm : SmallP m) (hl : ms.length < 40) :
    Calls Try.prog 8 #[.pointer (some ⟨P, 0, none⟩), m.val] w fun e w' => e = .returned (.bool true) ∧ PTurn 47 N w P v w' (ms ++ [m]) := by
  obtain ⟨i0, hi0, hz0, hz1, hz2⟩ := info_parts infoPP
  obtain ⟨k, hk⟩ : ∃ k, ms.length = k := ⟨_, rfl⟩
  have HK := hide hk
  obtain ⟨a, cap, rfl⟩ := h.form
  have nB := h.nd
  have HR := hide h
  have HCL := hide (fun W => clone_P m W hm)
  have HSM := hide hm
  rw [hk] at HR nB
  have hk40 : k < 40 := by omega
  obtain ⟨V, hV⟩ : ∃ V, V = w.alloc (.cells (pArr m) 33) := ⟨_, rfl⟩
  have hBV : Below w.heap.size w V := by rw [hV]; exact (Below.refl _ _).alloc (Nat.le_refl _) _
  have hXV : V.heap[w.heap.size]? = some (.cells (pArr m) 33 (0, 0)) := by rw [hV]; exact heap_alloc_new _ _
  have hrV := (unhide HR).below hBV
  have HFU := hide (full_P hrV hk)
  have HRV := hide hrV
  have HBV := hide hBV
  have HV := hide hV
  have HM : Hid (m = m) := rfl
  have hdec : decide (40 ≤ k) = false := by simp; omega
  rw [hdec] at HFU
  have HN : Hid (N ≤ w.heap.size) := Nat.le_trans h.new (Nat.le_of_lt h.lt)
  obtain ⟨M, hMM⟩ : ∃ M, M = m := ⟨_, rfl⟩
  have HMM := hide hMM
  obtain ⟨y, c, n, ⟨kk, s1, s2, s3⟩, d, u⟩ := m
  dsimp only [APkt.val, pArr] at *
  obtain ⟨⟨x0, x1, x2, x3⟩, ⟨x4, x5, x6, x7, x8⟩, xf⟩ := nine hXV
  have hc1 := hrV.can.1
  have hf1 := hrV.can.2
  have hPV : P < V.heap.size := hrV.lt
  clear h hm hk hl hBV hXV hrV hV hMM hdec HM
  go_enter Try.func8, Try.ntmps8
  go_wp2_with fail
  rw [← unhide HV]
  refine (unhide HFU).mono ?_
  rintro e w0 ⟨rfl, hw0⟩
  obtain rfl := hw0.symm
  clear hw0
  go_wp2_with fail
  have HO : Hid (∀ wx, Below V.drew.heap.size V.drew wx → wx.ownsRow N 33 9 (.slice a k cap) k (ms.flatMap pcells)) := fun wx hb => by have := ((unhide HRV).below (w' := wx) ⟨hb.os, hb.tape, hb.output, hb.size, hb.block⟩).row; rw [unhide HK] at this; exact this
  have HF : Hid (∀ wx, Below V.drew.heap.size V.drew wx → Can wx P 0 (.slice a k cap)) := fun wx hb => Can.below (w := V.drew) ⟨hc1, hf1⟩ hb hPV
  go_region_law (first
      | (go_simp; go_at_call 18; refine ((unhide HCL) _).mono ?_; rintro e w1 ⟨rfl, b1⟩; have hc2 := (HF.out w1 b1); have hc3 := hc2.1; have hf3 := hc2.2; have hzB : P < w1.heap.size := hc2.lt; clear hc2)
      | (refine step_append_lies _ (by rfl) _ _ _ (by rfl) N 33 i0 _ 9 104 Try.underlying26 hi0 hz0 hz1 hz2 rfl (by omega) (.slice a k cap) k (ms.flatMap pcells) (by rfl) ((HO.out w1 b1).alloc _)
          ⟨w1.heap.size, 0, none⟩ 1 1 [.bool y, .int .i64 c, .int .i64 n, .int .i64 kk, .string s1, .string s2, .string s3, .int .i64 d, .string u] (by rfl) (by rfl) (World.news_of_block (cs := #[.bool y, .int .i64 c, .int .i64 n, .int .i64 kk, .string s1, .string s2, .string s3, .int .i64 d, .string u]) (t := 33) (fr := (0, 0)) (heap_alloc_new w1 _)) (by simp [Value.oneCell'])
          (by omega) (by unfold maxLen; omega) (by omega) (by have h1 := b1.size; have h2 : V.drew.heap.size = V.heap.size := rfl; have h3 := (unhide HBV).size; have h4 := unhide HN; simp; omega) (w1.heap.size + 1) (by simp) ?_; intro g cap' w2 hown2 hgrow hat hlt; have hc2 := ((HF.out w1 b1).alloc _).grown hgrow nB; have hc3 := hc2.1; have hf3 := hc2.2))
  all_goals
    have hz : w.heap.size ≤ w1.heap.size := Nat.le_trans (unhide HBV).size b1.size
    have hbw : Below w.heap.size w (w1.alloc (Obj.cells #[.bool y, .int .i64 c, .int .i64 n, .int .i64 kk, .string s1, .string s2, .string s3, .int .i64 d, .string u] 33)) := ((unhide HBV).drew.trans (b1.mono (unhide HBV).size)).alloc hz _
    have hT := ((unhide HR).below hbw).push hgrow (by rw [unhide HK]) (by rw [unhide HK]; exact hk40) (unhide HSM) hown2 (by rw [al_size]; exact hat)
    have HT := hide (hT.before hbw)
    clear hT hbw hz hown2 hgrow hat hlt hc2 hc3 hf3
    go_wp2
    go_ret
    exact ⟨rfl, by rw [unhide HK]; exact unhide HT⟩

set_option maxRecDepth 100000 in
set_option maxHeartbeats 4000000 in
theorem Send_Pfull {N : Nat} {w : World} {P : Nat} {v : Value} {ms : List APkt} (h : PRep 47 N w P v ms) (m : APkt) (hl : ¬ ms.length < 40) :
    Calls Try.prog 8 #[.pointer (some ⟨P, 0, none⟩), m.val] w fun e w' => e = .returned (.bool false) ∧ PTurn 47 N w P v w' ms := by
  obtain ⟨V, hV⟩ : ∃ V, V = w.alloc (.cells (pArr m) 33) := ⟨_, rfl⟩
  have hBV : Below w.heap.size w V := by rw [hV]; exact (Below.refl _ _).alloc (Nat.le_refl _) _
  have HFU := hide (full_P (h.below hBV) rfl)
  rw [show decide (40 ≤ ms.length) = true by simp; omega] at HFU
  have HT := hide (PTurn.of_below h hBV)
  have HV := hide hV
  obtain ⟨y, c, n, ⟨kk, s1, s2, s3⟩, d, u⟩ := m
  dsimp only [APkt.val, pArr] at *
  clear h hl hBV hV
  go_enter Try.func8, Try.ntmps8
  go_wp2_with fail
  rw [← unhide HV]
  refine (unhide HFU).mono ?_
  rintro e w0 ⟨rfl, hw0⟩
  obtain rfl := hw0.symm
  clear hw0
  go_wp2
  go_ret
  exact ⟨rfl, unhide HT⟩

set_option maxRecDepth 100000 in
set_option maxHeartbeats 4000000 in
theorem Send_Bfull {N : Nat} {w : World} {P : Nat} {v : Value} {ms : List APkt} (h : PRep 27 N w P v ms) (m : APkt) (hl : ¬ ms.length < 40) :
    Calls Try.prog 9 #[.pointer (some ⟨P, 0, none⟩), m.val] w fun e w' => e = .returned (.bool false) ∧ PTurn 27 N w P v w' ms := by
  obtain ⟨V, hV⟩ : ∃ V, V = w.alloc (.cells (pArr m) 33) := ⟨_, rfl⟩
  have hBV : Below w.heap.size w V := by rw [hV]; exact (Below.refl _ _).alloc (Nat.le_refl _) _
  obtain ⟨k, hk⟩ : ∃ k, ms.length = k := ⟨_, rfl⟩
  obtain ⟨a, cap, rfl⟩ := h.form
  have hc1 := h.can.1
  have hPl := h.lt
  have HT := hide (PTurn.of_below h hBV)
  rw [hk] at hc1 HT ⊢
  have hk40 : (40 : Int) ≤ (k : Int) := by omega
  rw [hV] at HT
  obtain ⟨y, c, n, ⟨kk, s1, s2, s3⟩, d, u⟩ := m
  dsimp only [APkt.val, pArr] at *
  clear h hl hBV hV hk
  go_enter Try.func9, Try.ntmps9
  go_wp2
  go_ret
  exact ⟨rfl, unhide HT⟩

set_option maxRecDepth 100000 in
set_option maxHeartbeats 4000000 in
theorem Send_B {N : Nat} {w : World} {P : Nat} {v : Value} {ms : List APkt} (h : PRep 27 N w P v ms) (m : APkt) (hm : SmallP m) (hl : ms.length < 40) :
    Calls Try.prog 9 #[.pointer (some ⟨P, 0, none⟩), m.val] w fun e w' => e = .returned (.bool true) ∧ PTurn 27 N w P v w' (ms ++ [m]) := by
  obtain ⟨i0, hi0, hz0, hz1, hz2⟩ := info_parts infoPP
  obtain ⟨k, hk⟩ : ∃ k, ms.length = k := ⟨_, rfl⟩
  have HK := hide hk
  obtain ⟨a, cap, rfl⟩ := h.form
  have nB := h.nd
  have HR := hide h
  have HSM := hide hm
  rw [hk] at HR nB
  have hk40 : k < 40 := by omega
  have hki : (k : Int) < 40 := by omega
  obtain ⟨V, hV⟩ : ∃ V, V = w.alloc (.cells (pArr m) 33) := ⟨_, rfl⟩
  have hBV : Below w.heap.size w V := by rw [hV]; exact (Below.refl _ _).alloc (Nat.le_refl _) _
  have hXV : V.heap[w.heap.size]? = some (.cells (pArr m) 33 (0, 0)) := by rw [hV]; exact heap_alloc_new _ _
  have hrV := (unhide HR).below hBV
  have HRV := hide hrV
  have HBV := hide hBV
  have HV := hide hV
  have HN : Hid (N ≤ w.heap.size) := Nat.le_trans h.new (Nat.le_of_lt h.lt)
  obtain ⟨y, c, n, ⟨kk, s1, s2, s3⟩, d, u⟩ := m
  dsimp only [APkt.val, pArr] at *
  obtain ⟨⟨x0, x1, x2, x3⟩, ⟨x4, x5, x6, x7, x8⟩, xf⟩ := nine hXV
  have hcw := (unhide HR).can.1
  have hc1 := hrV.can.1
  have hf1 := hrV.can.2
  have hPw : P < w.heap.size := (unhide HR).lt
  have hPV : P < V.heap.size := hrV.lt
  clear h hm hk hl hBV hXV hrV hV
  go_enter Try.func9, Try.ntmps9
  go_wp2_with fail
  rw [← unhide HV]
  clear hcw
  have HO : Hid (∀ wx, Below V.heap.size V wx → wx.ownsRow N 33 9 (.slice a k cap) k (ms.flatMap pcells)) := fun wx hb => by have := ((unhide HRV).below (w' := wx) hb).row; rw [unhide HK] at this; exact this
  have HF : Hid (∀ wx, Below V.heap.size V wx → Can wx P 0 (.slice a k cap)) := fun wx hb => Can.below (w := V) ⟨hc1, hf1⟩ hb hPV
  go_region_law (first
      | (refine step_append_lies _ (by rfl) _ _ _ (by rfl) N 33 i0 _ 9 104 Try.underlying27 hi0 hz0 hz1 hz2 rfl (by omega) (.slice a k cap) k (ms.flatMap pcells) (by rfl) (HO.out _ (below_alloc_drew V _))
          ⟨V.heap.size, 0, none⟩ 1 1 [.bool y, .int .i64 c, .int .i64 n, .int .i64 kk, .string s1, .string s2, .string s3, .int .i64 d, .string u] (by rfl) (by rfl) (World.news_of_block (cs := #[.bool y, .int .i64 c, .int .i64 n, .int .i64 kk, .string s1, .string s2, .string s3, .int .i64 d, .string u]) (t := 33) (fr := (0, 0)) (alloc_drew_new V _)) (by simp [Value.oneCell'])
          (by omega) (by unfold maxLen; omega) (by omega) (by have h3 := (unhide HBV).size; have h4 := unhide HN; simp; omega) (V.heap.size + 1) (by simp) ?_; intro g cap' w2 hown2 hgrow hat hlt; have hc2 := (HF.out _ (below_alloc_drew V _)).grown hgrow nB; have hc3 := hc2.1; have hf3 := hc2.2))
  all_goals
    have hbw : Below w.heap.size w (V.alloc (Obj.cells #[.bool y, .int .i64 c, .int .i64 n, .int .i64 kk, .string s1, .string s2, .string s3, .int .i64 d, .string u] 33)).drew := (unhide HBV).trans ((below_alloc_drew V _).mono (unhide HBV).size)
    have hT := ((unhide HR).below hbw).push hgrow (by rw [unhide HK]) (by rw [unhide HK]; exact hk40) (unhide HSM) hown2 (by simpa using hat)
    have HT := hide (hT.before hbw)
    clear hT hbw hown2 hgrow hat hlt hc2 hc3 hf3
    go_wp2
    go_ret
    exact ⟨rfl, by rw [unhide HK]; exact unhide HT⟩

end Go.Proofs.Ytlndphpidkacgab
