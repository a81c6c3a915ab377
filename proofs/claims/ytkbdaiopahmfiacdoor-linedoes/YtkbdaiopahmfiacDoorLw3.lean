/- Texts joined, what is needed of them: Le6 Le9 Ls Open OpenP OpenC Lp. -/
import Derived.Test.YtkbdaiopahmfiacDoorLw2
import Derived.ChangeOld
import Derived.Lay
import Derived.Lib.LaidTab
import Derived.Lib.SmallJoins
import Derived.OpenShut
import Derived.ProofKit
import Derived.ShutString
import Derived.SizedLaws
import Derived.Stop.Joined
import Derived.Stop.LaidErr
import Derived.Test.YtkbdaiopahmfiacDoorTie
namespace Go.Proofs.YtkbdaiopahmfiacDoor
open Go.RowKit
set_option linter.unusedSimpArgs false
set_option linter.unusedVariables false

set_option maxRecDepth 100000 in
set_option maxHeartbeats 8000000 in
theorem CallOf_6ff (s : ByteArray) (rl nl ll : List UInt8) (wl : List UInt8) (w : World) (hs : s.size ≤ 1000000) (hl1 : cutB s.data.toList = (wl, rl, false)) (hl2 : cutB rl = (nl, ll, false)) (h0 : ¬ wl = wList) (h1 : ¬ wl = wMake) (h2 : ¬ wl = wRemove) (h3 : ¬ wl = wRead) (h4 : ¬ wl = wRename) (h5 : ¬ wl = wAppend) :
    Calls Tryd.prog 11 #[.string s] w fun e w' => CallRes s.data.toList e ∧ Below w.heap.size w w' := by
  obtain ⟨l, hl⟩ : ∃ l, s.data.toList = l := ⟨_, rfl⟩
  rw [hl] at hl1 ⊢
  have hll : l.length = s.size := by rw [← hl, bsize]
  have k1 := cutB_len l
  rw [hl1] at k1
  have k2 := cutB_len rl
  rw [hl2] at k2
  dsimp only at k1 k2
  obtain ⟨r2, hr2⟩ : ∃ r, B rl = r := ⟨_, rfl⟩
  obtain ⟨r3, hr3⟩ : ∃ r, B nl = r := ⟨_, rfl⟩
  obtain ⟨r4, hr4⟩ : ∃ r, B ll = r := ⟨_, rfl⟩
  obtain ⟨r1, hr1⟩ : ∃ r, B wl = r := ⟨_, rfl⟩
  have q0 : (r1.toList == [108, 105, 115, 116]) = false := by rw [← hr1, B_is]; exact decide_eq_false h0
  have q1 : (r1.toList == [109, 97, 107, 101]) = false := by rw [← hr1, B_is]; exact decide_eq_false h1
  have q2 : (r1.toList == [114, 101, 109, 111, 118, 101]) = false := by rw [← hr1, B_is]; exact decide_eq_false h2
  have q3 : (r1.toList == [114, 101, 97, 100]) = false := by rw [← hr1, B_is]; exact decide_eq_false h3
  have q4 : (r1.toList == [114, 101, 110, 97, 109, 101]) = false := by rw [← hr1, B_is]; exact decide_eq_false h4
  have q5 : (r1.toList == [97, 112, 112, 101, 110, 100]) = false := by rw [← hr1, B_is]; exact decide_eq_false h5
  have HW : Hid (wordsC l = (⟨0, r3, ⟨#[]⟩, ⟨#[]⟩⟩, false)) := hide (by rw [words_of hl1 hl2, if_neg h0, if_neg h1, if_neg h2, if_neg h3, if_neg h4, if_neg h5, hr3]; try rfl)
  have hz3 : r3.size ≤ 1000000 := by rw [← hr3, lB_size]; omega
  have hz4 : r4.size ≤ 1000000 := by rw [← hr4, lB_size]; omega
  have hmx : (1000000 : Nat) ≤ maxLen := by decide
  obtain ⟨V, hV⟩ : ∃ V, V = w.alloc (.cells #[.int .i64 0, .string ⟨#[]⟩, .string ⟨#[]⟩, .string ⟨#[]⟩] 23) := ⟨_, rfl⟩
  have hB0 : Below w.heap.size w V := by rw [hV]; exact (Below.refl _ _).alloc (Nat.le_refl _) _
  have hX0 : V.heap[w.heap.size]? = some (.cells #[.int .i64 0, .string ⟨#[]⟩, .string ⟨#[]⟩, .string ⟨#[]⟩] 23 (0, 0)) := by rw [hV]; exact heap_alloc_new _ _
  have hw1 := word_any s V (by omega)
  rw [hl, hl1] at hw1
  dsimp only at hw1
  rw [hr1, hr2] at hw1
  have HW1 := hide hw1
  have HW2 : Hid (∀ W, Calls Tryd.prog 23 #[.string r2] W fun e w' => e = .returned (.tuple #[.string r3, .string r4, .bool false]) ∧ Below W.heap.size W w') := hide fun W => by
    have h := word_any r2 W (by rw [← hr2, lB_size]; omega)
    rw [← hr2, B_data, hl2] at h
    dsimp only at h
    rw [hr3, hr4] at h
    rw [← hr2]
    exact h
  have HX0 := hide hX0
  have HB0 := hide hB0
  have HV := hide hV
  have HZ := hide (And.intro hz3 (And.intro hz4 hmx))
  clear hw1 hl1 hl2 hX0 hB0 hV k1 k2 hll hs hl hr2 hr3 hr4 hz3 hz4 hmx h0 h1 h2 h3 h4 h5 hr1
  go_enter Tryd.func11, Tryd.ntmps11
  go_wp2_with fail
  rw [← unhide HV]
  refine (unhide HW1).mono ?_
  rintro e w1 ⟨rfl, b1⟩
  have HX1 := hide ((b1.block _ (Array.getElem?_eq_some_iff.1 (unhide HX0)).1).trans (unhide HX0))
  have HB1 := hide ((unhide HB0).trans (b1.mono (unhide HB0).size))
  clear b1 HW1 HX0 HB0 HV
  --@A1@
  go_wp2_with fail
  refine ((unhide HW2) w1).mono ?_
  rintro e w2 ⟨rfl, b2⟩
  have hX2 := (b2.block _ (Array.getElem?_eq_some_iff.1 (unhide HX1)).1).trans (unhide HX1)
  have hXl : w.heap.size < w2.heap.size := (Array.getElem?_eq_some_iff.1 hX2).1
  have hB2 := (unhide HB1).trans (b2.mono (unhide HB1).size)
  obtain ⟨V3, hV3⟩ : ∃ V3, V3 = w2.alloc (.cells #[.int .i64 0, .string r3, .string ⟨#[]⟩, .string ⟨#[]⟩] 23) := ⟨_, rfl⟩
  have hC3 : V3.heap[w2.heap.size]? = some (.cells #[.int .i64 0, .string r3, .string ⟨#[]⟩, .string ⟨#[]⟩] 23 (0, 0)) := by rw [hV3]; exact heap_alloc_new _ _
  have hX3 : V3.heap[w.heap.size]? = some (.cells #[.int .i64 0, .string ⟨#[]⟩, .string ⟨#[]⟩, .string ⟨#[]⟩] 23 (0, 0)) := by rw [hV3, Below.heap_alloc _ _ _ hXl]; exact hX2
  have hB3 : Below w.heap.size w V3 := by rw [hV3]; exact hB2.alloc (by omega) _
  clear b2 HW2 HX1 HB1 hX2 hB2
  have HQ : Hid (aParse l = (noCall, 12)) := hide (by unfold aParse; rw [unhide HW]; rfl)
  rw [hV3] at hX3 hB3 
  have hXs := hX3
  have HBs := hide hB3
  clear HW hC3 hX3 hB3
  obtain ⟨hz, hBZ⟩ := store4 hXs (unhide HBs) (.int .i64 0) (.string ⟨#[]⟩) (.string ⟨#[]⟩) (.string ⟨#[]⟩)
  obtain ⟨V9, hV9⟩ : ∃ V9, V9 = (w2.alloc (.cells #[.int .i64 0, .string r3, .string ⟨#[]⟩, .string ⟨#[]⟩] 23)).setRow w.heap.size #[.int .i64 0, .string ⟨#[]⟩, .string ⟨#[]⟩, .string ⟨#[]⟩] := ⟨_, rfl⟩
  rw [← hV9] at hz hBZ
  obtain ⟨z0, z1, z2, z3, _⟩ := fourK hz
  clear hz
  --@E@
  go_wp2_with (refine wpList_store_row rfl 23 _ _ rfl w.heap.size #[.int .i64 0, .string ⟨#[]⟩, .string ⟨#[]⟩, .string ⟨#[]⟩] rfl rfl 23 _ hXs info23s rfl (by simp [Value.oneCell']) ?_)
  rw [← hV9]
  refine bodyPost_ret (v := .tuple #[.agg #[.int .i64 0, .string ⟨#[]⟩, .string ⟨#[]⟩, .string ⟨#[]⟩], .int .i64 (12)]) (by simp [results, Tryd.results11, go_sem, z0, z1, z2, z3]) rfl ⟨?_, hBZ⟩
  show CallRes l _
  unfold CallRes
  rw [unhide HQ]
  try rfl
set_option maxRecDepth 100000 in
set_option maxHeartbeats 8000000 in
theorem CallOf_6tf (s : ByteArray) (rl nl ll : List UInt8) (wl : List UInt8) (w : World) (hs : s.size ≤ 1000000) (hl1 : cutB s.data.toList = (wl, rl, true)) (hl2 : cutB rl = (nl, ll, false)) (h0 : ¬ wl = wList) (h1 : ¬ wl = wMake) (h2 : ¬ wl = wRemove) (h3 : ¬ wl = wRead) (h4 : ¬ wl = wRename) (h5 : ¬ wl = wAppend) :
    Calls Tryd.prog 11 #[.string s] w fun e w' => CallRes s.data.toList e ∧ Below w.heap.size w w' := by
  obtain ⟨l, hl⟩ : ∃ l, s.data.toList = l := ⟨_, rfl⟩
  rw [hl] at hl1 ⊢
  have hll : l.length = s.size := by rw [← hl, bsize]
  have k1 := cutB_len l
  rw [hl1] at k1
  have k2 := cutB_len rl
  rw [hl2] at k2
  dsimp only at k1 k2
  obtain ⟨r2, hr2⟩ : ∃ r, B rl = r := ⟨_, rfl⟩
  obtain ⟨r3, hr3⟩ : ∃ r, B nl = r := ⟨_, rfl⟩
  obtain ⟨r4, hr4⟩ : ∃ r, B ll = r := ⟨_, rfl⟩
  obtain ⟨r1, hr1⟩ : ∃ r, B wl = r := ⟨_, rfl⟩
  have q0 : (r1.toList == [108, 105, 115, 116]) = false := by rw [← hr1, B_is]; exact decide_eq_false h0
  have q1 : (r1.toList == [109, 97, 107, 101]) = false := by rw [← hr1, B_is]; exact decide_eq_false h1
  have q2 : (r1.toList == [114, 101, 109, 111, 118, 101]) = false := by rw [← hr1, B_is]; exact decide_eq_false h2
  have q3 : (r1.toList == [114, 101, 97, 100]) = false := by rw [← hr1, B_is]; exact decide_eq_false h3
  have q4 : (r1.toList == [114, 101, 110, 97, 109, 101]) = false := by rw [← hr1, B_is]; exact decide_eq_false h4
  have q5 : (r1.toList == [97, 112, 112, 101, 110, 100]) = false := by rw [← hr1, B_is]; exact decide_eq_false h5
  have HW : Hid (wordsC l = (⟨0, r3, ⟨#[]⟩, ⟨#[]⟩⟩, false)) := hide (by rw [words_of hl1 hl2, if_neg h0, if_neg h1, if_neg h2, if_neg h3, if_neg h4, if_neg h5, hr3]; try rfl)
  have hz3 : r3.size ≤ 1000000 := by rw [← hr3, lB_size]; omega
  have hz4 : r4.size ≤ 1000000 := by rw [← hr4, lB_size]; omega
  have hmx : (1000000 : Nat) ≤ maxLen := by decide
  obtain ⟨V, hV⟩ : ∃ V, V = w.alloc (.cells #[.int .i64 0, .string ⟨#[]⟩, .string ⟨#[]⟩, .string ⟨#[]⟩] 23) := ⟨_, rfl⟩
  have hB0 : Below w.heap.size w V := by rw [hV]; exact (Below.refl _ _).alloc (Nat.le_refl _) _
  have hX0 : V.heap[w.heap.size]? = some (.cells #[.int .i64 0, .string ⟨#[]⟩, .string ⟨#[]⟩, .string ⟨#[]⟩] 23 (0, 0)) := by rw [hV]; exact heap_alloc_new _ _
  have hw1 := word_any s V (by omega)
  rw [hl, hl1] at hw1
  dsimp only at hw1
  rw [hr1, hr2] at hw1
  have HW1 := hide hw1
  have HW2 : Hid (∀ W, Calls Tryd.prog 23 #[.string r2] W fun e w' => e = .returned (.tuple #[.string r3, .string r4, .bool false]) ∧ Below W.heap.size W w') := hide fun W => by
    have h := word_any r2 W (by rw [← hr2, lB_size]; omega)
    rw [← hr2, B_data, hl2] at h
    dsimp only at h
    rw [hr3, hr4] at h
    rw [← hr2]
    exact h
  have HX0 := hide hX0
  have HB0 := hide hB0
  have HV := hide hV
  have HZ := hide (And.intro hz3 (And.intro hz4 hmx))
  clear hw1 hl1 hl2 hX0 hB0 hV k1 k2 hll hs hl hr2 hr3 hr4 hz3 hz4 hmx h0 h1 h2 h3 h4 h5 hr1
  go_enter Tryd.func11, Tryd.ntmps11
  go_wp2_with fail
  rw [← unhide HV]
  refine (unhide HW1).mono ?_
  rintro e w1 ⟨rfl, b1⟩
  have HX1 := hide ((b1.block _ (Array.getElem?_eq_some_iff.1 (unhide HX0)).1).trans (unhide HX0))
  have HB1 := hide ((unhide HB0).trans (b1.mono (unhide HB0).size))
  clear b1 HW1 HX0 HB0 HV
  --@A1@
  go_wp2_with fail
  refine ((unhide HW2) w1).mono ?_
  rintro e w2 ⟨rfl, b2⟩
  have hX2 := (b2.block _ (Array.getElem?_eq_some_iff.1 (unhide HX1)).1).trans (unhide HX1)
  have hXl : w.heap.size < w2.heap.size := (Array.getElem?_eq_some_iff.1 hX2).1
  have hB2 := (unhide HB1).trans (b2.mono (unhide HB1).size)
  obtain ⟨V3, hV3⟩ : ∃ V3, V3 = w2.alloc (.cells #[.int .i64 0, .string r3, .string ⟨#[]⟩, .string ⟨#[]⟩] 23) := ⟨_, rfl⟩
  have hC3 : V3.heap[w2.heap.size]? = some (.cells #[.int .i64 0, .string r3, .string ⟨#[]⟩, .string ⟨#[]⟩] 23 (0, 0)) := by rw [hV3]; exact heap_alloc_new _ _
  have hX3 : V3.heap[w.heap.size]? = some (.cells #[.int .i64 0, .string ⟨#[]⟩, .string ⟨#[]⟩, .string ⟨#[]⟩] 23 (0, 0)) := by rw [hV3, Below.heap_alloc _ _ _ hXl]; exact hX2
  have hB3 : Below w.heap.size w V3 := by rw [hV3]; exact hB2.alloc (by omega) _
  clear b2 HW2 HX1 HB1 hX2 hB2
  have HQ : Hid (aParse l = (noCall, 12)) := hide (by unfold aParse; rw [unhide HW]; rfl)
  rw [hV3] at hX3 hB3 
  have hXs := hX3
  have HBs := hide hB3
  clear HW hC3 hX3 hB3
  obtain ⟨hz, hBZ⟩ := store4 hXs (unhide HBs) (.int .i64 0) (.string ⟨#[]⟩) (.string ⟨#[]⟩) (.string ⟨#[]⟩)
  obtain ⟨V9, hV9⟩ : ∃ V9, V9 = (w2.alloc (.cells #[.int .i64 0, .string r3, .string ⟨#[]⟩, .string ⟨#[]⟩] 23)).setRow w.heap.size #[.int .i64 0, .string ⟨#[]⟩, .string ⟨#[]⟩, .string ⟨#[]⟩] := ⟨_, rfl⟩
  rw [← hV9] at hz hBZ
  obtain ⟨z0, z1, z2, z3, _⟩ := fourK hz
  clear hz
  --@E@
  go_wp2_with (refine wpList_store_row rfl 23 _ _ rfl w.heap.size #[.int .i64 0, .string ⟨#[]⟩, .string ⟨#[]⟩, .string ⟨#[]⟩] rfl rfl 23 _ hXs info23s rfl (by simp [Value.oneCell']) ?_)
  rw [← hV9]
  refine bodyPost_ret (v := .tuple #[.agg #[.int .i64 0, .string ⟨#[]⟩, .string ⟨#[]⟩, .string ⟨#[]⟩], .int .i64 (12)]) (by simp [results, Tryd.results11, go_sem, z0, z1, z2, z3]) rfl ⟨?_, hBZ⟩
  show CallRes l _
  unfold CallRes
  rw [unhide HQ]
  try rfl
set_option maxRecDepth 100000 in
set_option maxHeartbeats 8000000 in
theorem CallOf_6tt (s : ByteArray) (rl nl ll : List UInt8) (wl : List UInt8) (w : World) (hs : s.size ≤ 1000000) (hl1 : cutB s.data.toList = (wl, rl, true)) (hl2 : cutB rl = (nl, ll, true)) (h0 : ¬ wl = wList) (h1 : ¬ wl = wMake) (h2 : ¬ wl = wRemove) (h3 : ¬ wl = wRead) (h4 : ¬ wl = wRename) (h5 : ¬ wl = wAppend) :
    Calls Tryd.prog 11 #[.string s] w fun e w' => CallRes s.data.toList e ∧ Below w.heap.size w w' := by
  obtain ⟨l, hl⟩ : ∃ l, s.data.toList = l := ⟨_, rfl⟩
  rw [hl] at hl1 ⊢
  have hll : l.length = s.size := by rw [← hl, bsize]
  have k1 := cutB_len l
  rw [hl1] at k1
  have k2 := cutB_len rl
  rw [hl2] at k2
  dsimp only at k1 k2
  obtain ⟨r2, hr2⟩ : ∃ r, B rl = r := ⟨_, rfl⟩
  obtain ⟨r3, hr3⟩ : ∃ r, B nl = r := ⟨_, rfl⟩
  obtain ⟨r4, hr4⟩ : ∃ r, B ll = r := ⟨_, rfl⟩
  obtain ⟨r1, hr1⟩ : ∃ r, B wl = r := ⟨_, rfl⟩
  have q0 : (r1.toList == [108, 105, 115, 116]) = false := by rw [← hr1, B_is]; exact decide_eq_false h0
  have q1 : (r1.toList == [109, 97, 107, 101]) = false := by rw [← hr1, B_is]; exact decide_eq_false h1
  have q2 : (r1.toList == [114, 101, 109, 111, 118, 101]) = false := by rw [← hr1, B_is]; exact decide_eq_false h2
  have q3 : (r1.toList == [114, 101, 97, 100]) = false := by rw [← hr1, B_is]; exact decide_eq_false h3
  have q4 : (r1.toList == [114, 101, 110, 97, 109, 101]) = false := by rw [← hr1, B_is]; exact decide_eq_false h4
  have q5 : (r1.toList == [97, 112, 112, 101, 110, 100]) = false := by rw [← hr1, B_is]; exact decide_eq_false h5
  have HW : Hid (wordsC l = (⟨0, r3, ⟨#[]⟩, ⟨#[]⟩⟩, false)) := hide (by rw [words_of hl1 hl2, if_neg h0, if_neg h1, if_neg h2, if_neg h3, if_neg h4, if_neg h5, hr3]; try rfl)
  have hz3 : r3.size ≤ 1000000 := by rw [← hr3, lB_size]; omega
  have hz4 : r4.size ≤ 1000000 := by rw [← hr4, lB_size]; omega
  have hmx : (1000000 : Nat) ≤ maxLen := by decide
  obtain ⟨V, hV⟩ : ∃ V, V = w.alloc (.cells #[.int .i64 0, .string ⟨#[]⟩, .string ⟨#[]⟩, .string ⟨#[]⟩] 23) := ⟨_, rfl⟩
  have hB0 : Below w.heap.size w V := by rw [hV]; exact (Below.refl _ _).alloc (Nat.le_refl _) _
  have hX0 : V.heap[w.heap.size]? = some (.cells #[.int .i64 0, .string ⟨#[]⟩, .string ⟨#[]⟩, .string ⟨#[]⟩] 23 (0, 0)) := by rw [hV]; exact heap_alloc_new _ _
  have hw1 := word_any s V (by omega)
  rw [hl, hl1] at hw1
  dsimp only at hw1
  rw [hr1, hr2] at hw1
  have HW1 := hide hw1
  have HW2 : Hid (∀ W, Calls Tryd.prog 23 #[.string r2] W fun e w' => e = .returned (.tuple #[.string r3, .string r4, .bool true]) ∧ Below W.heap.size W w') := hide fun W => by
    have h := word_any r2 W (by rw [← hr2, lB_size]; omega)
    rw [← hr2, B_data, hl2] at h
    dsimp only at h
    rw [hr3, hr4] at h
    rw [← hr2]
    exact h
  have HX0 := hide hX0
  have HB0 := hide hB0
  have HV := hide hV
  have HZ := hide (And.intro hz3 (And.intro hz4 hmx))
  clear hw1 hl1 hl2 hX0 hB0 hV k1 k2 hll hs hl hr2 hr3 hr4 hz3 hz4 hmx h0 h1 h2 h3 h4 h5 hr1
  go_enter Tryd.func11, Tryd.ntmps11
  go_wp2_with fail
  rw [← unhide HV]
  refine (unhide HW1).mono ?_
  rintro e w1 ⟨rfl, b1⟩
  have HX1 := hide ((b1.block _ (Array.getElem?_eq_some_iff.1 (unhide HX0)).1).trans (unhide HX0))
  have HB1 := hide ((unhide HB0).trans (b1.mono (unhide HB0).size))
  clear b1 HW1 HX0 HB0 HV
  --@A1@
  go_wp2_with fail
  refine ((unhide HW2) w1).mono ?_
  rintro e w2 ⟨rfl, b2⟩
  have hX2 := (b2.block _ (Array.getElem?_eq_some_iff.1 (unhide HX1)).1).trans (unhide HX1)
  have hXl : w.heap.size < w2.heap.size := (Array.getElem?_eq_some_iff.1 hX2).1
  have hB2 := (unhide HB1).trans (b2.mono (unhide HB1).size)
  obtain ⟨V3, hV3⟩ : ∃ V3, V3 = w2.alloc (.cells #[.int .i64 0, .string r3, .string ⟨#[]⟩, .string ⟨#[]⟩] 23) := ⟨_, rfl⟩
  have hC3 : V3.heap[w2.heap.size]? = some (.cells #[.int .i64 0, .string r3, .string ⟨#[]⟩, .string ⟨#[]⟩] 23 (0, 0)) := by rw [hV3]; exact heap_alloc_new _ _
  have hX3 : V3.heap[w.heap.size]? = some (.cells #[.int .i64 0, .string ⟨#[]⟩, .string ⟨#[]⟩, .string ⟨#[]⟩] 23 (0, 0)) := by rw [hV3, Below.heap_alloc _ _ _ hXl]; exact hX2
  have hB3 : Below w.heap.size w V3 := by rw [hV3]; exact hB2.alloc (by omega) _
  clear b2 HW2 HX1 HB1 hX2 hB2
  have HQ : Hid (aParse l = (noCall, 12)) := hide (by unfold aParse; rw [unhide HW]; rfl)
  rw [hV3] at hX3 hB3 
  have hXs := hX3
  have HBs := hide hB3
  clear HW hC3 hX3 hB3
  obtain ⟨hz, hBZ⟩ := store4 hXs (unhide HBs) (.int .i64 0) (.string ⟨#[]⟩) (.string ⟨#[]⟩) (.string ⟨#[]⟩)
  obtain ⟨V9, hV9⟩ : ∃ V9, V9 = (w2.alloc (.cells #[.int .i64 0, .string r3, .string ⟨#[]⟩, .string ⟨#[]⟩] 23)).setRow w.heap.size #[.int .i64 0, .string ⟨#[]⟩, .string ⟨#[]⟩, .string ⟨#[]⟩] := ⟨_, rfl⟩
  rw [← hV9] at hz hBZ
  obtain ⟨z0, z1, z2, z3, _⟩ := fourK hz
  clear hz
  --@E@
  go_wp2_with (refine wpList_store_row rfl 23 _ _ rfl w.heap.size #[.int .i64 0, .string ⟨#[]⟩, .string ⟨#[]⟩, .string ⟨#[]⟩] rfl rfl 23 _ hXs info23s rfl (by simp [Value.oneCell']) ?_)
  rw [← hV9]
  refine bodyPost_ret (v := .tuple #[.agg #[.int .i64 0, .string ⟨#[]⟩, .string ⟨#[]⟩, .string ⟨#[]⟩], .int .i64 (12)]) (by simp [results, Tryd.results11, go_sem, z0, z1, z2, z3]) rfl ⟨?_, hBZ⟩
  show CallRes l _
  unfold CallRes
  rw [unhide HQ]
  try rfl

end Go.Proofs.YtkbdaiopahmfiacDoor

namespace Go.Proofs.YtkbdaiopahmfiacDoor
open Go.RowKit
set_option linter.unusedSimpArgs false
set_option linter.unusedVariables false

theorem CallOf_any (s : ByteArray) (w : World) (hs : s.size ≤ 1000000) :
    Calls Tryd.prog 11 #[.string s] w fun e w' => CallRes s.data.toList e ∧ Below w.heap.size w w' := by
  obtain ⟨c1, hc1⟩ : ∃ c, cutB s.data.toList = c := ⟨_, rfl⟩
  obtain ⟨wl, rl, m1⟩ := c1
  obtain ⟨c2, hc2⟩ : ∃ c, cutB rl = c := ⟨_, rfl⟩
  obtain ⟨nl, ll, m2⟩ := c2
  have hm : m1 = false → m2 = false := fun h => by
    have h1 := (cutB_back s.data.toList).2.1
    rw [hc1] at h1
    have h2 := (h1 h).2
    dsimp only at h2
    rw [h2] at hc2
    simp [cutB] at hc2
    exact hc2.2.2
  by_cases h0 : wl = wList
  · subst h0
    cases m1 with
    | false =>
      have := hm rfl
      subst this
      exact CallOf_0ff s rl nl ll w hs hc1 hc2
    | true =>
      cases m2 with
      | false => exact CallOf_0tf s rl nl ll w hs hc1 hc2
      | true => exact CallOf_0tt s rl nl ll w hs hc1 hc2
  by_cases h1 : wl = wMake
  · subst h1
    cases m1 with
    | false =>
      have := hm rfl
      subst this
      exact CallOf_1ff s rl nl ll w hs hc1 hc2
    | true =>
      cases m2 with
      | false => exact CallOf_1tf s rl nl ll w hs hc1 hc2
      | true => exact CallOf_1tt s rl nl ll w hs hc1 hc2
  by_cases h2 : wl = wRemove
  · subst h2
    cases m1 with
    | false =>
      have := hm rfl
      subst this
      exact CallOf_2ff s rl nl ll w hs hc1 hc2
    | true =>
      cases m2 with
      | false => exact CallOf_2tf s rl nl ll w hs hc1 hc2
      | true => exact CallOf_2tt s rl nl ll w hs hc1 hc2
  by_cases h3 : wl = wRead
  · subst h3
    cases m1 with
    | false =>
      have := hm rfl
      subst this
      exact CallOf_3ff s rl nl ll w hs hc1 hc2
    | true =>
      cases m2 with
      | false => exact CallOf_3tf s rl nl ll w hs hc1 hc2
      | true => exact CallOf_3tt s rl nl ll w hs hc1 hc2
  by_cases h4 : wl = wRename
  · subst h4
    cases m1 with
    | false =>
      have := hm rfl
      subst this
      exact CallOf_4ff s rl nl ll w hs hc1 hc2
    | true =>
      cases m2 with
      | false => exact CallOf_4tf s rl nl ll w hs hc1 hc2
      | true => exact CallOf_4tt s rl nl ll w hs hc1 hc2
  by_cases h5 : wl = wAppend
  · subst h5
    cases m1 with
    | false =>
      have := hm rfl
      subst this
      exact CallOf_5ff s rl nl ll w hs hc1 hc2
    | true =>
      cases m2 with
      | false => exact CallOf_5tf s rl nl ll w hs hc1 hc2
      | true => exact CallOf_5tt s rl nl ll w hs hc1 hc2
  cases m1 with
  | false =>
    have := hm rfl
    subst this
    exact CallOf_6ff s rl nl ll wl w hs hc1 hc2 h0 h1 h2 h3 h4 h5
  | true =>
    cases m2 with
    | false => exact CallOf_6tf s rl nl ll wl w hs hc1 hc2 h0 h1 h2 h3 h4 h5
    | true => exact CallOf_6tt s rl nl ll wl w hs hc1 hc2 h0 h1 h2 h3 h4 h5

end Go.Proofs.YtkbdaiopahmfiacDoor

namespace Go.Proofs.YtkbdaiopahmfiacDoor
open Go.RowKit
set_option linter.unusedSimpArgs false
set_option linter.unusedVariables false

theorem AnswerText_any (d : Int) (u : ByteArray) (w : World) (hw : LW w) (h0 : -9223372036854775808 ≤ d) (h1 : d ≤ 9223372036854775807) (hu : u.size ≤ 900000) :
    Calls Tryd.prog 13 #[.agg #[.int .i64 d, .string u]] w fun e w' => e = .returned (.string (B (ansL d u.data.toList))) ∧ Below w.heap.size w w' := by
  by_cases hd : d = 0
  · subst hd
    exact AnswerText_zero u w (by omega)
  · exact AnswerText_code d u w hd h0 h1 (by omega) hw.pw

set_option maxRecDepth 100000 in
set_option maxHeartbeats 8000000 in
theorem ldoes_walk (c : ACall) (s : ByteArray) (d : Int) (u : ByteArray) (w : World) (hw : LW w) (c1 : c.name.size ≤ 281474976710656) (c2 : c.dst.size ≤ 281474976710656) (c3 : c.text.size ≤ 281474976710656) (hs : s.size ≤ maxLen) (r1 : -9223372036854775808 ≤ d ∧ d ≤ 9223372036854775807) (s1 : u.size ≤ 281474976710656) :
    Calls Tryd.prog 3 #[.agg #[.int .i64 c.kind, .string c.name, .string c.dst, .string c.text], .string s, .agg #[.int .i64 d, .string u]] w fun e w' => e = .returned (.bool true) ∧ Below w.heap.size w w' := by
  have HCC := hide (fun W hW => LCall_any c W hW (Nat.le_trans c1 (by decide)) (Nat.le_trans c2 (by decide)) (Nat.le_trans c3 (by decide)))
  have HCT := hide (fun W => CallText_any c W (Nat.le_trans c1 (by decide)) (Nat.le_trans c2 (by decide)) (Nat.le_trans c3 (by decide)))
  obtain ⟨g1, HG1⟩ := lgreat_fix c
  obtain ⟨V0, hV0⟩ : ∃ V, V = (w.alloc (.cells #[.int .i64 c.kind, .string c.name, .string c.dst, .string c.text] 23)).alloc (.cells #[.int .i64 d, .string u] 25) := ⟨_, rfl⟩
  have hb0 : Below w.heap.size w V0 := by rw [hV0]; exact ((Below.refl _ _).alloc (Nat.le_refl _) _).alloc (by simp) _
  have hA0 : V0.heap[w.heap.size]? = some (.cells #[.int .i64 c.kind, .string c.name, .string c.dst, .string c.text] 23 (0, 0)) := by rw [hV0, Below.heap_alloc _ _ _ (by simp)]; exact heap_alloc_new _ _
  have hE0 : V0.heap[w.heap.size + 1]? = some (.cells #[.int .i64 d, .string u] 25 (0, 0)) := by
    rw [hV0]
    have := heap_alloc_new (w.alloc (.cells #[.int .i64 c.kind, .string c.name, .string c.dst, .string c.text] 23)) (.cells #[.int .i64 d, .string u] 25)
    rwa [al_size] at this
  have hlt : w.heap.size + 1 < V0.heap.size := (Array.getElem?_eq_some_iff.1 hE0).1
  have hB : ∀ W, Below V0.heap.size V0 W → Below w.heap.size w W ∧ LW W ∧ (W.cell? ⟨w.heap.size, 0, none⟩ = some (.int .i64 c.kind) ∧ W.cell? ⟨w.heap.size, 1, none⟩ = some (.string c.name) ∧ W.cell? ⟨w.heap.size, 2, none⟩ = some (.string c.dst) ∧ W.cell? ⟨w.heap.size, 3, none⟩ = some (.string c.text)) ∧ (W.cell? ⟨w.heap.size + 1, 0, none⟩ = some (.int .i64 d) ∧ W.cell? ⟨w.heap.size + 1, 1, none⟩ = some (.string u)) := fun W hW => by
    obtain ⟨a0, a1, a2, a3, _⟩ := fourK ((hW.block _ (by omega)).trans hA0)
    obtain ⟨e0, e1, _⟩ := twoK ((hW.block _ (by omega)).trans hE0)
    exact ⟨hb0.trans (hW.mono (by omega)), (hw.below hb0).below hW, ⟨a0, a1, a2, a3⟩, ⟨e0, e1⟩⟩
  have HB := hide hB
  have HW0 := hide (hw.below hb0)
  have HV0 := hide hV0
  obtain ⟨l, hl⟩ : ∃ l, s.data.toList = l := ⟨_, rfl⟩
  have HPS : Hid (s.size ≤ 1000 → ∀ W, LW W → Calls Tryd.prog 10 #[.string s] W fun e w' => e = .returned (.tuple #[.agg #[.int .i64 (aParse l).1.kind, .string (aParse l).1.name, .string (aParse l).1.dst, .string (aParse l).1.text], .int .i64 (aParse l).2]) ∧ Below W.heap.size W w') := hide fun h W hW => by
    have := Parse_any s W hW (by omega)
    rw [hl] at this
    exact this
  have HPO : Hid (s.size ≤ 1000 → ∀ W, Calls Tryd.prog 11 #[.string s] W fun e w' => e = .returned (.tuple #[.agg #[.int .i64 (aParse l).1.kind, .string (aParse l).1.name, .string (aParse l).1.dst, .string (aParse l).1.text], .int .i64 (aParse l).2]) ∧ Below W.heap.size W w') := hide fun h W => by
    have := CallOf_any s W (by omega)
    rw [hl] at this
    exact this
  have HAN : Hid (u.size ≤ 300 → ∀ W, LW W → Calls Tryd.prog 12 #[.agg #[.int .i64 d, .string u]] W fun e w' => e = .returned (.string (B (ansL d u.data.toList))) ∧ Below W.heap.size W w') := hide fun h W hW => Answer_any d u W hW r1.1 r1.2 (by omega)
  have HAT : Hid (u.size ≤ 300 → ∀ W, LW W → Calls Tryd.prog 13 #[.agg #[.int .i64 d, .string u]] W fun e w' => e = .returned (.string (B (ansL d u.data.toList))) ∧ Below W.heap.size W w') := hide fun h W hW => AnswerText_any d u W hW r1.1 r1.2 (by omega)
  generalize B (ansL d u.data.toList) = m at HAN HAT
  obtain ⟨Q, hQ⟩ : ∃ Q, aParse l = Q := ⟨_, rfl⟩
  rw [hQ] at HPS HPO
  obtain ⟨z, gz⟩ := Q
  obtain ⟨L, hL⟩ : ∃ L, aLine c = L := ⟨_, rfl⟩
  rw [hL] at HCC HCT
  obtain ⟨ls, code⟩ := L
  dsimp only at HPS HPO HCC HCT
  generalize B ls = t at HCC HCT
  have HZE : Hid (∀ W, (binOp .eql 23 (.agg #[.int .i64 z.kind, .string z.name, .string z.dst, .string z.text]) (.agg #[.int .i64 z.kind, .string z.name, .string z.dst, .string z.text])).run Tryd.prog W = .ok (.bool true) W) := hide fun W => by
    have := leql32 z z W
    rw [callB_self] at this
    exact this
  clear hw hb0 hV0 hA0 hE0 hB c1 c2 c3 hl hQ hL hs r1 s1
  obtain ⟨k, na, nb, nc⟩ := c
  obtain ⟨zk, za, zb, zc⟩ := z
  dsimp only at *
  go_enter Tryd.func3, Tryd.ntmps3
  go_wp2_with fail
  rw [← unhide HV0]
  refine (lineBegun_any V0 (unhide HW0)).mono ?_
  rintro e w1 ⟨rfl, b1⟩
  obtain ⟨_, lw1, ⟨a0, a1, a2, a3⟩, _⟩ := (unhide HB) w1 b1
  have HB1 := hide b1
  clear b1 lw1
  --@A1@
  go_wp2_with fail
  refine (HG1 w1).mono ?_
  rintro e w2 ⟨rfl, b2⟩
  clear a0 a1 a2 a3
  have hb2 := (unhide HB1).trans (b2.mono (unhide HB1).size)
  obtain ⟨be2, lw2, ⟨a0, a1, a2, a3⟩, ⟨e0, e1⟩⟩ := (unhide HB) w2 hb2
  have HBE2 := hide be2
  have HB2 := hide hb2
  have HLW2 := hide lw2
  clear b2 hb2 be2 lw2 HG1 HB1
  cases g1 with
  | true =>
    --@A2@
    go_wp2
    go_ret
    exact ⟨rfl, unhide HBE2⟩
  | false =>
    by_cases hg : (1000 : Int) < (s.size : Int)
    · --@A3@
      go_wp2
      go_ret
      exact ⟨rfl, unhide HBE2⟩
    by_cases hg2 : (300 : Int) < (u.size : Int)
    · --@A4@
      go_wp2
      go_ret
      exact ⟨rfl, unhide HBE2⟩
    have HPS' := hide ((unhide HPS) (by omega))
    have HPO' := hide ((unhide HPO) (by omega))
    have HAN' := hide ((unhide HAN) (by omega))
    have HAT' := hide ((unhide HAT) (by omega))
    clear HPS HPO HAN HAT
    --@A5@
    go_wp2_with fail
    refine ((unhide HCC) w2 (unhide HLW2)).mono ?_
    rintro e w3 ⟨rfl, b3⟩
    clear a0 a1 a2 a3 e0 e1
    have hb3 := (unhide HB2).trans (b3.mono (unhide HB2).size)
    obtain ⟨_, _, ⟨a0, a1, a2, a3⟩, _⟩ := (unhide HB) w3 hb3
    have HB3 := hide hb3
    clear b3 hb3 HB2 HLW2 HBE2 HCC hg hg2
    --@A6@
    go_wp2_with fail
    refine ((unhide HCT) w3).mono ?_
    rintro e w4 ⟨rfl, b4⟩
    clear a0 a1 a2 a3
    have hb4 := (unhide HB3).trans (b4.mono (unhide HB3).size)
    have HLW4 := hide ((unhide HB) w4 hb4).2.1
    have HB4 := hide hb4
    clear b4 hb4 HB3 HCT
    --@A7@
    go_wp2_with fail
    refine ((unhide HPS') w4 (unhide HLW4)).mono ?_
    rintro e w5 ⟨rfl, b5⟩
    have hb5 := (unhide HB4).trans (b5.mono (unhide HB4).size)
    obtain ⟨V5, hV5⟩ : ∃ V, V = w5.alloc (.cells #[.int .i64 zk, .string za, .string zb, .string zc] 23) := ⟨_, rfl⟩
    have hbV5 : Below V0.heap.size V0 V5 := by rw [hV5]; exact hb5.alloc hb5.size _
    have hZ5 : V5.heap[w5.heap.size]? = some (.cells #[.int .i64 zk, .string za, .string zb, .string zc] 23 (0, 0)) := by rw [hV5]; exact heap_alloc_new _ _
    have HBV5 := hide hbV5
    have HZ5 := hide hZ5
    have HV5 := hide hV5
    clear b5 hb5 hbV5 hZ5 hV5 HB4 HLW4 HPS'
    --@A8@
    go_wp2_with fail
    rw [← unhide HV5]
    refine ((unhide HPO') V5).mono ?_
    rintro e w6 ⟨rfl, b6⟩
    have hb6 := (unhide HBV5).trans (b6.mono (unhide HBV5).size)
    have hZ6 := (b6.block _ (Array.getElem?_eq_some_iff.1 (unhide HZ5)).1).trans (unhide HZ5)
    obtain ⟨V6, hV6⟩ : ∃ V, V = w6.alloc (.cells #[.int .i64 zk, .string za, .string zb, .string zc] 23) := ⟨_, rfl⟩
    have hbV6 : Below V0.heap.size V0 V6 := by rw [hV6]; exact hb6.alloc hb6.size _
    have hZV : V6.heap[w5.heap.size]? = some (.cells #[.int .i64 zk, .string za, .string zb, .string zc] 23 (0, 0)) := by rw [hV6, Below.heap_alloc _ _ _ (Array.getElem?_eq_some_iff.1 hZ6).1]; exact hZ6
    have hYV : V6.heap[w6.heap.size]? = some (.cells #[.int .i64 zk, .string za, .string zb, .string zc] 23 (0, 0)) := by rw [hV6]; exact heap_alloc_new _ _
    have HS : Hid (∀ W, Below V6.heap.size V6 W → Below w.heap.size w W ∧ LW W ∧ (W.cell? ⟨w.heap.size + 1, 0, none⟩ = some (.int .i64 d) ∧ W.cell? ⟨w.heap.size + 1, 1, none⟩ = some (.string u)) ∧ (W.cell? ⟨w5.heap.size, 0, none⟩ = some (.int .i64 zk) ∧ W.cell? ⟨w5.heap.size, 1, none⟩ = some (.string za) ∧ W.cell? ⟨w5.heap.size, 2, none⟩ = some (.string zb) ∧ W.cell? ⟨w5.heap.size, 3, none⟩ = some (.string zc)) ∧ (W.cell? ⟨w6.heap.size, 0, none⟩ = some (.int .i64 zk) ∧ W.cell? ⟨w6.heap.size, 1, none⟩ = some (.string za) ∧ W.cell? ⟨w6.heap.size, 2, none⟩ = some (.string zb) ∧ W.cell? ⟨w6.heap.size, 3, none⟩ = some (.string zc))) := hide fun W hW => by
      obtain ⟨h1, h2, _, h4⟩ := (unhide HB) W (hbV6.trans (hW.mono hbV6.size))
      obtain ⟨y0, y1, y2, y3, _⟩ := fourK ((hW.block _ (Array.getElem?_eq_some_iff.1 hZV).1).trans hZV)
      obtain ⟨x0, x1, x2, x3, _⟩ := fourK ((hW.block _ (Array.getElem?_eq_some_iff.1 hYV).1).trans hYV)
      exact ⟨h1, h2, h4, ⟨y0, y1, y2, y3⟩, ⟨x0, x1, x2, x3⟩⟩
    have HV6 := hide hV6
    clear b6 hb6 hZ6 hbV6 hZV hYV hV6 HBV5 HZ5 HV5 HPO' HB HW0 HV0
    --@A9@
    go_wp2_with fail
    rw [← unhide HV6]
    refine wp_region_held_drew (S := (fun wx => Below V6.heap.size V6 wx)) (by kernel_rfl) ((Below.refl _ _).drew) (fun hHeld => ?_)
    refine wpAnyH_take (i := 0) (v := ?_) opn0 (by kernel_rfl) (by kernel_rfl) (by kernel_rfl) (fun _ _ _ h => h) (Or.inl ⟨by kernel_rfl, ?_⟩) (by assumption) ?_
    rotate_left 1
    · intro wz hSw
      try dsimp only at hSw
      go_simp
      all_goals with_reducible rfl
    try simp only [Act.put, List.setIfInBounds_toArray, List.set_cons_zero, List.set_cons_succ]
    refine wpAnyH_take (i := 1) (v := ?_) opn1 (by kernel_rfl) (by kernel_rfl) (by kernel_rfl) (fun _ _ _ h => h) (Or.inl ⟨by kernel_rfl, ?_⟩) (by assumption) ?_
    rotate_left 1
    · intro wz hSw
      try dsimp only at hSw
      go_simp
      all_goals with_reducible rfl
    try simp only [Act.put, List.setIfInBounds_toArray, List.set_cons_zero, List.set_cons_succ]
    refine wpAnyH_take (i := 2) (v := .bool true) opn2 (by kernel_rfl) (by kernel_rfl) (by kernel_rfl) (fun _ _ _ h => h) (Or.inl ⟨by kernel_rfl, ?_⟩) (by assumption) ?_
    · intro wz hSw
      try dsimp only at hSw
      go_simp
      all_goals with_reducible rfl
    try simp only [Act.put, List.setIfInBounds_toArray, List.set_cons_zero, List.set_cons_succ]
    refine wpAnyH_take (i := 3) (v := .bool true) opn3 (by kernel_rfl) (by kernel_rfl) (by kernel_rfl) (fun _ _ _ h => h) (Or.inl ⟨by kernel_rfl, ?_⟩) (by assumption) ?_
    · intro wz hSw
      try dsimp only at hSw
      go_simp
      all_goals with_reducible rfl
    try simp only [Act.put, List.setIfInBounds_toArray, List.set_cons_zero, List.set_cons_succ]
    refine wpAnyH_take (i := 4) (v := ?_) opn4 (by kernel_rfl) (by kernel_rfl) (by kernel_rfl) (fun _ _ _ h => h) (Or.inl ⟨by kernel_rfl, ?_⟩) (by assumption) ?_
    rotate_left 1
    · intro wz hSw
      try dsimp only at hSw
      go_simp
      all_goals with_reducible rfl
    try simp only [Act.put, List.setIfInBounds_toArray, List.set_cons_zero, List.set_cons_succ]
    refine wpAnyH_take (i := 5) (v := ?_) opn5 (by kernel_rfl) (by kernel_rfl) (by kernel_rfl) (fun _ _ _ h => h) (Or.inl ⟨by kernel_rfl, ?_⟩) (by assumption) ?_
    rotate_left 1
    · intro wz hSw
      try dsimp only at hSw
      go_simp
      all_goals with_reducible rfl
    try simp only [Act.put, List.setIfInBounds_toArray, List.set_cons_zero, List.set_cons_succ]
    refine wpAnyH_take (i := 6) (v := .bool true) opn6 (by kernel_rfl) (by kernel_rfl) (by kernel_rfl) (fun _ _ _ h => h) (Or.inl ⟨by kernel_rfl, ?_⟩) (by assumption) ?_
    · intro wz hSw
      try dsimp only at hSw
      go_simp
      all_goals with_reducible rfl
    try simp only [Act.put, List.setIfInBounds_toArray, List.set_cons_zero, List.set_cons_succ]
    refine wpAnyH_take (i := 7) (v := .bool true) opn7 (by kernel_rfl) (by kernel_rfl) (by kernel_rfl) (fun _ _ _ h => h) (Or.inl ⟨by kernel_rfl, ?_⟩) (by assumption) ?_
    · intro wz hSw
      try dsimp only at hSw
      go_simp
      all_goals with_reducible rfl
    try simp only [Act.put, List.setIfInBounds_toArray, List.set_cons_zero, List.set_cons_succ]
    refine wpAnyH_take (i := 8) (v := .bool true) opn8 (by kernel_rfl) (by kernel_rfl) (by kernel_rfl) (fun _ _ _ h => h) (Or.inl ⟨by kernel_rfl, ?_⟩) (by assumption) ?_
    · intro wz hSw
      try dsimp only at hSw
      go_simp
      all_goals with_reducible rfl
    try simp only [Act.put, List.setIfInBounds_toArray, List.set_cons_zero, List.set_cons_succ]
    --@C1@
    refine wpAnyH_take (i := 9) (v := ?_) opn9 (by kernel_rfl) (by kernel_rfl) (by kernel_rfl) (fun _ _ _ h => h) (Or.inl ⟨by kernel_rfl, ?_⟩) (by assumption) ?_
    rotate_left 1
    · intro wz hSw
      try dsimp only at hSw
      obtain ⟨_, _, ⟨e0, e1⟩, ⟨y0, y1, y2, y3⟩, ⟨x0, x1, x2, x3⟩⟩ := (unhide HS) wz hSw
      go_simp
      all_goals with_reducible rfl
    try simp only [Act.put, List.setIfInBounds_toArray, List.set_cons_zero, List.set_cons_succ]
    refine wpAnyH_take (i := 10) (v := ?_) opn10 (by kernel_rfl) (by kernel_rfl) (by kernel_rfl) (fun _ _ _ h => h) (Or.inl ⟨by kernel_rfl, ?_⟩) (by assumption) ?_
    rotate_left 1
    · intro wz hSw
      try dsimp only at hSw
      obtain ⟨_, _, ⟨e0, e1⟩, ⟨y0, y1, y2, y3⟩, ⟨x0, x1, x2, x3⟩⟩ := (unhide HS) wz hSw
      go_simp
      all_goals with_reducible rfl
    try simp only [Act.put, List.setIfInBounds_toArray, List.set_cons_zero, List.set_cons_succ]
    refine wpAnyH_take (i := 11) (v := .bool true) opn11 (by kernel_rfl) (by kernel_rfl) (by kernel_rfl) (fun _ _ _ h => h) (Or.inl ⟨by kernel_rfl, ?_⟩) (by assumption) ?_
    · intro wz hSw
      exact lyieldsB rfl (by simp [Act.eval]) (by simp [Act.eval]) ((unhide HZE) wz) (lgd32 _ _ _ _ _ wz (.inr rfl))
    try simp only [Act.put, List.setIfInBounds_toArray, List.set_cons_zero, List.set_cons_succ]
    --@C2@
    refine wpAnyH_take (i := 12) (v := .bool true) opn12 (by kernel_rfl) (by kernel_rfl) (by kernel_rfl) (fun _ _ _ h => h) (Or.inl ⟨by kernel_rfl, ?_⟩) (by assumption) ?_
    · intro wz hSw
      try dsimp only at hSw
      go_simp
      all_goals with_reducible rfl
    try simp only [Act.put, List.setIfInBounds_toArray, List.set_cons_zero, List.set_cons_succ]
    refine wpAnyH_take (i := 13) (v := .bool true) opn13 (by kernel_rfl) (by kernel_rfl) (by kernel_rfl) (fun _ _ _ h => h) (Or.inl ⟨by kernel_rfl, ?_⟩) (by assumption) ?_
    · intro wz hSw
      try dsimp only at hSw
      go_simp
      all_goals with_reducible rfl
    try simp only [Act.put, List.setIfInBounds_toArray, List.set_cons_zero, List.set_cons_succ]
    refine wpAnyH_take (i := 14) (v := ?_) opn14 (by kernel_rfl) (by kernel_rfl) (by kernel_rfl) (fun _ _ _ h => h) (Or.inl ⟨by kernel_rfl, ?_⟩) (by assumption) ?_
    rotate_left 1
    · intro wz hSw
      try dsimp only at hSw
      go_simp
      all_goals with_reducible rfl
    try simp only [Act.put, List.setIfInBounds_toArray, List.set_cons_zero, List.set_cons_succ]
    refine wpAnyH_take (i := 15) (v := ?_) opn15 (by kernel_rfl) (by kernel_rfl) (by kernel_rfl) (fun _ _ _ h => h) (Or.inl ⟨by kernel_rfl, ?_⟩) (by assumption) ?_
    rotate_left 1
    · intro wz hSw
      try dsimp only at hSw
      go_simp
      all_goals with_reducible rfl
    try simp only [Act.put, List.setIfInBounds_toArray, List.set_cons_zero, List.set_cons_succ]
    refine wpAnyH_take (i := 16) (v := .bool true) opn16 (by kernel_rfl) (by kernel_rfl) (by kernel_rfl) (fun _ _ _ h => h) (Or.inl ⟨by kernel_rfl, ?_⟩) (by assumption) ?_
    · intro wz hSw
      try dsimp only at hSw
      go_simp
      all_goals with_reducible rfl
    try simp only [Act.put, List.setIfInBounds_toArray, List.set_cons_zero, List.set_cons_succ]
    refine wpAnyH_take (i := 17) (v := .bool true) opn17 (by kernel_rfl) (by kernel_rfl) (by kernel_rfl) (fun _ _ _ h => h) (Or.inl ⟨by kernel_rfl, ?_⟩) (by assumption) ?_
    · intro wz hSw
      try dsimp only at hSw
      go_simp
      all_goals with_reducible rfl
    try simp only [Act.put, List.setIfInBounds_toArray, List.set_cons_zero, List.set_cons_succ]
    refine wpAnyH_take (i := 18) (v := .bool true) opn18 (by kernel_rfl) (by kernel_rfl) (by kernel_rfl) (fun _ _ _ h => h) (Or.inl ⟨by kernel_rfl, ?_⟩) (by assumption) ?_
    · intro wz hSw
      try dsimp only at hSw
      go_simp
      all_goals with_reducible rfl
    try simp only [Act.put, List.setIfInBounds_toArray, List.set_cons_zero, List.set_cons_succ]
    --@C3@
    refine wpAnyH_take (i := 19) (v := ?_) opn19 (by kernel_rfl) (by kernel_rfl) (by kernel_rfl) (fun _ _ _ h => h) (Or.inl ⟨by kernel_rfl, ?_⟩) (by assumption) ?_
    rotate_left 1
    · intro wz hSw
      try dsimp only at hSw
      obtain ⟨_, _, ⟨e0, e1⟩, ⟨y0, y1, y2, y3⟩, ⟨x0, x1, x2, x3⟩⟩ := (unhide HS) wz hSw
      go_simp
      all_goals with_reducible rfl
    try simp only [Act.put, List.setIfInBounds_toArray, List.set_cons_zero, List.set_cons_succ]
    refine wpAnyH_take (i := 21) (v := ?_) opn21 (by kernel_rfl) (by kernel_rfl) (by kernel_rfl) (fun _ _ _ h => h) (Or.inl ⟨by kernel_rfl, ?_⟩) (by assumption) ?_
    rotate_left 1
    · intro wz hSw
      try dsimp only at hSw
      obtain ⟨_, _, ⟨e0, e1⟩, ⟨y0, y1, y2, y3⟩, ⟨x0, x1, x2, x3⟩⟩ := (unhide HS) wz hSw
      go_simp
      all_goals with_reducible rfl
    try simp only [Act.put, List.setIfInBounds_toArray, List.set_cons_zero, List.set_cons_succ]
    --@C4@
    refine wpAnyH_ready (rs := [20]) (by kernel_rfl) (by simp) ?_
    refine AllReadyH.cons opn20 (fun K hK => ?_) AllReadyH.nil
    rw [if_pos (by kernel_rfl)]
    go_simp
    refine ((unhide HAN') _ ((unhide HS) _ hHeld).2.1).mono ?_
    rintro e w7 ⟨rfl, b7⟩
    have hb7 := Below.trans hHeld (b7.mono (Below.size hHeld))
    clear b7
    refine hK.out _ _ hb7 (fun hHeldN => ?_)
    clear hHeld hK K
    have hHeld := hHeldN
    clear hHeldN
    try simp only [Act.put, List.setIfInBounds_toArray, List.set_cons_zero, List.set_cons_succ]
    clear hb7
    --@C5@
    refine wpAnyH_ready (rs := [22]) (by kernel_rfl) (by simp) ?_
    refine AllReadyH.cons opn22 (fun K hK => ?_) AllReadyH.nil
    rw [if_pos (by kernel_rfl)]
    go_simp
    refine ((unhide HAT') _ ((unhide HS) _ hHeld).2.1).mono ?_
    rintro e w8 ⟨rfl, b8⟩
    have hb8 := Below.trans hHeld (b8.mono (Below.size hHeld))
    have HBE := hide ((unhide HS) _ hb8).1
    clear b8
    refine hK.out _ _ hb8 (fun hHeldN => ?_)
    clear hHeld hK K
    have hHeld := hHeldN
    clear hHeldN
    try simp only [Act.put, List.setIfInBounds_toArray, List.set_cons_zero, List.set_cons_succ]
    clear hb8
    --@C6@
    refine wpAnyH_take (i := 23) (v := .bool true) opn23 (by kernel_rfl) (by kernel_rfl) (by kernel_rfl) (fun _ _ _ h => h) (Or.inl ⟨by kernel_rfl, ?_⟩) (by assumption) ?_
    · intro wz hSw
      try dsimp only at hSw
      go_simp
      all_goals with_reducible rfl
    try simp only [Act.put, List.setIfInBounds_toArray, List.set_cons_zero, List.set_cons_succ]
    refine wpAnyH_take (i := 24) (v := .bool true) opn24 (by kernel_rfl) (by kernel_rfl) (by kernel_rfl) (fun _ _ _ h => h) (Or.inl ⟨by kernel_rfl, ?_⟩) (by assumption) ?_
    · intro wz hSw
      try dsimp only at hSw
      go_simp
      all_goals with_reducible rfl
    try simp only [Act.put, List.setIfInBounds_toArray, List.set_cons_zero, List.set_cons_succ]
    refine wpAnyH_take (i := 25) (v := ?_) opn25 (by kernel_rfl) (by kernel_rfl) (by kernel_rfl) (fun _ _ _ h => h) (Or.inl ⟨by kernel_rfl, ?_⟩) (by assumption) ?_
    rotate_left 1
    · intro wz hSw
      try dsimp only at hSw
      go_simp
      all_goals with_reducible rfl
    try simp only [Act.put, List.setIfInBounds_toArray, List.set_cons_zero, List.set_cons_succ]
    refine wpAnyH_done (by kernel_rfl) ?_ _
    clear hHeld
    --@C7@
    go_wp2
    go_ret
    exact ⟨rfl, unhide HBE⟩

end Go.Proofs.YtkbdaiopahmfiacDoor

namespace Go.Proofs.YtkbdaiopahmfiacDoor
open Go.ChangeShapes Go.WideShapes Go.ChangeAt Go.RowKit Go.Deep Go.Joins
set_option linter.unusedSimpArgs false
set_option linter.unusedVariables false

theorem own0 : ownKnob Tryd.prog.godebug = none := by kernel_rfl
theorem laidOut0 : laidOutB Tryd.prog = true := by kernel_rfl
theorem cells23 : Tryd.prog.cellsOf 23 = 4 := by kernel_rfl
theorem cells3 : Tryd.prog.cellsOf 3 = 1 := by kernel_rfl
theorem cells9 : Tryd.prog.cellsOf 9 = 1 := by kernel_rfl

section
variable {H : Type} {enc : TypeId × Value → H} {w : World} {base : Nat} {spare : Nat → Bool} {held : Bool}

end

end Go.Proofs.YtkbdaiopahmfiacDoor

namespace Go.Proofs.YtkbdaiopahmfiacDoor
open Go.ChangeShapes Go.WideShapes Go.ChangeAt Go.RowKit Go.Deep Go.Joins
set_option linter.unusedSimpArgs false
set_option linter.unusedVariables false

theorem reach48 {s : ByteArray} (h : s.data.toList.length ≤ reachBytes) : s.size ≤ 281474976710656 := by
  have h1 : s.size = s.data.toList.length := by show s.data.size = _; rw [Array.length_toList]
  unfold reachBytes at h
  omega

section
variable {H : Type} {enc : TypeId × Value → H} {w : World} {base : Nat} {spare : Nat → Bool} {held : Bool}

theorem trodS2 {P : Program} {t : TypeId} {f0 f1 : Field} {fuel : Nat} {cs : List Value} {x : DataW H × List MemPlace} (ht : P.underlying t = some (.struct #[f0, f1])) (h : DataW.trod enc P w base spare held fuel t cs = some x) :
    ∃ y0 y1 n, x.1 = .agg [y0.1, y1.1] ∧ cs.length = P.cellsOf t ∧ DataW.trod enc P w base spare held n f0.type ((cs.drop f0.offset).take (P.cellsOf f0.type)) = some y0 ∧ DataW.trod enc P w base spare held n f1.type ((cs.drop f1.offset).take (P.cellsOf f1.type)) = some y1 := by
  obtain ⟨xs, n, _, rfl, hl, hlen, hf⟩ := DataW.trod_struct ht h
  match xs, hlen with
  | [y0, y1], _ => exact ⟨y0, y1, n, rfl, hl, by simpa using hf 0 f0 rfl, by simpa using hf 1 f1 rfl⟩
theorem trodS4 {P : Program} {t : TypeId} {f0 f1 f2 f3 : Field} {fuel : Nat} {cs : List Value} {x : DataW H × List MemPlace} (ht : P.underlying t = some (.struct #[f0, f1, f2, f3])) (h : DataW.trod enc P w base spare held fuel t cs = some x) :
    ∃ y0 y1 y2 y3 n, x.1 = .agg [y0.1, y1.1, y2.1, y3.1] ∧ cs.length = P.cellsOf t ∧ DataW.trod enc P w base spare held n f0.type ((cs.drop f0.offset).take (P.cellsOf f0.type)) = some y0 ∧ DataW.trod enc P w base spare held n f1.type ((cs.drop f1.offset).take (P.cellsOf f1.type)) = some y1 ∧ DataW.trod enc P w base spare held n f2.type ((cs.drop f2.offset).take (P.cellsOf f2.type)) = some y2 ∧ DataW.trod enc P w base spare held n f3.type ((cs.drop f3.offset).take (P.cellsOf f3.type)) = some y3 := by
  obtain ⟨xs, n, _, rfl, hl, hlen, hf⟩ := DataW.trod_struct ht h
  match xs, hlen with
  | [y0, y1, y2, y3], _ => exact ⟨y0, y1, y2, y3, n, rfl, hl, by simpa using hf 0 f0 rfl, by simpa using hf 1 f1 rfl, by simpa using hf 2 f2 rfl, by simpa using hf 3 f3 rfl⟩
set_option maxRecDepth 100000 in
/-- A call's four cells. -/
theorem open_callW {fuel : Nat} {cs : List Value} {x : DataW H × List MemPlace} (h : DataW.trod enc Tryd.prog w base spare held fuel 23 cs = some x) (hw : ∀ n ∈ x.1.weights Tryd.prog 23, n ≤ reachBytes) :
    ∃ c : ACall, cs = [.int .i64 c.kind, .string c.name, .string c.dst, .string c.text] ∧ c.name.size ≤ 281474976710656 ∧ c.dst.size ≤ 281474976710656 ∧ c.text.size ≤ 281474976710656 := by
  obtain ⟨y0, y1, y2, y3, n, hx, hl, h0, h1, h2, h3⟩ := trodS4 Tryd.underlying23 h
  rw [cells23] at hl
  obtain ⟨c0, c1, c2, c3, hcs⟩ := array4 (cs := cs.toArray) (by simpa using hl)
  have hcs : cs = [c0, c1, c2, c3] := by simpa using congrArg Array.toList hcs
  subst hcs
  simp only [cells3, cells9, List.drop, List.take] at h0 h1 h2 h3
  obtain ⟨k, e0, f0, wk⟩ := DataW.trod_int Tryd.underlying3 h0
  obtain ⟨a, e1, f1, wa⟩ := DataW.trod_string Tryd.underlying9 h1
  obtain ⟨b, e2, f2, wb⟩ := DataW.trod_string Tryd.underlying9 h2
  obtain ⟨t, e3, f3, wt⟩ := DataW.trod_string Tryd.underlying9 h3
  simp at e0 e1 e2 e3
  rw [hx] at hw
  subst e0 e1 e2 e3 f0 f1 f2 f3
  simp only [DataW.weights, Tryd.underlying23, List.map, DataW.weightsEach, List.nil_append, List.append_nil, List.mem_append, List.mem_singleton] at hw
  exact ⟨⟨k, a, b, t⟩, rfl, reach48 (hw _ (by simp)), reach48 (hw _ (by simp)), reach48 (hw _ (by simp))⟩

end

end Go.Proofs.YtkbdaiopahmfiacDoor

namespace Go.Proofs.YtkbdaiopahmfiacDoor
open Go.ChangeShapes Go.WideShapes Go.ChangeAt Go.RowKit Go.Deep Go.Joins
set_option linter.unusedSimpArgs false
set_option linter.unusedVariables false

section
variable {H : Type} {enc : TypeId × Value → H} {w : World} {base : Nat} {spare : Nat → Bool} {held : Bool}

end

set_option maxRecDepth 100000 in
/-- A call by value. -/
theorem open_kcallv {H : Type} {enc : TypeId × Value → H} {w : World} {base base' : Nat} {held : Bool} {spare : Nat → Bool} {v : Value} {d : DataW H} {p : List MemPlace} (hv : Value.okWide Tryd.prog w .any base' 23 v) (h : ∃ fuel, DataW.trod enc Tryd.prog w base spare held fuel 23 v.cells.toList = some (d, p)) (hw : ∀ n ∈ d.weights Tryd.prog 23, n ≤ reachBytes) :
    ∃ x : ACall, v = .agg #[.int .i64 x.kind, .string x.name, .string x.dst, .string x.text] ∧ SmallC x := by
  obtain ⟨cells, rfl, hsz⟩ := okWide_struct Tryd.underlying23 hv
  obtain ⟨fuel, hf⟩ := h
  obtain ⟨r, hcs, hs⟩ := open_callW hf hw
  refine ⟨r, ?_, hs⟩
  have : cells.toList = [.int .i64 r.kind, .string r.name, .string r.dst, .string r.text] := hcs
  congr 1
  apply Array.ext'
  simpa using this

end Go.Proofs.YtkbdaiopahmfiacDoor

namespace Go.Proofs.YtkbdaiopahmfiacDoor
open Go.ChangeShapes Go.WideShapes Go.ChangeAt Go.RowKit Go.Deep Go.Joins
set_option linter.unusedSimpArgs false
set_option linter.unusedVariables false

section
variable {H : Type} {enc : TypeId × Value → H}
/-- The wrap that hands on the listed variables and the world's shape. -/
theorem lreturns {a : Assume} {C : Checked} {os : Os} {f : FuncId} {fn : Func} {s : ChangeSpec} {conds : List PathCond} {apart fresh handsOn again : Bool} {laid : List (String × DataW Unit)}
    (own : ownKnob C.prog.godebug = none) (started : os.Started) (noInit : C.prog.inits.idxOf? f = none) (hfn : C.prog.funcs[f]? = some fn)
    (witness : ∃ (w : World) (tape : Tape) (i : Input), w.os = os ∧ (w.forCall tape i).Shaped C.prog ∧ i.vars = [] ∧ Input.okWide C.prog (w.forCall tape i) .any w.heap.size f i ∧
      ((s.pre enc C.prog fn conds apart (w.forCall tape i).memory i.args ∧ laidMetH C.prog laid (w.forCall tape i).memory) ∧ sizedMet enc C.prog fn (OpenSpec.ofChange s) apart (w.forCall tape i).memory i.args) ∧ a.holds C.prog (lone (Frame.enter C.prog f i.args .normal) [] (w.forCall tape i)))
    (contract : ∀ (W : World) (base : Nat) (args : Array Value) (ds gs : List (DataW H)) (before : List MemPlace),
      (∀ (j : Nat) t v, fn.params[j]? = some t → args[j]? = some v → Value.okWide C.prog W .any base t v) →
      DataW.Whole enc C.prog fn.params.toList s.vars apart W args.toList ds gs before →
      (DataW.weightsEach C.prog (fn.params.toList ++ s.plain.varTypes C.prog) (ds ++ gs)).all (· ≤ reachBytes) = true → laidMetH C.prog laid W → W.ShapedOpen C.prog →
      Calls C.prog f args W fun e W' => ∃ v, e = .returned v ∧ s.post enc C.prog fn apart fresh handsOn again W args v W') :
    ReturnsInHanded a C os f .any (fun w args => (s.pre enc C.prog fn conds apart w args ∧ laidMetH C.prog laid w) ∧ sizedMet enc C.prog fn (OpenSpec.ofChange s) apart w args) (s.post enc C.prog fn apart fresh handsOn again) := by
  refine returnsInHanded_of_calls own started noInit witness ?_
  intro w tape i _ hsh _ hok hpre hholds
  obtain ⟨_, _, _, fn', hfn', _, _, _, _, hval⟩ := hok
  have e : fn' = fn := Option.some.inj (hfn'.symm.trans hfn)
  subst e
  obtain ⟨⟨⟨ds, gs, before, hw, hc⟩, hx⟩, hz⟩ := hpre
  have hw' := DataW.Whole.of_heap (w' := w.forCall tape i) (by rfl) hw
  refine (contract (w.forCall tape i) w.heap.size i.args ds gs before hval hw' (hz.weights hw) (hx.of_heap (by rfl)) hsh).mono fun e W' ⟨v, he, hp⟩ => ?_
  subst he
  exact ChangeSpec.post_blind hp
end

/-- A listed table of texts, cell by cell. -/
theorem texts_of_head {P : Program} {W : World} {name : String} {ls : List (List UInt8)} {rest : List (String × DataW Unit)} {g n : Nat} {t e : TypeId}
    (hg : P.globalNamed name = some g) (hty : (P.globals[g]?).map (·.type) = some t) (ht : P.underlying t = some (.array n e)) (he : P.underlying e = some .string) (hce : P.cellsOf e = 1)
    (h : laidMet P ((name, .agg (ls.map fun l => .lit (.string l))) :: rest) W) (i : Nat) (l : List UInt8) (hl : ls[i]? = some l) : W.cell? ⟨g, i, none⟩ = some (.string ⟨l.toArray⟩) := by
  obtain ⟨ps, ⟨g', t', cs, fuel, p, q, hg', ht', hv, hd, _, _⟩, _⟩ := h
  obtain rfl := Option.some.inj (hg.symm.trans hg')
  obtain rfl := Option.some.inj (hty.symm.trans ht')
  obtain ⟨xs, m, _, ex, _, hn, hel⟩ := DataW.trod_array ht hd
  have e3 : (xs.map (·.1)) = ls.map fun l => (DataW.lit (.string l) : DataW Unit) := (DataW.agg.inj (Prod.mk.inj ex).1).symm
  have hil : i < ls.length := (List.getElem?_eq_some_iff.1 hl).1
  have hlen : xs.length = ls.length := by have := congrArg List.length e3; simpa using this
  have hE := hel i (by omega)
  rw [hce, Nat.mul_one, List.getElem?_eq_getElem (by omega)] at hE
  obtain ⟨s, e1, e2, _⟩ := DataW.trod_string he hE
  have e4 : (xs.map (·.1))[i]? = (ls.map fun l => (DataW.lit (.string l) : DataW Unit))[i]? := by rw [e3]
  rw [List.getElem?_map, List.getElem?_map, List.getElem?_eq_getElem (by omega : i < xs.length), hl, e2] at e4
  have hs : s.data.toList = l := by simpa using e4
  rw [World.var?_cell hg hv i]
  have hc : cs.toList[i]? = some (.string s) := by
    have h0 : ((cs.toList.drop i).take 1)[0]? = some (.string s) := by rw [e1]; rfl
    simpa using h0
  have : cs[i]? = some (.string s) := by simpa using hc
  rw [this, ← hs]

abbrev laid6 : List (String × DataW Unit) := [("math/bits.deBruijn32tab", Rows.laid_math_bits_deBruijn32tab), ("math/bits.deBruijn64tab", Rows.laid_math_bits_deBruijn64tab), ("internal/strconv.uint64pow10", Rows.laid_internal_strconv_uint64pow10), ("unicode/utf8.acceptRanges", Rows.laid_unicode_utf8_acceptRanges), ("postilion/line.words", Rows.laid_postilion_line_words), ("unicode/utf8.first", Rows.laid_unicode_utf8_first)]
theorem LW_of {W : World} (h : laidMetH Tryd.prog laid6 W) (hsh : W.ShapedOpen Tryd.prog) : LW W := by
  rw [MakeChecks.laidMetH_plain _ _ _ (by kernel_rfl)] at h
  have h3 := (laidMet.tail (laidMet.tail h))
  have h5 := (laidMet.tail (laidMet.tail h3))
  have hw := texts_of_head (P := Tryd.prog) (name := "postilion/line.words") (ls := [[109, 97, 107, 101], [114, 101, 109, 111, 118, 101], [114, 101, 110, 97, 109, 101], [97, 112, 112, 101, 110, 100], [114, 101, 97, 100], [108, 105, 115, 116]]) (g := 0) (t := 45) (e := 9) (n := 6) (by kernel_rfl) (by kernel_rfl) Tryd.underlying45 Tryd.underlying9 (by kernel_rfl) h5
  refine ⟨⟨hw 0 _ rfl, hw 1 _ rfl, hw 2 _ rfl, hw 3 _ rfl, hw 4 _ rfl, hw 5 _ rfl⟩, Tryd.laysM147.s1_3 W hsh, ?_⟩
  exact Lib.tabIs_of_head (P := Tryd.prog) (k := .u64) (zs := Lib.pow10Tab) (g := 2) (by kernel_rfl) (by kernel_rfl) Tryd.underlying86 Tryd.underlying78 (by kernel_rfl) (by kernel_rfl) h3

section
variable {H : Type} {enc : TypeId × Value → H} {w : World} {base : Nat} {spare : Nat → Bool} {held : Bool}
set_option maxRecDepth 100000 in
/-- An answer by value. -/
theorem open_ansv {base' : Nat} {v : Value} {d : DataW H} {p : List MemPlace} (hv : Value.okWide Tryd.prog w .any base' 25 v) (h : ∃ fuel, DataW.trod enc Tryd.prog w base spare held fuel 25 v.cells.toList = some (d, p)) (hw : ∀ n ∈ d.weights Tryd.prog 25, n ≤ reachBytes) :
    ∃ (c : Int) (u : ByteArray), v = .agg #[.int .i64 c, .string u] ∧ (-9223372036854775808 ≤ c ∧ c ≤ 9223372036854775807) ∧ u.size ≤ 281474976710656 := by
  obtain ⟨cells, rfl, hsz⟩ := okWide_struct Tryd.underlying25 hv
  obtain ⟨fuel, hf⟩ := h
  obtain ⟨y0, y1, n, hx, hl, h0, h1⟩ := trodS2 Tryd.underlying25 hf
  have hcl : Tryd.prog.cellsOf 25 = 2 := by kernel_rfl
  rw [hcl] at hl
  have hl2 : cells.size = 2 := by simpa [Value.cells] using hl
  obtain ⟨c0, c1, hcs⟩ : ∃ c0 c1, cells = #[c0, c1] := by
    obtain ⟨l⟩ := cells
    match l, hl2 with
    | [c0, c1], _ => exact ⟨c0, c1, rfl⟩
  subst hcs
  simp only [Value.cells, cells3, cells9, List.drop, List.take] at h0 h1
  obtain ⟨k, e0, f0, wk⟩ := DataW.trod_int Tryd.underlying3 h0
  obtain ⟨a, e1, f1, wa⟩ := DataW.trod_string Tryd.underlying9 h1
  simp at e0 e1
  dsimp only at hx
  rw [hx] at hw
  subst e0 e1 f0 f1
  simp only [DataW.weights, Tryd.underlying25, List.map, DataW.weightsEach, List.nil_append, List.append_nil, List.mem_append, List.mem_singleton] at hw
  refine ⟨k, a, rfl, ?_, reach48 (hw _ (by simp))⟩
  have := wk
  simp [Lit.wf, IntKind.wrap_i64] at this
  rw [show IntKind.i64.min = -9223372036854775808 from rfl] at this
  exact this
end

end Go.Proofs.YtkbdaiopahmfiacDoor
