/- List; Double, of both. -/
import Derived.Test.YtlndphpidkacgabPd
import Derived.Deep.LoopGhost
namespace Go.Proofs.Ytlndphpidkacgab
open Go.RowKit
set_option linter.unusedSimpArgs false
set_option linter.unusedVariables false

theorem ptake_snoc (ms : List APkt) (k : Nat) (m : APkt) (h : ms[k]? = some m) : (ms.take (k + 1)).flatMap pcells = (ms.take k).flatMap pcells ++ pcells m := by
  rw [List.take_add_one, h]
  simp

set_option maxRecDepth 100000 in
set_option maxHeartbeats 4000000 in
theorem List_P {N : Nat} {w : World} {P : Nat} {v : Value} {ms : List APkt} (h : PRep 47 N w P v ms) {n : Nat} (hn : ms.length = n) :
    Calls Try.prog 16 #[.pointer (some ⟨P, 0, none⟩)] w fun e w' => ∃ g cap, e = .returned (.slice (some ⟨g, 0, none⟩) n cap) ∧ w'.ownsRow w.heap.size 33 9 (.slice (some ⟨g, 0, none⟩) n cap) n (ms.flatMap pcells) ∧ Below w.heap.size w w' := by
  obtain ⟨i0, hi0, hz0, hz1, hz2⟩ := info_parts infoPP
  have hlen : n ≤ 40 := by rw [← hn]; exact h.few
  have hB : P < w.heap.size := h.lt
  have hc := h.can.1
  obtain ⟨a, cap, rfl⟩ := h.form
  rw [hn] at hc
  have HP := hide (pkts_row h.row rfl)
  rw [hn] at HP
  have HSM := hide h.small
  have HN := hide hn
  clear h hn
  go_enter Try.func16, Try.ntmps16
  go_wp2_with (refine wpList_make_own _ rfl _ _ 26 rfl w.heap.size 33 i0 _ 9 Try.underlying26 hi0 hz0 hz1 .i64 .i64 (n : Int) n rfl rfl rfl (by rw [hz2]; omega) (by unfold maxLen; omega) (Nat.le_refl _) ?_)
  intro w0 hown0 hgr0
  have b0 : Below w.heap.size w w0 := (Below.refl _ _).grown hgr0 (Nat.le_refl _) (by simp)
  have hc0 := (b0.cell (p := ⟨P, 0, none⟩) hB).trans hc
  have HO0 := hide hown0
  have HB0 := hide b0
  clear hc hown0 b0 hgr0
  go_wp2
  go_loopw [3, 5, 17] (fun nv _ i wr => ∃ k : Nat, k ≤ n ∧ i = .int .i64 k ∧ Hid (Below w.heap.size w wr) ∧ Hid (∃ g c, nv = .slice (some ⟨g, 0, none⟩) k c) ∧ Hid (wr.ownsRow w.heap.size 33 9 nv k ((ms.take k).flatMap pcells))) (fun _ _ i _ => n - (intOf i).toNat)
  case atStart => exact ⟨0, Nat.zero_le _, rfl, unhide HB0, ⟨_, _, rfl⟩, (by simpa using unhide HO0 : w0.ownsRow w.heap.size 33 9 (Value.slice (some ⟨w.heap.size, 0, none⟩) 0 n) 0 ((ms.take 0).flatMap pcells))⟩
  case round =>
    obtain ⟨k, hk, rfl, HB, ⟨g1, c1, rfl⟩, HO⟩ := hrel
    by_cases hlt : (k : Int) < (n : Int)
    · obtain ⟨x, hx⟩ : ∃ x, ms[k]? = some x := ⟨_, List.getElem?_eq_getElem (by rw [unhide HN]; omega)⟩
      obtain ⟨g, rfl, hc⟩ := ((unhide HP).below (unhide HB)).2 (by omega)
      obtain ⟨x0, x1, x2, x3, x4, x5, x6, x7, x8⟩ := hc k x hx
      have hgz : g < wr.heap.size := (hc k x hx).lt
      have HX := hide hx
      have hwz := (unhide HB).size
      have HCL := hide (fun W => clone_P x W ((unhide HSM) x (List.mem_of_getElem? hx)))
      clear hx hc
      have HL : Hid (∀ (wx : World) (o : Obj), Below (wr.heap.size + 1) (wr.alloc o) wx → wx.ownsRow w.heap.size 33 9 (.slice (some ⟨g1, 0, none⟩) k c1) k ((ms.take k).flatMap pcells)) := fun wx o hb =>
        ownsRow_same ((unhide HO).alloc o) (fun j hj => hb.block j (by have := (((unhide HO).alloc o).lt j hj).2; simpa using this))
      obtain ⟨y, c, nn, ⟨kk, s1, s2, s3⟩, d, u⟩ := x
      dsimp only [APkt.val] at *
      go_wp2_with (first
        | (at_builtin; refine wpList_append_lies _ rfl _ _ 26 rfl w.heap.size 33 i0 _ 9 104 Try.underlying26 hi0 hz0 hz1 hz2 rfl (by omega) (.slice (some ⟨g1, 0, none⟩) k c1) k ((ms.take k).flatMap pcells) rfl ((HL.out w1 _ b1').alloc _)
            ⟨w1.heap.size, 0, none⟩ 1 1 [.bool y, .int .i64 c, .int .i64 nn, .int .i64 kk, .string s1, .string s2, .string s3, .int .i64 d, .string u] rfl rfl (World.news_of_block (cs := #[.bool y, .int .i64 c, .int .i64 nn, .int .i64 kk, .string s1, .string s2, .string s3, .int .i64 d, .string u]) (t := 33) (fr := (0, 0)) (heap_alloc_new w1 _)) (by simp [Value.oneCell'])
            (by omega) (by unfold maxLen; omega) (by omega) (by have := b1.size; simp at this ⊢; omega) (w1.heap.size + 1) (by simp) ?_; intro g2 c2 w2 hown2 hgrow hat hlt2)
        | (go_at_call 18; refine ((unhide HCL) _).mono ?_; rintro e w1 ⟨rfl, b1⟩; have b1' := b1; rw [al_size] at b1'))
      go_roundw
      case rel =>
        have hb1 : Below w.heap.size w w1 := (((unhide HB).alloc hwz _).trans (b1.mono (by simp; omega)))
        have hz1 : w.heap.size ≤ w1.heap.size := hb1.size
        refine ⟨k + 1, by omega, by go_num, ?_, ⟨_, _, rfl⟩, ?_⟩
        · refine (hb1.alloc hz1 _).grown hgrow (by simp; omega) ?_
          intro j hj
          exact ((unhide HO).lt j hj).1
        · show w2.ownsRow _ _ _ _ _ _
          rw [ptake_snoc ms k _ (unhide HX)]
          exact hown2
      case measure => simp [intOf]; omega
    · obtain rfl : k = n := by omega
      have hown := unhide HO
      rw [List.take_of_length_le (by rw [unhide HN]; omega)] at hown
      have HO' := hide hown
      clear hown
      go_wp2
      go_ret
      exact ⟨g1, c1, rfl, unhide HO', unhide HB⟩

set_option maxRecDepth 100000 in
set_option maxHeartbeats 4000000 in
theorem Double_Pnot {N : Nat} {w : World} {P : Nat} {v : Value} {ms : List APkt} (h : PRep 47 N w P v ms) (n : Int) (hl : ms.length = 0 ∨ 40 ≤ ms.length) :
    Calls Try.prog 12 #[.pointer (some ⟨P, 0, none⟩), .int .i64 n] w fun e w' => e = .returned (.bool false) ∧ w' = w := by
  obtain ⟨k, hk⟩ : ∃ k, ms.length = k := ⟨_, rfl⟩
  have HFU := hide (full_P h hk)
  have hc := h.can.1
  obtain ⟨a, cap, rfl⟩ := h.form
  rw [hk] at hc hl
  clear h hk
  by_cases h0 : k = 0
  · subst h0
    go_enter Try.func12, Try.ntmps12
    go_wp2
    go_ret
    exact ⟨rfl, rfl⟩
  · rw [show decide (40 ≤ k) = true by simp; omega] at HFU
    have h0i : ((k : Int) == 0) = false := by simp; omega
    go_enter Try.func12, Try.ntmps12
    go_wp2_with fail
    refine (unhide HFU).mono ?_
    rintro e w0 ⟨rfl, hw0⟩
    obtain rfl := hw0.symm
    clear hw0
    go_wp2
    go_ret
    exact ⟨rfl, rfl⟩

set_option maxRecDepth 100000 in
set_option maxHeartbeats 8000000 in
theorem Double_P {N : Nat} {w : World} {P : Nat} {v : Value} {ms : List APkt} (h : PRep 47 N w P v ms) (n : Int) (h0 : 0 < ms.length) (hl : ms.length < 40) {m : APkt} (hm : ms[rnd n ms.length]? = some m) :
    Calls Try.prog 12 #[.pointer (some ⟨P, 0, none⟩), .int .i64 n] w fun e w' => e = .returned (.bool true) ∧ PTurn 47 N w P v w' (ms ++ [m]) := by
  obtain ⟨i0, hi0, hz0, hz1, hz2⟩ := info_parts infoPP
  obtain ⟨k, hk⟩ : ∃ k, ms.length = k := ⟨_, rfl⟩
  have HK := hide hk
  have HFU := hide (full_P h hk)
  rw [hk] at h0 hl hm
  rw [show decide (40 ≤ k) = false by simp; omega] at HFU
  obtain ⟨r, hr⟩ : ∃ r, rnd n k = r := ⟨_, rfl⟩
  have hrk := rnd_lt n h0
  have HRD := hide (round_P (h.below (below_drew w)) n hk h0)
  rw [hr] at hm hrk
  rw [hr] at HRD
  have hri : (r : Int) < (k : Int) := by omega
  have hr0 : (0 : Int) ≤ (r : Int) := by omega
  obtain ⟨a, cap, rfl⟩ := h.form
  have nB := h.nd
  have HR := hide h
  have HSM := hide (h.small m (List.mem_of_getElem? hm))
  have HN : Hid (N ≤ w.heap.size) := Nat.le_trans h.new (Nat.le_of_lt h.lt)
  obtain ⟨g0, hg0, hc⟩ := (pkts_row h.row rfl).2 (by omega)
  have hat0 := hc r m hm
  cases hg0
  rw [hk] at HR nB
  have h0i : ((k : Int) == 0) = false := by simp; omega
  obtain ⟨x0, x1, x2, x3, x4, x5, x6, x7, x8⟩ := hat0
  have hc1 := (unhide HR).can.1
  have hf1 := (unhide HR).can.2
  have hPw : P < w.heap.size := (unhide HR).lt
  have HM : Hid (∃ M, M = m) := ⟨m, rfl⟩
  clear h hc hm hk hr
  obtain ⟨y, c, nn, ⟨kk, s1, s2, s3⟩, d, u⟩ := m
  dsimp only [APkt.val] at *
  go_enter Try.func12, Try.ntmps12
  go_wp2_with fail
  refine (unhide HFU).mono ?_
  rintro e w0 ⟨rfl, hw0⟩
  obtain rfl := hw0.symm
  clear hw0
  go_wp2_with fail
  have HO : Hid (∀ wx, Below w.heap.size w wx → wx.ownsRow N 33 9 (.slice (some ⟨g0, 0, none⟩) k cap) k (ms.flatMap pcells)) := fun wx hb => by have := ((unhide HR).below (w' := wx) hb).row; rw [unhide HK] at this; exact this
  have HF : Hid (∀ wx, Below w.heap.size w wx → Can wx P 0 (.slice (some ⟨g0, 0, none⟩) k cap)) := fun wx hb => Can.below (w := w) ⟨hc1, hf1⟩ hb hPw
  go_region_law (first
      | (go_simp; go_at_call 19; refine (unhide HRD).mono ?_; rintro e w1 ⟨rfl, hw1⟩; obtain rfl := hw1.symm; clear hw1)
      | (refine step_append_lies _ (by rfl) _ _ _ (by rfl) N 33 i0 _ 9 104 Try.underlying26 hi0 hz0 hz1 hz2 rfl (by omega) (.slice (some ⟨g0, 0, none⟩) k cap) k (ms.flatMap pcells) (by rfl) (HO.out _ (below_alloc_drew w _))
          ⟨w.heap.size, 0, none⟩ 1 1 [.bool y, .int .i64 c, .int .i64 nn, .int .i64 kk, .string s1, .string s2, .string s3, .int .i64 d, .string u] (by rfl) (by rfl) (World.news_of_block (cs := #[.bool y, .int .i64 c, .int .i64 nn, .int .i64 kk, .string s1, .string s2, .string s3, .int .i64 d, .string u]) (t := 33) (fr := (0, 0)) (alloc_drew_new w _)) (by simp [Value.oneCell'])
          (by omega) (by unfold maxLen; omega) (by omega) (by have h4 := unhide HN; simp; omega) (w.heap.size + 1) (by simp) ?_; intro g cap' w2 hown2 hgrow hat hlt; have hc2 := (HF.out _ (below_alloc_drew w _)).grown hgrow nB; have hc3 := hc2.1; have hf3 := hc2.2))
  all_goals
    have hbw : Below w.heap.size w (w.alloc (Obj.cells #[.bool y, .int .i64 c, .int .i64 nn, .int .i64 kk, .string s1, .string s2, .string s3, .int .i64 d, .string u] 33)).drew := below_alloc_drew w _
    have hT := ((unhide HR).below hbw).push hgrow (by rw [unhide HK]) (by rw [unhide HK]; exact hl) (unhide HSM) hown2 (by simpa using hat)
    have HT := hide (hT.before hbw)
    clear hT hbw hown2 hgrow hat hlt hc2 hc3 hf3
    go_wp2
    go_ret
    exact ⟨rfl, by rw [unhide HK]; exact unhide HT⟩

end Go.Proofs.Ytlndphpidkacgab
