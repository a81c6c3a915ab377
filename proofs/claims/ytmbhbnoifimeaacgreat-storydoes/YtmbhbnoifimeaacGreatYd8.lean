/- Texts joined, what is needed of them: Ye Km. -/
import Derived.Test.YtmbhbnoifimeaacGreatYd7
namespace Go.Proofs.YtmbhbnoifimeaacGreat
open Go.RowKit
set_option linter.unusedSimpArgs false
set_option linter.unusedVariables false

set_option maxRecDepth 100000 in
set_option maxHeartbeats 4000000 in
theorem TextOf_any (a : Option Addr) (n cap : Nat) (L : List ARec) (w : World) (hL : RecsAt w a n L) (hs : Good L) (hn : n ≤ 1000000) :
    Calls Tryz.prog 14 #[.slice a n cap] w fun e w' => e = .returned (.string ⟨(textL (behind L)).toArray⟩) ∧ Below w.heap.size w w' := by
  have HI := hide (behind_inv L)
  have HBH := hide (Behind_any a n cap L w hL hs.small hn)
  generalize behind L = st at HI HBH ⊢
  obtain ⟨res, HRES⟩ : ∃ res : ByteArray, Hid (res = ⟨(textL st).toArray⟩) := ⟨_, rfl⟩
  rw [← unhide HRES]
  clear hL hs hn
  go_enter Tryz.func14, Tryz.ntmps14
  go_wp2_with fail
  refine (unhide HBH).mono ?_
  rintro e w1 ⟨D, v, rfl, hd, b1⟩
  obtain ⟨da, dc, rfl⟩ := hd.form2
  have hnm := dNames_any da dc st w1 (unhide HI).few (fun j f hf => hd.names j f hf)
  have hns := sNames_len st
  have hcD := hd.cell0
  have HD := hide hd
  obtain ⟨m, hm⟩ : ∃ m, st.length = m := ⟨_, rfl⟩
  rw [hm] at hnm hcD hns
  have HNM := hide hnm
  have HB1 := hide b1
  clear hd b1 HBH hnm
  go_wp2_with fail
  refine (unhide HNM).mono ?_
  rintro e w2 ⟨na, nc, rfl, hn2, b2⟩
  have HB2 := hide b2
  have HO := hide (ownsRow_base hn2 (Nat.zero_le _))
  have hm6 : m ≤ 6 := by have := (unhide HI).few; omega
  have HNS := hide hns
  have HM := hide hm
  have HD2 := hide ((unhide HD).below b2)
  clear hn2 b2 hns hm HNM hcD HD
  go_wp2_with fail
  go_loopw [6, 4] (fun i sv wr => ∃ (q : Nat) (s : ByteArray), q ≤ m ∧ i = .int .i64 (q : Int) ∧ sv = .string s ∧ Hid (s = ⟨(linesB st ((sNames st).take q)).toArray⟩) ∧ Hid (Below w2.heap.size w2 wr)) (fun i _ _ => m - (intOf i).toNat)
  case atStart => exact ⟨0, _, Nat.zero_le _, rfl, rfl, rfl, Below.refl _ _⟩
  case round =>
    obtain ⟨q, s, hq, rfl, rfl, HS, HB⟩ := hrel
    by_cases hlt : (q : Int) < (m : Int)
    · obtain ⟨x, hx⟩ : ∃ x, (sNames st)[q]? = some x := ⟨_, List.getElem?_eq_getElem (by rw [unhide HNS]; omega)⟩
      have hxm : x ∈ sNames st := List.mem_of_getElem? hx
      obtain ⟨g, rfl, cx⟩ := text_cell (unhide HO) q x hx
      have hxs : x.size ≤ 5 := (nameB_size (ySN_named (unhide HI) hxm)).2
      have hfs := fIdx_spec x st (sNames_found hxm)
      obtain ⟨f, hf⟩ : ∃ f, st[fIdx x st]? = some f := ⟨_, List.getElem?_eq_getElem hfs.1⟩
      have hft : (fileAt st (fIdx x st)) = f := by have := fileAt_get hfs.1; rw [hf] at this; exact (Option.some.inj this).symm
      have HDr := hide ((unhide HD2).below (unhide HB))
      rw [show st.length = m from unhide HM] at HDr
      obtain ⟨dg, rfl, k1, k2⟩ := (unhide HDr).file (fIdx x st) f hf
      have hc1 := (unhide HDr).cell0
      have hc2 : wr.cell? ⟨g, q, none⟩ = some (.string x) := ((unhide HB).cell (p := ⟨g, q, none⟩) (World.block_lt_of_cell? _ _ cx)).trans cx
      have hc3 := k2.1
      have HAT : Hid (∀ W, Below w2.heap.size w2 W → Calls Tryz.prog 34 #[.slice (some ⟨dg, 0, none⟩) m dc, .string x] W fun e w' => e = .returned (.int .i64 (fIdx x st : Int)) ∧ w' = W) := fun W hW => by
        have hd := (unhide HD2).below hW
        have := at_any x (some ⟨dg, 0, none⟩) dc st W (by have := (unhide HI).few; omega) (fun j f hf => hd.names j f hf)
        rw [hfs.2, show st.length = m from unhide HM] at this
        exact this
      have hss : s.size ≤ 138 := by
        have := linesB_take (unhide HI) q
        rw [show s = _ from unhide HS]
        show (linesB st ((sNames st).take q)).toArray.size ≤ 138
        simpa using this
      have hts : f.text.size ≤ 16 := (unhide HI).short f (List.mem_of_getElem? hf)
      obtain ⟨s2, hs2⟩ : ∃ s2, s2 = s ++ (((x ++ ⟨#[61]⟩) ++ f.text) ++ ⟨#[10]⟩) := ⟨_, rfl⟩
      have HSS2 : Hid (s2 = ⟨(linesB st ((sNames st).take (q + 1))).toArray⟩) := by
        have htk : (sNames st).take (q + 1) = (sNames st).take q ++ [x] := by rw [List.take_add_one, hx]; rfl
        show s2 = _
        rw [htk, linesB_snoc, hs2, show s = _ from unhide HS, str_line]
        unfold lineB
        rw [hft]
      have HS2 := hs2.symm
      have hj : (fIdx x st : Int) < (m : Int) := by have := hfs.1; have := unhide HM; omega
      have hqi : (0 : Int) ≤ (q : Int) := by omega
      generalize f.text = tx at hc3 hts HS2
      generalize fIdx x st = j at hc3 HAT hj
      have hji : (0 : Int) ≤ (j : Int) := by omega
      have n1 : ¬ (9223372036854775807 < x.size + 1) := by omega
      have n2 : ¬ (9223372036854775807 < x.size + 1 + tx.size) := by omega
      have n3 : ¬ (9223372036854775807 < x.size + 1 + tx.size + 1) := by omega
      have n4 : ¬ (9223372036854775807 < s.size + (x.size + 1 + tx.size + 1)) := by omega
      clear hx hxm cx hfs hf hft k1 k2 hs2 HDr
      go_wp2_with fail
      refine wp_region_held_drew (S := (fun wx => Below w2.heap.size w2 wx ∧ wx.cell? ⟨D, 0, none⟩ = some (.slice (some ⟨dg, 0, none⟩) m dc) ∧ wx.cell? ⟨g, q, none⟩ = some (.string x) ∧ wx.cell? ⟨dg, j * 2 + 1, none⟩ = some (.string tx))) (by kernel_rfl) (⟨(unhide HB).drew, hc1, hc2, hc3⟩) (fun hHeld => ?_)
      refine wpAnyH_take (i := 0) (v := ?_) opn0 (by kernel_rfl) (by kernel_rfl) (by kernel_rfl) (fun _ _ _ h => h) (Or.inl ⟨by kernel_rfl, ?_⟩) (by assumption) ?_
      rotate_left 1
      · intro wz hSw
        try dsimp only at hSw
        go_simp
        all_goals with_reducible rfl
      try simp only [Act.put, List.setIfInBounds_toArray, List.set_cons_zero, List.set_cons_succ]
      refine wpAnyH_take (i := 1) (v := ?_) opn1 (by kernel_rfl) (by kernel_rfl) (by kernel_rfl) (fun _ _ _ h => h) (Or.inl ⟨by kernel_rfl, ?_⟩) (by assumption) ?_
      rotate_left 1
      · intro wz hSw
        try dsimp only at hSw
        go_simp
        all_goals with_reducible rfl
      try simp only [Act.put, List.setIfInBounds_toArray, List.set_cons_zero, List.set_cons_succ]
      refine wpAnyH_take (i := 2) (v := ?_) opn2 (by kernel_rfl) (by kernel_rfl) (by kernel_rfl) (fun _ _ _ h => h) (Or.inl ⟨by kernel_rfl, ?_⟩) (by assumption) ?_
      rotate_left 1
      · intro wz hSw
        try dsimp only at hSw
        go_simp
        all_goals with_reducible rfl
      try simp only [Act.put, List.setIfInBounds_toArray, List.set_cons_zero, List.set_cons_succ]
      refine wpAnyH_take (i := 3) (v := ?_) opn3 (by kernel_rfl) (by kernel_rfl) (by kernel_rfl) (fun _ _ _ h => h) (Or.inl ⟨by kernel_rfl, ?_⟩) (by assumption) ?_
      rotate_left 1
      · intro wz hSw
        try dsimp only at hSw
        go_simp
        all_goals with_reducible rfl
      try simp only [Act.put, List.setIfInBounds_toArray, List.set_cons_zero, List.set_cons_succ]
      refine wpAnyH_take (i := 4) (v := ?_) opn4 (by kernel_rfl) (by kernel_rfl) (by kernel_rfl) (fun _ _ _ h => h) (Or.inl ⟨by kernel_rfl, ?_⟩) (by assumption) ?_
      rotate_left 1
      · intro wz hSw
        try dsimp only at hSw
        have hq := hSw.2.2.1
        go_simp
        all_goals with_reducible rfl
      try simp only [Act.put, List.setIfInBounds_toArray, List.set_cons_zero, List.set_cons_succ]
      refine wpAnyH_take (i := 5) (v := ?_) opn5 (by kernel_rfl) (by kernel_rfl) (by kernel_rfl) (fun _ _ _ h => h) (Or.inl ⟨by kernel_rfl, ?_⟩) (by assumption) ?_
      rotate_left 1
      · intro wz hSw
        try dsimp only at hSw
        go_simp
        all_goals with_reducible rfl
      try simp only [Act.put, List.setIfInBounds_toArray, List.set_cons_zero, List.set_cons_succ]
      refine wpAnyH_take (i := 6) (v := ?_) opn6 (by kernel_rfl) (by kernel_rfl) (by kernel_rfl) (fun _ _ _ h => h) (Or.inl ⟨by kernel_rfl, ?_⟩) (by assumption) ?_
      rotate_left 1
      · intro wz hSw
        try dsimp only at hSw
        go_simp
        all_goals with_reducible rfl
      try simp only [Act.put, List.setIfInBounds_toArray, List.set_cons_zero, List.set_cons_succ]
      refine wpAnyH_take (i := 7) (v := ?_) opn7 (by kernel_rfl) (by kernel_rfl) (by kernel_rfl) (fun _ _ _ h => h) (Or.inl ⟨by kernel_rfl, ?_⟩) (by assumption) ?_
      rotate_left 1
      · intro wz hSw
        try dsimp only at hSw
        go_simp
        all_goals with_reducible rfl
      try simp only [Act.put, List.setIfInBounds_toArray, List.set_cons_zero, List.set_cons_succ]
      refine wpAnyH_take (i := 8) (v := ?_) opn8 (by kernel_rfl) (by kernel_rfl) (by kernel_rfl) (fun _ _ _ h => h) (Or.inl ⟨by kernel_rfl, ?_⟩) (by assumption) ?_
      rotate_left 1
      · intro wz hSw
        try dsimp only at hSw
        have hq := hSw.2.1
        go_simp
        all_goals with_reducible rfl
      try simp only [Act.put, List.setIfInBounds_toArray, List.set_cons_zero, List.set_cons_succ]
      refine wpAnyH_take (i := 9) (v := ?_) opn9 (by kernel_rfl) (by kernel_rfl) (by kernel_rfl) (fun _ _ _ h => h) (Or.inl ⟨by kernel_rfl, ?_⟩) (by assumption) ?_
      rotate_left 1
      · intro wz hSw
        try dsimp only at hSw
        go_simp
        all_goals with_reducible rfl
      try simp only [Act.put, List.setIfInBounds_toArray, List.set_cons_zero, List.set_cons_succ]
      refine wpAnyH_take (i := 10) (v := ?_) opn10 (by kernel_rfl) (by kernel_rfl) (by kernel_rfl) (fun _ _ _ h => h) (Or.inl ⟨by kernel_rfl, ?_⟩) (by assumption) ?_
      rotate_left 1
      · intro wz hSw
        try dsimp only at hSw
        go_simp
        all_goals with_reducible rfl
      try simp only [Act.put, List.setIfInBounds_toArray, List.set_cons_zero, List.set_cons_succ]
      refine wpAnyH_take (i := 11) (v := ?_) opn11 (by kernel_rfl) (by kernel_rfl) (by kernel_rfl) (fun _ _ _ h => h) (Or.inl ⟨by kernel_rfl, ?_⟩) (by assumption) ?_
      rotate_left 1
      · intro wz hSw
        try dsimp only at hSw
        have hq := hSw.2.1
        go_simp
        all_goals with_reducible rfl
      try simp only [Act.put, List.setIfInBounds_toArray, List.set_cons_zero, List.set_cons_succ]
      refine wpAnyH_take (i := 12) (v := ?_) opn12 (by kernel_rfl) (by kernel_rfl) (by kernel_rfl) (fun _ _ _ h => h) (Or.inl ⟨by kernel_rfl, ?_⟩) (by assumption) ?_
      rotate_left 1
      · intro wz hSw
        try dsimp only at hSw
        go_simp
        all_goals with_reducible rfl
      try simp only [Act.put, List.setIfInBounds_toArray, List.set_cons_zero, List.set_cons_succ]
      refine wpAnyH_take (i := 13) (v := ?_) opn13 (by kernel_rfl) (by kernel_rfl) (by kernel_rfl) (fun _ _ _ h => h) (Or.inl ⟨by kernel_rfl, ?_⟩) (by assumption) ?_
      rotate_left 1
      · intro wz hSw
        try dsimp only at hSw
        go_simp
        all_goals with_reducible rfl
      try simp only [Act.put, List.setIfInBounds_toArray, List.set_cons_zero, List.set_cons_succ]
      refine wpAnyH_take (i := 14) (v := ?_) opn14 (by kernel_rfl) (by kernel_rfl) (by kernel_rfl) (fun _ _ _ h => h) (Or.inl ⟨by kernel_rfl, ?_⟩) (by assumption) ?_
      rotate_left 1
      · intro wz hSw
        try dsimp only at hSw
        go_simp
        all_goals with_reducible rfl
      try simp only [Act.put, List.setIfInBounds_toArray, List.set_cons_zero, List.set_cons_succ]
      refine wpAnyH_take (i := 15) (v := ?_) opn15 (by kernel_rfl) (by kernel_rfl) (by kernel_rfl) (fun _ _ _ h => h) (Or.inl ⟨by kernel_rfl, ?_⟩) (by assumption) ?_
      rotate_left 1
      · intro wz hSw
        try dsimp only at hSw
        have hq := hSw.2.2.1
        go_simp
        all_goals with_reducible rfl
      try simp only [Act.put, List.setIfInBounds_toArray, List.set_cons_zero, List.set_cons_succ]
      refine wpAnyH_ready (rs := [16]) (by kernel_rfl) (by simp) ?_
      refine AllReadyH.cons opn16 (fun K hK => ?_) AllReadyH.nil
      rw [if_pos (by kernel_rfl)]
      go_simp
      refine ((unhide HAT) _ hHeld.1).mono ?_
      rintro e w7 ⟨rfl, rfl⟩
      refine hK.out _ _ hHeld (fun hHeldN => ?_)
      clear hHeld hK K
      have hHeld := hHeldN
      clear hHeldN
      try simp only [Act.put, List.setIfInBounds_toArray, List.set_cons_zero, List.set_cons_succ]
      refine wpAnyH_take (i := 17) (v := ?_) opn17 (by kernel_rfl) (by kernel_rfl) (by kernel_rfl) (fun _ _ _ h => h) (Or.inl ⟨by kernel_rfl, ?_⟩) (by assumption) ?_
      rotate_left 1
      · intro wz hSw
        try dsimp only at hSw
        go_simp
        all_goals with_reducible rfl
      try simp only [Act.put, List.setIfInBounds_toArray, List.set_cons_zero, List.set_cons_succ]
      refine wpAnyH_take (i := 18) (v := ?_) opn18 (by kernel_rfl) (by kernel_rfl) (by kernel_rfl) (fun _ _ _ h => h) (Or.inl ⟨by kernel_rfl, ?_⟩) (by assumption) ?_
      rotate_left 1
      · intro wz hSw
        try dsimp only at hSw
        go_simp
        all_goals with_reducible rfl
      try simp only [Act.put, List.setIfInBounds_toArray, List.set_cons_zero, List.set_cons_succ]
      refine wpAnyH_take (i := 19) (v := ?_) opn19 (by kernel_rfl) (by kernel_rfl) (by kernel_rfl) (fun _ _ _ h => h) (Or.inl ⟨by kernel_rfl, ?_⟩) (by assumption) ?_
      rotate_left 1
      · intro wz hSw
        try dsimp only at hSw
        have hq := hSw.2.2.2
        go_simp
        all_goals with_reducible rfl
      try simp only [Act.put, List.setIfInBounds_toArray, List.set_cons_zero, List.set_cons_succ]
      refine wpAnyH_take (i := 20) (v := ?_) opn20 (by kernel_rfl) (by kernel_rfl) (by kernel_rfl) (fun _ _ _ h => h) (Or.inl ⟨by kernel_rfl, ?_⟩) (by assumption) ?_
      rotate_left 1
      · intro wz hSw
        try dsimp only at hSw
        go_simp
        all_goals with_reducible rfl
      try simp only [Act.put, List.setIfInBounds_toArray, List.set_cons_zero, List.set_cons_succ]
      refine wpAnyH_take (i := 21) (v := ?_) opn21 (by kernel_rfl) (by kernel_rfl) (by kernel_rfl) (fun _ _ _ h => h) (Or.inl ⟨by kernel_rfl, ?_⟩) (by assumption) ?_
      rotate_left 1
      · intro wz hSw
        try dsimp only at hSw
        go_simp
        all_goals with_reducible rfl
      try simp only [Act.put, List.setIfInBounds_toArray, List.set_cons_zero, List.set_cons_succ]
      refine wpAnyH_take (i := 22) (v := ?_) opn22 (by kernel_rfl) (by kernel_rfl) (by kernel_rfl) (fun _ _ _ h => h) (Or.inl ⟨by kernel_rfl, ?_⟩) (by assumption) ?_
      rotate_left 1
      · intro wz hSw
        try dsimp only at hSw
        go_simp
        all_goals with_reducible rfl
      try simp only [Act.put, List.setIfInBounds_toArray, List.set_cons_zero, List.set_cons_succ]
      refine wpAnyH_take (i := 23) (v := ?_) opn23 (by kernel_rfl) (by kernel_rfl) (by kernel_rfl) (fun _ _ _ h => h) (Or.inl ⟨by kernel_rfl, ?_⟩) (by assumption) ?_
      rotate_left 1
      · intro wz hSw
        try dsimp only at hSw
        go_simp
        all_goals with_reducible rfl
      try simp only [Act.put, List.setIfInBounds_toArray, List.set_cons_zero, List.set_cons_succ]
      refine wpAnyH_done (by kernel_rfl) ?_ _
      have HB3 := hide hHeld.1
      clear hHeld
      go_wp2
      go_roundw
      case rel => exact ⟨q + 1, s2, by omega, by go_num, rfl, unhide HSS2, unhide HB3⟩
      case measure => simp [intOf]; omega
    · obtain rfl : q = m := by omega
      have hfull : (sNames st).take q = sNames st := List.take_of_length_le (by rw [unhide HNS]; omega)
      rw [hfull] at HS
      have hres : s = res := by rw [show s = _ from unhide HS, show res = _ from unhide HRES]; rfl
      clear hfull HS
      subst hres
      have HBE := hide ((unhide HB1).trans (((unhide HB2).trans ((unhide HB).mono (unhide HB2).size)).mono (unhide HB1).size))
      go_wp2
      go_ret
      exact ⟨rfl, unhide HBE⟩

end Go.Proofs.YtmbhbnoifimeaacGreat

namespace Go.Proofs.YtmbhbnoifimeaacGreat
open Go.RowKit
set_option linter.unusedSimpArgs false
set_option linter.unusedVariables false

theorem greatCall_fix (c : ACall) : ∃ r : Bool, ∀ w : World, Calls Tryz.prog 7 #[.agg #[.int .i64 c.kind, .string c.name, .string c.dst, .string c.text]] w fun e w' => e = .returned (.bool r) ∧ Below w.heap.size w w' := by
  obtain ⟨k, a, b, t⟩ := c
  refine ⟨decide ((300 : Int) < wrap64 (wrap64 ((a.size : Int) + (b.size : Int)) + (t.size : Int))), fun w => ?_⟩
  dsimp only
  go_enter Tryz.func7, Tryz.ntmps7
  go_wp2
  go_ret
  exact ⟨rfl, (Below.refl _ _).alloc (Nat.le_refl _) _⟩

end Go.Proofs.YtmbhbnoifimeaacGreat
