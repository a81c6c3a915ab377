/- FilesDoes: the walk. -/
import Derived.Test.YtclaeboednbhoaaRm
import Derived.Laws.OwnMore
import Derived.Test.YtclaeboednbhoaaRg0
namespace Go.Proofs.Ytclaeboednbhoaa
open Go.RowKit
set_option linter.unusedSimpArgs false
set_option linter.unusedVariables false

set_option maxRecDepth 100000 in
set_option maxHeartbeats 8000000 in
theorem does_walk (a0 : Option Addr) (len cap : Nat) (cs : List ACall) (kind : Int) (s : ByteArray) (w : World) (hl : IsCalls w a0 len cs) (hs : s.size ≤ maxLen) :
    Calls Try.prog 3 #[.slice a0 len cap, .int .i64 kind, .string s] w fun e w' => e = .returned (.bool true) ∧ Below w.heap.size w w' := by
  have hm := hl.2.1
  have hs' := hs
  unfold maxLen at hm hs'
  have HL := hide hl
  have HS := hide hs
  clear hl hs
  go_enter Try.func3, Try.ntmps3
  go_wp2_with fail
  refine (begun_any w).mono ?_
  rintro e w1 ⟨rfl, b1⟩
  have HL1 := hide ((unhide HL).later b1)
  have HB1 := hide b1
  clear b1
  go_wp2_with fail
  refine (greatCalls_any a0 len cap cs w1 (unhide HL1)).mono ?_
  rintro e w2 ⟨⟨r, rfl⟩, b2⟩
  have HB2 := hide ((unhide HB1).trans (b2.mono (unhide HB1).size))
  clear b2
  cases r
  rotate_left
  · go_wp2
    go_ret
    exact ⟨rfl, unhide HB2⟩
  by_cases hlong : (300 : Int) < (s.size : Int)
  · go_wp2
    go_ret
    exact ⟨rfl, unhide HB2⟩
  go_wp2_with fail
  refine (New_any w2).mono ?_
  rintro e w3 ⟨rfl, rfl⟩
  have hz2 := (unhide HB2).size
  have HO3 := hide ((New_obj w2).wider hz2)
  have HB3 := hide ((unhide HB2).alloc hz2 (.cells #[.slice none 0 0] 67))
  generalize w2.heap.size = B at HO3 HB3 ⊢
  generalize w2.alloc (.cells #[.slice none 0 0] 67) = w3 at HO3 HB3 ⊢
  clear hz2
  have hNz := (unhide HB3).size
  have HDU : Hid (Duo w.heap.size ((w3.alloc (.cells #[] 76)).alloc (.cells #[.slice (some ⟨w3.heap.size, 0, none⟩) 0 0] 29)) B (w3.heap.size + 1) [B] (.slice (some ⟨w3.heap.size, 0, none⟩) 0 0) [] []) := by
    have h1 := Duo.begin (v := .slice (some ⟨w3.heap.size, 0, none⟩) 0 0) ((unhide HO3).alloc (.cells #[] 76)) (World.ownsRow_lit w3 #[] 0 hNz (by unfold maxLen; omega) rfl) (fun k hk hm => by
      have e : k = w3.heap.size := by simpa [Value.ownBlock] using hk.symm
      subst e
      have := (unhide HO3).lt hm
      omega)
    have e : (w3.alloc (.cells #[] 76)).heap.size = w3.heap.size + 1 := by simp
    rw [e] at h1
    exact h1
  have HB4 : Hid (Below w.heap.size w ((w3.alloc (.cells #[] 76)).alloc (.cells #[.slice (some ⟨w3.heap.size, 0, none⟩) 0 0] 29))) := ((unhide HB3).alloc hNz _).alloc (by simp; omega) _
  generalize hD : w3.heap.size + 1 = D at HDU ⊢
  go_wp2
  go_loopw [9] (fun i wr => ∃ (j : Nat) (own : List Nat) (v : Value) (st : List AFile), j ≤ len ∧ i = .int .i64 j ∧ Hid (Duo w.heap.size wr B D own v st st) ∧ Hid (Below w.heap.size w wr)) (fun i _ => len - (intOf i).toNat)
  case atStart => exact ⟨0, _, _, _, Nat.zero_le _, by rfl, unhide HDU, unhide HB4⟩
  case round =>
    obtain ⟨j, own, v, st, hj, rfl, HU, HB⟩ := hrel
    by_cases h1 : (j : Int) < (len : Int)
    · obtain ⟨b, off, rfl, hlt, hc⟩ := (unhide HL).2.2 (by omega)
      obtain ⟨cx, hcj⟩ : ∃ c, cs[j]? = some c := ⟨_, List.getElem?_eq_getElem (by rw [(unhide HL).1]; omega)⟩
      obtain ⟨⟨g0, g1, g2, g3⟩, s1, s2, s3⟩ := hc j cx hcj
      have HSZ := hide (And.intro s1 (And.intro s2 s3))
      have hchk := fun W => Check_any cx.kind cx.name cx.dst cx.text W s1 s2 s3
      have hflt := fun W => CallFault_any cx.kind cx.name cx.dst cx.text W s1 s2 s3
      have hdo := fun W own v (h : Duo w.heap.size W B D own v st st) => duo_do cx h s1 s2 s3
      have hdd := fun W own v (h : Duo w.heap.size W B D own v (aDo st cx).st st) => duo_ddo cx h s1 s2 s3 (unhide HU).obj.inv
      generalize checkI ⟨cx.kind, cx.name, cx.dst, cx.text⟩ = chk at hchk hflt
      generalize (aDo st cx).code = code at hdo hdd
      generalize (aDo st cx).text = text1 at hdo hdd
      generalize (aDo st cx).st = st1 at hdo hdd
      obtain ⟨ck, ca, cb, ct⟩ := cx
      dsimp only at g0 g1 g2 g3 hchk hflt hdo hdd
      have HC : Hid (∀ wx, Below w.heap.size w wx → wx.cell? ⟨b, off + j * 4, none⟩ = some (.int .i64 ck) ∧ wx.cell? ⟨b, off + j * 4 + 1, none⟩ = some (.string ca) ∧ wx.cell? ⟨b, off + j * 4 + 2, none⟩ = some (.string cb) ∧ wx.cell? ⟨b, off + j * 4 + 3, none⟩ = some (.string ct)) := fun wx hx =>
        ⟨(hx.cell (p := ⟨b, off + j * 4, none⟩) hlt).trans g0, (hx.cell (p := ⟨b, off + j * 4 + 1, none⟩) hlt).trans g1, (hx.cell (p := ⟨b, off + j * 4 + 2, none⟩) hlt).trans g2, (hx.cell (p := ⟨b, off + j * 4 + 3, none⟩) hlt).trans g3⟩
      have HCHK := hide hchk
      have HFLT := hide hflt
      have HDO := hide hdo
      have HDD := hide hdd
      have nq := neq34 code text1
      have hj0 : (0 : Int) ≤ (j : Int) := by omega
      have HUd : Hid (Duo w.heap.size wr.drew B D own v st st) := (unhide HU).below (below_drew wr)
      have HBd : Hid (Below w.heap.size w wr.drew) := (unhide HB).drew
      obtain ⟨p0, p1, p2, p3⟩ := unhide HC wr (unhide HB)
      clear hc hcj s1 s2 s3 g0 g1 g2 g3 hchk hflt hdo hdd hlt
      go_wp2_with fail
      refine wp_region_held_drew (S := (fun wx => wx.cell? ⟨b, off + j * 4, none⟩ = some (.int .i64 ck) ∧ wx.cell? ⟨b, off + j * 4 + 1, none⟩ = some (.string ca) ∧ wx.cell? ⟨b, off + j * 4 + 2, none⟩ = some (.string cb) ∧ wx.cell? ⟨b, off + j * 4 + 3, none⟩ = some (.string ct))) (by kernel_rfl) ⟨p0, p1, p2, p3⟩ (fun hHeld => ?_)
      refine wpAnyH_take (i := 0) (v := ?_) opn0 (by kernel_rfl) (by kernel_rfl) (by kernel_rfl) (fun _ _ _ h => h) (Or.inl ⟨by rfl, ?_⟩) (by assumption) ?_
      rotate_left 1
      · intro w hSw
        try dsimp only at hSw
        go_simp
        all_goals with_reducible rfl
      try simp only [Act.put, List.setIfInBounds_toArray, List.set_cons_zero, List.set_cons_succ]
      refine wpAnyH_take (i := 1) (v := ?_) opn1 (by kernel_rfl) (by kernel_rfl) (by kernel_rfl) (fun _ _ _ h => h) (Or.inl ⟨by rfl, ?_⟩) (by assumption) ?_
      rotate_left 1
      · intro w hSw
        try dsimp only at hSw
        go_simp
        all_goals with_reducible rfl
      try simp only [Act.put, List.setIfInBounds_toArray, List.set_cons_zero, List.set_cons_succ]
      refine wpAnyH_take (i := 2) (v := ?_) opn2 (by kernel_rfl) (by kernel_rfl) (by kernel_rfl) (fun _ _ _ h => h) (Or.inl ⟨by rfl, ?_⟩) (by assumption) ?_
      rotate_left 1
      · intro w hSw
        try dsimp only at hSw
        go_simp
        all_goals with_reducible rfl
      try simp only [Act.put, List.setIfInBounds_toArray, List.set_cons_zero, List.set_cons_succ]
      refine wpAnyH_take (i := 3) (v := ?_) opn3 (by kernel_rfl) (by kernel_rfl) (by kernel_rfl) (fun _ _ _ h => h) (Or.inl ⟨by rfl, ?_⟩) (by assumption) ?_
      rotate_left 1
      · intro w hSw
        try dsimp only at hSw
        go_simp
        all_goals with_reducible rfl
      try simp only [Act.put, List.setIfInBounds_toArray, List.set_cons_zero, List.set_cons_succ]
      refine wpAnyH_take (i := 5) (v := ?_) opn5 (by kernel_rfl) (by kernel_rfl) (by kernel_rfl) (fun _ _ _ h => h) (Or.inl ⟨by rfl, ?_⟩) (by assumption) ?_
      rotate_left 1
      · intro w hSw
        try dsimp only at hSw
        go_simp
        all_goals with_reducible rfl
      try simp only [Act.put, List.setIfInBounds_toArray, List.set_cons_zero, List.set_cons_succ]
      refine wpAnyH_take (i := 6) (v := ?_) opn6 (by kernel_rfl) (by kernel_rfl) (by kernel_rfl) (fun _ _ _ h => h) (Or.inl ⟨by rfl, ?_⟩) (by assumption) ?_
      rotate_left 1
      · intro w hSw
        try dsimp only at hSw
        go_simp
        all_goals with_reducible rfl
      try simp only [Act.put, List.setIfInBounds_toArray, List.set_cons_zero, List.set_cons_succ]
      refine wpAnyH_take (i := 7) (v := ?_) opn7 (by kernel_rfl) (by kernel_rfl) (by kernel_rfl) (fun _ _ _ h => h) (Or.inl ⟨by rfl, ?_⟩) (by assumption) ?_
      rotate_left 1
      · intro w hSw
        try dsimp only at hSw
        go_simp
        all_goals with_reducible rfl
      try simp only [Act.put, List.setIfInBounds_toArray, List.set_cons_zero, List.set_cons_succ]
      refine wpAnyH_take (i := 8) (v := ?_) opn8 (by kernel_rfl) (by kernel_rfl) (by kernel_rfl) (fun _ _ _ h => h) (Or.inl ⟨by rfl, ?_⟩) (by assumption) ?_
      rotate_left 1
      · intro w hSw
        try dsimp only at hSw
        go_simp
        all_goals with_reducible rfl
      try simp only [Act.put, List.setIfInBounds_toArray, List.set_cons_zero, List.set_cons_succ]
      refine wpAnyH_ready (rs := [4]) (by kernel_rfl) (by simp) ?_
      refine AllReadyH.cons opn4 (fun K hK => ?_) AllReadyH.nil
      go_simp
      refine ((unhide HCHK) _).mono ?_
      rintro e x1 ⟨rfl, b1⟩
      have HU1 := hide ((unhide HUd).below b1)
      have HX1 := hide ((unhide HBd).trans (b1.mono (unhide HBd).size))
      clear b1 hHeld
      refine hK.out _ _ (unhide HC x1 (unhide HX1)) (fun hHeld => ?_)
      clear hK K
      try simp only [Act.put, List.setIfInBounds_toArray, List.set_cons_zero, List.set_cons_succ]
      refine wpAnyH_ready (rs := [9]) (by kernel_rfl) (by simp) ?_
      refine AllReadyH.cons opn9 (fun K hK => ?_) AllReadyH.nil
      go_simp
      refine ((unhide HFLT) _).mono ?_
      rintro e x2 ⟨rfl, b2⟩
      have HU2 := hide ((unhide HU1).below b2)
      have HX2 := hide ((unhide HX1).trans (b2.mono (unhide HX1).size))
      clear b2 hHeld
      refine hK.out _ _ (unhide HC x2 (unhide HX2)) (fun hHeld => ?_)
      clear hK K
      try simp only [Act.put, List.setIfInBounds_toArray, List.set_cons_zero, List.set_cons_succ]
      refine wpAnyH_take (i := 10) (v := ?_) opn10 (by kernel_rfl) (by kernel_rfl) (by kernel_rfl) (fun _ _ _ h => h) (Or.inl ⟨by rfl, ?_⟩) (by assumption) ?_
      rotate_left 1
      · intro w hSw
        try dsimp only at hSw
        go_simp
        all_goals with_reducible rfl
      try simp only [Act.put, List.setIfInBounds_toArray, List.set_cons_zero, List.set_cons_succ]
      refine wpAnyH_take (i := 11) (v := ?_) opn11 (by kernel_rfl) (by kernel_rfl) (by kernel_rfl) (fun _ _ _ h => h) (Or.inl ⟨by rfl, ?_⟩) (by assumption) ?_
      rotate_left 1
      · intro w hSw
        try dsimp only at hSw
        go_simp
        all_goals with_reducible rfl
      try simp only [Act.put, List.setIfInBounds_toArray, List.set_cons_zero, List.set_cons_succ]
      refine wpAnyH_take (i := 12) (v := ?_) opn12 (by kernel_rfl) (by kernel_rfl) (by kernel_rfl) (fun _ _ _ h => h) (Or.inl ⟨by rfl, ?_⟩) (by assumption) ?_
      rotate_left 1
      · intro w hSw
        try dsimp only at hSw
        go_simp
        all_goals with_reducible rfl
      try simp only [Act.put, List.setIfInBounds_toArray, List.set_cons_zero, List.set_cons_succ]
      refine wpAnyH_take (i := 13) (v := ?_) opn13 (by kernel_rfl) (by kernel_rfl) (by kernel_rfl) (fun _ _ _ h => h) (Or.inl ⟨by rfl, ?_⟩) (by assumption) ?_
      rotate_left 1
      · intro w hSw
        try dsimp only at hSw
        go_simp
        all_goals with_reducible rfl
      try simp only [Act.put, List.setIfInBounds_toArray, List.set_cons_zero, List.set_cons_succ]
      refine wpAnyH_take (i := 14) (v := ?_) opn14 (by kernel_rfl) (by kernel_rfl) (by kernel_rfl) (fun _ _ _ h => h) (Or.inl ⟨by rfl, ?_⟩) (by assumption) ?_
      rotate_left 1
      · intro w hSw
        try dsimp only at hSw
        go_simp
        all_goals with_reducible rfl
      try simp only [Act.put, List.setIfInBounds_toArray, List.set_cons_zero, List.set_cons_succ]
      refine wpAnyH_take (i := 15) (v := ?_) opn15 (by kernel_rfl) (by kernel_rfl) (by kernel_rfl) (fun _ _ _ h => h) (Or.inl ⟨by rfl, ?_⟩) (by assumption) ?_
      rotate_left 1
      · intro w hSw
        try dsimp only at hSw
        go_simp
        all_goals with_reducible rfl
      try simp only [Act.put, List.setIfInBounds_toArray, List.set_cons_zero, List.set_cons_succ]
      refine wpAnyH_take (i := 16) (v := ?_) opn16 (by kernel_rfl) (by kernel_rfl) (by kernel_rfl) (fun _ _ _ h => h) (Or.inl ⟨by rfl, ?_⟩) (by assumption) ?_
      rotate_left 1
      · intro w hSw
        try dsimp only at hSw
        go_simp
        all_goals with_reducible rfl
      try simp only [Act.put, List.setIfInBounds_toArray, List.set_cons_zero, List.set_cons_succ]
      refine wpAnyH_take (i := 18) (v := ?_) opn18 (by kernel_rfl) (by kernel_rfl) (by kernel_rfl) (fun _ _ _ h => h) (Or.inl ⟨by rfl, ?_⟩) (by assumption) ?_
      rotate_left 1
      · intro w hSw
        try dsimp only at hSw
        go_simp
        all_goals with_reducible rfl
      try simp only [Act.put, List.setIfInBounds_toArray, List.set_cons_zero, List.set_cons_succ]
      refine wpAnyH_take (i := 19) (v := ?_) opn19 (by kernel_rfl) (by kernel_rfl) (by kernel_rfl) (fun _ _ _ h => h) (Or.inl ⟨by rfl, ?_⟩) (by assumption) ?_
      rotate_left 1
      · intro w hSw
        try dsimp only at hSw
        go_simp
        all_goals with_reducible rfl
      try simp only [Act.put, List.setIfInBounds_toArray, List.set_cons_zero, List.set_cons_succ]
      refine wpAnyH_take (i := 20) (v := ?_) opn20 (by kernel_rfl) (by kernel_rfl) (by kernel_rfl) (fun _ _ _ h => h) (Or.inl ⟨by rfl, ?_⟩) (by assumption) ?_
      rotate_left 1
      · intro w hSw
        try dsimp only at hSw
        go_simp
        all_goals with_reducible rfl
      try simp only [Act.put, List.setIfInBounds_toArray, List.set_cons_zero, List.set_cons_succ]
      refine wpAnyH_take (i := 21) (v := ?_) opn21 (by kernel_rfl) (by kernel_rfl) (by kernel_rfl) (fun _ _ _ h => h) (Or.inl ⟨by rfl, ?_⟩) (by assumption) ?_
      rotate_left 1
      · intro w hSw
        try dsimp only at hSw
        go_simp
        all_goals with_reducible rfl
      try simp only [Act.put, List.setIfInBounds_toArray, List.set_cons_zero, List.set_cons_succ]
      refine wpAnyH_take (i := 22) (v := ?_) opn22 (by kernel_rfl) (by kernel_rfl) (by kernel_rfl) (fun _ _ _ h => h) (Or.inl ⟨by rfl, ?_⟩) (by assumption) ?_
      rotate_left 1
      · intro w hSw
        try dsimp only at hSw
        go_simp
        all_goals with_reducible rfl
      try simp only [Act.put, List.setIfInBounds_toArray, List.set_cons_zero, List.set_cons_succ]
      refine wpAnyH_ready (rs := [17]) (by kernel_rfl) (by simp) ?_
      refine AllReadyH.cons opn17 (fun K hK => ?_) AllReadyH.nil
      go_simp
      refine ((unhide HDO) _ _ _ (unhide HU2)).mono ?_
      rintro e x3 ⟨rfl, own3, u3, b3⟩
      have HU3 := hide u3
      have HX3 := hide ((unhide HX2).trans b3)
      clear b3 u3 hHeld
      refine hK.out _ _ (unhide HC x3 (unhide HX3)) (fun hHeld => ?_)
      clear hK K
      try simp only [Act.put, List.setIfInBounds_toArray, List.set_cons_zero, List.set_cons_succ]
      refine wpAnyH_ready (rs := [23]) (by kernel_rfl) (by simp) ?_
      refine AllReadyH.cons opn23 (fun K hK => ?_) AllReadyH.nil
      go_simp
      refine ((unhide HDD) _ _ _ (unhide HU3)).mono ?_
      rintro e x4 ⟨rfl, v4, u4, b4⟩
      obtain ⟨a4, c4, rfl⟩ := u4.rep.form
      have d4 := u4.rep.can.1
      have HU4 := hide u4
      have HX4 := hide ((unhide HX3).trans b4)
      clear b4 u4 hHeld
      refine hK.out _ _ (unhide HC x4 (unhide HX4)) (fun hHeld => ?_)
      clear hK K
      try simp only [Act.put, List.setIfInBounds_toArray, List.set_cons_zero, List.set_cons_succ]
      refine wpAnyH_weak (S' := fun wx => (wx.cell? ⟨b, off + j * 4, none⟩ = some (.int .i64 ck) ∧ wx.cell? ⟨b, off + j * 4 + 1, none⟩ = some (.string ca) ∧ wx.cell? ⟨b, off + j * 4 + 2, none⟩ = some (.string cb) ∧ wx.cell? ⟨b, off + j * 4 + 3, none⟩ = some (.string ct)) ∧ wx.cell? ⟨D, 0, none⟩ = some (.slice a4 st1.length c4)) (fun _ h => h.1) _ _ _ _ ?_
      replace hHeld : (fun wx : World => (wx.cell? ⟨b, off + j * 4, none⟩ = some (.int .i64 ck) ∧ wx.cell? ⟨b, off + j * 4 + 1, none⟩ = some (.string ca) ∧ wx.cell? ⟨b, off + j * 4 + 2, none⟩ = some (.string cb) ∧ wx.cell? ⟨b, off + j * 4 + 3, none⟩ = some (.string ct)) ∧ wx.cell? ⟨D, 0, none⟩ = some (.slice a4 st1.length c4)) x4 := ⟨hHeld, d4⟩
      clear d4
      refine wpAnyH_take (i := 24) (v := ?_) opn24 (by kernel_rfl) (by kernel_rfl) (by kernel_rfl) (fun _ _ _ h => h) (Or.inl ⟨by rfl, ?_⟩) (by assumption) ?_
      rotate_left 1
      · intro w hSw
        try dsimp only at hSw
        go_simp
        all_goals with_reducible rfl
      try simp only [Act.put, List.setIfInBounds_toArray, List.set_cons_zero, List.set_cons_succ]
      refine wpAnyH_take (i := 25) (v := ?_) opn25 (by kernel_rfl) (by kernel_rfl) (by kernel_rfl) (fun _ _ _ h => h) (Or.inl ⟨by rfl, ?_⟩) (by assumption) ?_
      rotate_left 1
      · intro w hSw
        try dsimp only at hSw
        go_simp
        all_goals with_reducible rfl
      try simp only [Act.put, List.setIfInBounds_toArray, List.set_cons_zero, List.set_cons_succ]
      refine wpAnyH_take (i := 26) (v := ?_) opn26 (by kernel_rfl) (by kernel_rfl) (by kernel_rfl) (fun _ _ _ h => h) (Or.inl ⟨by rfl, ?_⟩) (by assumption) ?_
      rotate_left 1
      · intro w hSw
        try dsimp only at hSw
        go_simp
        all_goals with_reducible rfl
      try simp only [Act.put, List.setIfInBounds_toArray, List.set_cons_zero, List.set_cons_succ]
      refine wpAnyH_take (i := 27) (v := ?_) opn27 (by kernel_rfl) (by kernel_rfl) (by kernel_rfl) (fun _ _ _ h => h) (Or.inl ⟨by rfl, ?_⟩) (by assumption) ?_
      rotate_left 1
      · intro w hSw
        try dsimp only at hSw
        go_simp
        all_goals with_reducible rfl
      try simp only [Act.put, List.setIfInBounds_toArray, List.set_cons_zero, List.set_cons_succ]
      refine wpAnyH_take (i := 29) (v := ?_) opn29 (by kernel_rfl) (by kernel_rfl) (by kernel_rfl) (fun _ _ _ h => h) (Or.inl ⟨by rfl, ?_⟩) (by assumption) ?_
      rotate_left 1
      · intro w hSw
        try dsimp only at hSw
        go_simp
        all_goals with_reducible rfl
      try simp only [Act.put, List.setIfInBounds_toArray, List.set_cons_zero, List.set_cons_succ]
      refine wpAnyH_take (i := 30) (v := ?_) opn30 (by kernel_rfl) (by kernel_rfl) (by kernel_rfl) (fun _ _ _ h => h) (Or.inl ⟨by rfl, ?_⟩) (by assumption) ?_
      rotate_left 1
      · intro w hSw
        try dsimp only at hSw
        go_simp
        all_goals with_reducible rfl
      try simp only [Act.put, List.setIfInBounds_toArray, List.set_cons_zero, List.set_cons_succ]
      refine wpAnyH_take (i := 31) (v := ?_) opn31 (by kernel_rfl) (by kernel_rfl) (by kernel_rfl) (fun _ _ _ h => h) (Or.inl ⟨by rfl, ?_⟩) (by assumption) ?_
      rotate_left 1
      · intro w hSw
        try dsimp only at hSw
        go_simp
        all_goals with_reducible rfl
      try simp only [Act.put, List.setIfInBounds_toArray, List.set_cons_zero, List.set_cons_succ]
      refine wpAnyH_ready (rs := [28]) (by kernel_rfl) (by simp) ?_
      refine AllReadyH.cons opn28 (fun K hK => ?_) AllReadyH.nil
      go_simp
      refine (duo_names (unhide HU4)).mono ?_
      rintro e x5 ⟨g5, c5, rfl, o5, u5, b5⟩
      have d5 := u5.rep.can.1
      have HO5 := hide o5
      have HU5 := hide u5
      have HX5 := hide ((unhide HX4).trans (b5.mono (unhide HX4).size))
      clear b5 u5 o5 hHeld
      refine hK.out _ _ ⟨unhide HC x5 (unhide HX5), d5⟩ (fun hHeld => ?_)
      clear hK K
      try simp only [Act.put, List.setIfInBounds_toArray, List.set_cons_zero, List.set_cons_succ]
      refine wpAnyH_ready (rs := [32]) (by kernel_rfl) (by simp) ?_
      refine AllReadyH.cons opn32 (fun K hK => ?_) AllReadyH.nil
      go_simp
      refine (duo_dnames (unhide HU5) (unhide HO5)).mono ?_
      rintro e x6 ⟨a6, c6, rfl, h6, u6, b6⟩
      have d6 := u6.rep.can.1
      have HH6 := hide h6
      have HU6 := hide u6
      have HX6 := hide ((unhide HX5).trans (b6.mono (unhide HX5).size))
      clear b6 u6 h6 hHeld d5
      refine hK.out _ _ ⟨unhide HC x6 (unhide HX6), d6⟩ (fun hHeld => ?_)
      clear hK K
      try simp only [Act.put, List.setIfInBounds_toArray, List.set_cons_zero, List.set_cons_succ]
      refine wpAnyH_ready (rs := [33]) (by kernel_rfl) (by simp) ?_
      refine AllReadyH.cons opn33 (fun K hK => ?_) AllReadyH.nil
      go_simp
      refine (unhide HH6).mono ?_
      rintro e x7 ⟨rfl, b7⟩
      have HU7 := hide ((unhide HU6).below b7)
      have d7 := (unhide HU7).rep.can.1
      have HX7 := hide ((unhide HX6).trans (b7.mono (unhide HX6).size))
      clear b7 hHeld d6
      refine hK.out _ _ ⟨unhide HC x7 (unhide HX7), d7⟩ (fun hHeld => ?_)
      clear hK K
      try simp only [Act.put, List.setIfInBounds_toArray, List.set_cons_zero, List.set_cons_succ]
      refine wpAnyH_take (i := 34) (v := ?_) opn34 (by kernel_rfl) (by kernel_rfl) (by kernel_rfl) (fun _ _ _ h => h) (Or.inl ⟨by rfl, ?_⟩) (by assumption) ?_
      rotate_left 1
      · intro w hSw
        try dsimp only at hSw
        go_simp
        all_goals with_reducible rfl
      try simp only [Act.put, List.setIfInBounds_toArray, List.set_cons_zero, List.set_cons_succ]
      refine wpAnyH_take (i := 35) (v := ?_) opn35 (by kernel_rfl) (by kernel_rfl) (by kernel_rfl) (fun _ _ _ h => h) (Or.inl ⟨by rfl, ?_⟩) (by assumption) ?_
      rotate_left 1
      · intro w hSw
        try dsimp only at hSw
        go_simp
        all_goals with_reducible rfl
      try simp only [Act.put, List.setIfInBounds_toArray, List.set_cons_zero, List.set_cons_succ]
      refine wpAnyH_done (by kernel_rfl) ?_ _
      clear hHeld d7
      go_wp2
      go_roundw
      case rel => exact ⟨j + 1, _, _, st1, by omega, by go_num, unhide HU7, unhide HX7⟩
      case measure => simp [intOf]; omega
    · have h2 := fun W => Changes_any kind W
      have h3 := fun W => IsChange_any kind W
      have h4 := fun W => Name_any s W (unhide HS)
      have h5 := fun W => IsName_any s W (unhide HS)
      generalize changesB kind = cb at h2 h3
      generalize nameB s = nb at h4 h5
      have H2 := hide h2
      have H3 := hide h3
      have H4 := hide h4
      have H5 := hide h5
      clear h2 h3 h4 h5
      go_wp2_with fail
      refine ((unhide H2) _).mono ?_
      rintro e y1 ⟨rfl, rfl⟩
      go_wp2_with fail
      refine ((unhide H3) _).mono ?_
      rintro e y1 ⟨rfl, rfl⟩
      go_wp2_with fail
      refine ((unhide H4) _).mono ?_
      rintro e y2 ⟨rfl, b2⟩
      have HY := hide ((unhide HB).trans (b2.mono (unhide HB).size))
      clear b2
      go_wp2_with fail
      refine ((unhide H5) _).mono ?_
      rintro e y3 ⟨rfl, rfl⟩
      go_wp2
      go_ret
      exact ⟨by simp, unhide HY⟩

end Go.Proofs.Ytclaeboednbhoaa
