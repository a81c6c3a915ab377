/- Texts joined, what is needed of them: Lo Open OpenP OpenC Lp. -/
import Derived.Test.YtkbdaiopahmfiacDoorLu1
import Derived.ChangeOld
import Derived.Lay
import Derived.Lib.LaidTab
import Derived.Lib.SmallJoins
import Derived.OpenShut
import Derived.ProofKit
import Derived.ShutString
import Derived.SizedLaws
import Derived.Stop.Joined
import Derived.Stop.LaidErr
import Derived.Test.YtkbdaiopahmfiacDoorTie
namespace Go.Proofs.YtkbdaiopahmfiacDoor
open Go.RowKit
set_option linter.unusedSimpArgs false
set_option linter.unusedVariables false

theorem leql34 (d d' : Int) (u u' : ByteArray) (w : World) : (binOp .eql 25 (.agg #[.int .i64 d, .string u]) (.agg #[.int .i64 d', .string u'])).run Tryd.prog w = .ok (.bool (d == d' && u.toList == u'.toList)) w := by
  have h := equal34 9998 d d' u u' w
  unfold ansCells at h
  rw [run_eql_struct, h]
  rfl
theorem lgd34 (bo : BinOp) (x y : Operand) (c c' : Array Value) (wz : World) (h : bo = .neq ∨ bo = .eql) : (eqGuard bo 25 x y (.agg c) (.agg c')).run Tryd.prog wz = .ok () wz := by
  rcases h with rfl | rfl <;> (unfold eqGuard; simp [Tryd.eqGuardType25])
theorem lyieldsB {a : Act} {o : Oper} {bo : BinOp} {t t2 : TypeId} {x y : Operand} {u u' v : Value} {wz : World} (ho : o.op = .binOp bo t x y t2) (hx : a.eval x = u) (hy : a.eval y = u') (hq : (binOp bo t u u').run Tryd.prog wz = .ok v wz) (hg : (eqGuard bo t x y u u').run Tryd.prog wz = .ok () wz) : (execOp a.eval o).run Tryd.prog wz = .ok (.value v) wz := by
  unfold execOp
  simp [ho, hx, hy, hq, hg]
theorem lgreat_fix (c : ACall) : ∃ r : Bool, ∀ w : World, Calls Tryd.prog 7 #[.agg #[.int .i64 c.kind, .string c.name, .string c.dst, .string c.text]] w fun e w' => e = .returned (.bool r) ∧ Below w.heap.size w w' := by
  obtain ⟨k, a, b, t⟩ := c
  refine ⟨decide ((300 : Int) < wrap64 (wrap64 ((a.size : Int) + (b.size : Int)) + (t.size : Int))), fun w => ?_⟩
  dsimp only
  go_enter Tryd.func7, Tryd.ntmps7
  go_wp2
  go_ret
  exact ⟨rfl, (Below.refl _ _).alloc (Nat.le_refl _) _⟩
theorem ans_apart (d1 d2 : Int) (u1 u2 : ByteArray) : ((B (ansL d1 u1.data.toList)).toList == (B (ansL d2 u2.data.toList)).toList) = (d1 == d2 && u1.toList == u2.toList) := by
  rw [toList_data, toList_data, toList_data, toList_data, B_data, B_data, Bool.eq_iff_iff]
  simp only [beq_iff_eq, Bool.and_eq_true]
  constructor
  · exact ansL_inj
  · rintro ⟨rfl, h⟩
    rw [h]

set_option maxRecDepth 100000 in
set_option maxHeartbeats 8000000 in
theorem apart_walk (d1 : Int) (u1 : ByteArray) (d2 : Int) (u2 : ByteArray) (x : ACall) (w : World) (hw : LW w) (r1 : -9223372036854775808 ≤ d1 ∧ d1 ≤ 9223372036854775807) (s1 : u1.size ≤ 281474976710656) (r2 : -9223372036854775808 ≤ d2 ∧ d2 ≤ 9223372036854775807) (s2 : u2.size ≤ 281474976710656) (h1 : x.name.size ≤ 281474976710656) (h2 : x.dst.size ≤ 281474976710656) (h3 : x.text.size ≤ 281474976710656) :
    Calls Tryd.prog 5 #[.agg #[.int .i64 d1, .string u1], .agg #[.int .i64 d2, .string u2], .agg #[.int .i64 x.kind, .string x.name, .string x.dst, .string x.text]] w fun e w' => e = .returned (.bool true) ∧ Below w.heap.size w w' := by
  have HCL := hide (fun W hW => LCall_any x W hW (Nat.le_trans h1 (by decide)) (Nat.le_trans h2 (by decide)) (Nat.le_trans h3 (by decide)))
  have HLN : Hid ((aLine x).2 = 0 → ∀ y, y ∈ (aLine x).1 → 32 ≤ y.toNat ∧ y.toNat ≤ 126) := hide fun h => by
    unfold aLine at h ⊢
    by_cases hc : checkI x ≠ 0
    · rw [if_pos hc] at h; exact absurd h hc
    · rw [if_neg hc]; exact line_shown (by simpa using hc)
  have HLL : Hid ((aLine x).1.length ≤ 1000) := hide (by
    unfold aLine
    by_cases hc : checkI x ≠ 0
    · rw [if_pos hc]; exact Nat.zero_le _
    · rw [if_neg hc]
      have hc0 : checkI x = 0 := by simpa using hc
      have hk := kinds6 hc0
      have e := accL_line x (by omega)
      rw [← e]
      have hf := lflat_len x (offs x.kind) (fld_small hc0)
      have ho := offs_le x.kind
      have hz := wordK_size x.kind
      unfold accL
      rw [List.length_append, bsize]
      show (wordK x.kind).size + _ ≤ 1000
      omega)
  obtain ⟨g, HG⟩ := lgreat_fix x
  obtain ⟨V0, hV0⟩ : ∃ V, V = ((w.alloc (.cells #[.int .i64 d1, .string u1] 25)).alloc (.cells #[.int .i64 d2, .string u2] 25)).alloc (.cells #[.int .i64 x.kind, .string x.name, .string x.dst, .string x.text] 23) := ⟨_, rfl⟩
  have hb0 : Below w.heap.size w V0 := by rw [hV0]; exact (((Below.refl _ _).alloc (Nat.le_refl _) _).alloc (by simp) _).alloc (by simp; omega) _
  have hA0 : V0.heap[w.heap.size]? = some (.cells #[.int .i64 d1, .string u1] 25 (0, 0)) := by rw [hV0, Below.heap_alloc _ _ _ (by simp; omega), Below.heap_alloc _ _ _ (by simp)]; exact heap_alloc_new _ _
  have hE0 : V0.heap[w.heap.size + 1]? = some (.cells #[.int .i64 d2, .string u2] 25 (0, 0)) := by
    rw [hV0, Below.heap_alloc _ _ _ (by simp)]
    have := heap_alloc_new (w.alloc (.cells #[.int .i64 d1, .string u1] 25)) (.cells #[.int .i64 d2, .string u2] 25)
    rwa [al_size] at this
  have hC0 : V0.heap[w.heap.size + 2]? = some (.cells #[.int .i64 x.kind, .string x.name, .string x.dst, .string x.text] 23 (0, 0)) := by
    rw [hV0]
    have := heap_alloc_new ((w.alloc (.cells #[.int .i64 d1, .string u1] 25)).alloc (.cells #[.int .i64 d2, .string u2] 25)) (.cells #[.int .i64 x.kind, .string x.name, .string x.dst, .string x.text] 23)
    rwa [al_size, al_size] at this
  have hlt : w.heap.size + 2 < V0.heap.size := (Array.getElem?_eq_some_iff.1 hC0).1
  have hB : ∀ W, Below V0.heap.size V0 W → Below w.heap.size w W ∧ LW W ∧ (W.cell? ⟨w.heap.size, 0, none⟩ = some (.int .i64 d1) ∧ W.cell? ⟨w.heap.size, 1, none⟩ = some (.string u1)) ∧ (W.cell? ⟨w.heap.size + 1, 0, none⟩ = some (.int .i64 d2) ∧ W.cell? ⟨w.heap.size + 1, 1, none⟩ = some (.string u2)) ∧ (W.cell? ⟨w.heap.size + 2, 0, none⟩ = some (.int .i64 x.kind) ∧ W.cell? ⟨w.heap.size + 2, 1, none⟩ = some (.string x.name) ∧ W.cell? ⟨w.heap.size + 2, 2, none⟩ = some (.string x.dst) ∧ W.cell? ⟨w.heap.size + 2, 3, none⟩ = some (.string x.text)) := fun W hW => by
    obtain ⟨a0, a1, _⟩ := twoK ((hW.block _ (by omega)).trans hA0)
    obtain ⟨e0, e1, _⟩ := twoK ((hW.block _ (by omega)).trans hE0)
    obtain ⟨c0, c1, c2, c3, _⟩ := fourK ((hW.block _ (by omega)).trans hC0)
    exact ⟨hb0.trans (hW.mono (by omega)), (hw.below hb0).below hW, ⟨a0, a1⟩, ⟨e0, e1⟩, ⟨c0, c1, c2, c3⟩⟩
  have HB := hide hB
  have HW0 := hide (hw.below hb0)
  have HV0 := hide hV0
  have HR1 := hide r1
  have HR2 := hide r2
  skip
  have HAN1 : Hid (u1.size ≤ 300 → ∀ W, LW W → Calls Tryd.prog 12 #[.agg #[.int .i64 d1, .string u1]] W fun e w' => e = .returned (.string (B (ansL d1 u1.data.toList))) ∧ Below W.heap.size W w') := hide fun h W hW => Answer_any d1 u1 W hW r1.1 r1.2 (by omega)
  have HAN2 : Hid (u2.size ≤ 300 → ∀ W, LW W → Calls Tryd.prog 12 #[.agg #[.int .i64 d2, .string u2]] W fun e w' => e = .returned (.string (B (ansL d2 u2.data.toList))) ∧ Below W.heap.size W w') := hide fun h W hW => Answer_any d2 u2 W hW r2.1 r2.2 (by omega)
  obtain ⟨bo, hbo⟩ : ∃ bo, (d1 == d2 && u1.toList == u2.toList) = bo := ⟨_, rfl⟩
  have hbo2 := ans_apart d1 d2 u1 u2
  rw [hbo] at hbo2
  have HE34 : Hid (∀ W, (binOp .eql 25 (.agg #[.int .i64 d1, .string u1]) (.agg #[.int .i64 d2, .string u2])).run Tryd.prog W = .ok (.bool bo) W) := hide fun W => by rw [leql34, hbo]
  obtain ⟨m1, hm1⟩ : ∃ m, B (ansL d1 u1.data.toList) = m := ⟨_, rfl⟩
  obtain ⟨m2, hm2⟩ : ∃ m, B (ansL d2 u2.data.toList) = m := ⟨_, rfl⟩
  rw [hm1, hm2] at hbo2
  rw [hm1] at HAN1
  rw [hm2] at HAN2
  have HBO := hide hbo2
  have HS := hide (And.intro s1 s2)
  obtain ⟨L, hL⟩ : ∃ L, aLine x = L := ⟨_, rfl⟩
  rw [hL] at HCL HLN HLL
  obtain ⟨ls, code⟩ := L
  dsimp only at HLN HLL
  obtain ⟨s, hs⟩ : ∃ s, B ls = s := ⟨_, rfl⟩
  have hsl : s.data.toList = ls := by rw [← hs, B_data]
  dsimp only at HCL
  rw [hs] at HCL
  have HSL := hide hsl
  obtain ⟨k, na, nb, nc⟩ := x
  dsimp only at *
  clear hw hb0 hV0 hA0 hE0 hC0 hB r1 r2 s1 s2 h1 h2 h3 hbo hbo2 hm1 hm2 hL hs hsl
  go_enter Tryd.func5, Tryd.ntmps5
  go_wp2_with fail
  rw [← unhide HV0]
  refine (lineBegun_any V0 (unhide HW0)).mono ?_
  rintro e w1 ⟨rfl, b1⟩
  obtain ⟨_, lw1, ⟨a0, a1⟩, ⟨e0, e1⟩, ⟨c0, c1, c2, c3⟩⟩ := (unhide HB) w1 b1
  have HB1 := hide b1
  clear b1 lw1
  --@A1@
  go_wp2_with fail
  refine (HG w1).mono ?_
  rintro e w2 ⟨rfl, b2⟩
  clear a0 a1 e0 e1 c0 c1 c2 c3
  have hb2 := (unhide HB1).trans (b2.mono (unhide HB1).size)
  obtain ⟨be2, lw2, ⟨a0, a1⟩, ⟨e0, e1⟩, ⟨c0, c1, c2, c3⟩⟩ := (unhide HB) w2 hb2
  have HBE2 := hide be2
  have HLW2 := hide lw2
  have HB2 := hide hb2
  clear b2 hb2 be2 lw2 HG
  cases g with
  | true =>
    --@A2@
    go_wp2
    go_ret
    exact ⟨rfl, unhide HBE2⟩
  | false =>
    have hsum : wrap64 ((u1.size : Int) + (u2.size : Int)) = (u1.size : Int) + (u2.size : Int) := by
      have := unhide HS
      unfold wrap64
      omega
    by_cases hg : (300 : Int) < (u1.size : Int) + (u2.size : Int)
    · --@A3@
      go_wp2
      go_ret
      exact ⟨rfl, unhide HBE2⟩
    · have HAN1' := hide ((unhide HAN1) (by omega))
      have HAN2' := hide ((unhide HAN2) (by omega))
      clear HAN1 HAN2
      --@A4@
      go_wp2_with fail
      refine ((unhide HCL) w2 (unhide HLW2)).mono ?_
      rintro e w3 ⟨rfl, b3⟩
      have hb3 := (unhide HB2).trans (b3.mono (unhide HB2).size)
      have HB3 := hide hb3
      clear b3 hb3 a0 a1 e0 e1 c0 c1 c2 c3 hg hsum HCL HBE2 HLW2 HB2
      by_cases hc : code = 0
      · subst hc
        have HSH := hide ((unhide HLN) rfl)
        have hsz : s.size ≤ 1000 := by rw [← bsize, unhide HSL]; exact unhide HLL
        clear HLN HLL
        --@A5@
        go_wp2_with fail
        go_loop [9] (fun i => ∃ q : Nat, q ≤ s.size ∧ i = .int .i64 q) (fun i => s.size - (intOf i).toNat)
        case atStart => exact ⟨0, Nat.zero_le _, rfl⟩
        case round =>
          obtain ⟨q, hq, rfl⟩ := hrel
          by_cases hlt : q < s.size
          · have hb := (unhide HSH) s[q] (by rw [← unhide HSL]; exact List.getElem_mem (by rw [bsize]; exact hlt))
            have hb1 : ¬ ((s[q].toNat : Int) < 32) := by omega
            have hb2 : ¬ (126 < (s[q].toNat : Int)) := by omega
            clear hb
            --@B1@
            go_wp2
            go_round
            case rel => exact ⟨q + 1, by omega, by go_num⟩
            case measure => simp [intOf]; omega
          · obtain rfl : q = s.size := by omega
            clear hlt
            --@B2@
            go_wp2_with fail
            refine wp_region_held_drew (S := (fun wx => Below V0.heap.size V0 wx)) (by kernel_rfl) ((unhide HB3).drew) (fun hHeld => ?_)
            refine wpAnyH_take (i := 0) (v := ?_) opn0 (by kernel_rfl) (by kernel_rfl) (by kernel_rfl) (fun _ _ _ h => h) (Or.inl ⟨by kernel_rfl, ?_⟩) (by assumption) ?_
            rotate_left 1
            · intro wz hSw
              try dsimp only at hSw
              obtain ⟨_, _, ⟨a0, a1⟩, ⟨e0, e1⟩, _⟩ := (unhide HB) wz hSw
              go_simp
              all_goals with_reducible rfl
            try simp only [Act.put, List.setIfInBounds_toArray, List.set_cons_zero, List.set_cons_succ]
            refine wpAnyH_take (i := 2) (v := ?_) opn2 (by kernel_rfl) (by kernel_rfl) (by kernel_rfl) (fun _ _ _ h => h) (Or.inl ⟨by kernel_rfl, ?_⟩) (by assumption) ?_
            rotate_left 1
            · intro wz hSw
              try dsimp only at hSw
              obtain ⟨_, _, ⟨a0, a1⟩, ⟨e0, e1⟩, _⟩ := (unhide HB) wz hSw
              go_simp
              all_goals with_reducible rfl
            try simp only [Act.put, List.setIfInBounds_toArray, List.set_cons_zero, List.set_cons_succ]
            refine wpAnyH_take (i := 5) (v := ?_) opn5 (by kernel_rfl) (by kernel_rfl) (by kernel_rfl) (fun _ _ _ h => h) (Or.inl ⟨by kernel_rfl, ?_⟩) (by assumption) ?_
            rotate_left 1
            · intro wz hSw
              try dsimp only at hSw
              obtain ⟨_, _, ⟨a0, a1⟩, ⟨e0, e1⟩, _⟩ := (unhide HB) wz hSw
              go_simp
              all_goals with_reducible rfl
            try simp only [Act.put, List.setIfInBounds_toArray, List.set_cons_zero, List.set_cons_succ]
            refine wpAnyH_take (i := 6) (v := ?_) opn6 (by kernel_rfl) (by kernel_rfl) (by kernel_rfl) (fun _ _ _ h => h) (Or.inl ⟨by kernel_rfl, ?_⟩) (by assumption) ?_
            rotate_left 1
            · intro wz hSw
              try dsimp only at hSw
              obtain ⟨_, _, ⟨a0, a1⟩, ⟨e0, e1⟩, _⟩ := (unhide HB) wz hSw
              go_simp
              all_goals with_reducible rfl
            try simp only [Act.put, List.setIfInBounds_toArray, List.set_cons_zero, List.set_cons_succ]
            refine wpAnyH_take (i := 7) (v := .bool bo) opn7 (by kernel_rfl) (by kernel_rfl) (by kernel_rfl) (fun _ _ _ h => h) (Or.inl ⟨by kernel_rfl, ?_⟩) (by assumption) ?_
            · intro wz hSw
              exact lyieldsB rfl (by simp [Act.eval]) (by simp [Act.eval]) ((unhide HE34) wz) (lgd34 _ _ _ _ _ wz (.inr rfl))
            try simp only [Act.put, List.setIfInBounds_toArray, List.set_cons_zero, List.set_cons_succ]
            --@C1@
            refine wpAnyH_ready (rs := [1]) (by kernel_rfl) (by simp) ?_
            refine AllReadyH.cons opn1 (fun K hK => ?_) AllReadyH.nil
            rw [if_pos (by kernel_rfl)]
            go_simp
            refine ((unhide HAN1') _ ((unhide HB) _ hHeld).2.1).mono ?_
            rintro e w4 ⟨rfl, b4⟩
            have hb4 := Below.trans hHeld (b4.mono (Below.size hHeld))
            clear b4
            refine hK.out _ _ hb4 (fun hHeldN => ?_)
            clear hHeld hK K
            have hHeld := hHeldN
            clear hHeldN
            try simp only [Act.put, List.setIfInBounds_toArray, List.set_cons_zero, List.set_cons_succ]
            clear hb4
            --@C2@
            refine wpAnyH_ready (rs := [3]) (by kernel_rfl) (by simp) ?_
            refine AllReadyH.cons opn3 (fun K hK => ?_) AllReadyH.nil
            rw [if_pos (by kernel_rfl)]
            go_simp
            refine ((unhide HAN2') _ ((unhide HB) _ hHeld).2.1).mono ?_
            rintro e w5 ⟨rfl, b5⟩
            have hb5 := Below.trans hHeld (b5.mono (Below.size hHeld))
            have HBE := hide ((unhide HB) _ hb5).1
            clear b5
            refine hK.out _ _ hb5 (fun hHeldN => ?_)
            clear hHeld hK K
            have hHeld := hHeldN
            clear hHeldN
            try simp only [Act.put, List.setIfInBounds_toArray, List.set_cons_zero, List.set_cons_succ]
            clear hb5
            have hbo := unhide HBO
            --@C3@
            refine wpAnyH_take (i := 4) (v := .bool bo) opn4 (by kernel_rfl) (by kernel_rfl) (by kernel_rfl) (fun _ _ _ h => h) (Or.inl ⟨by kernel_rfl, ?_⟩) (by assumption) ?_
            · intro wz hSw
              try dsimp only at hSw
              go_simp
              all_goals with_reducible rfl
            try simp only [Act.put, List.setIfInBounds_toArray, List.set_cons_zero, List.set_cons_succ]
            refine wpAnyH_take (i := 8) (v := .bool true) opn8 (by kernel_rfl) (by kernel_rfl) (by kernel_rfl) (fun _ _ _ h => h) (Or.inl ⟨by kernel_rfl, ?_⟩) (by assumption) ?_
            · intro wz hSw
              try dsimp only at hSw
              cases bo
              · go_simp
                all_goals with_reducible rfl
              · go_simp
                all_goals with_reducible rfl
            try simp only [Act.put, List.setIfInBounds_toArray, List.set_cons_zero, List.set_cons_succ]
            refine wpAnyH_take (i := 9) (v := ?_) opn9 (by kernel_rfl) (by kernel_rfl) (by kernel_rfl) (fun _ _ _ h => h) (Or.inl ⟨by kernel_rfl, ?_⟩) (by assumption) ?_
            rotate_left 1
            · intro wz hSw
              try dsimp only at hSw
              go_simp
              all_goals with_reducible rfl
            try simp only [Act.put, List.setIfInBounds_toArray, List.set_cons_zero, List.set_cons_succ]
            refine wpAnyH_done (by kernel_rfl) ?_ _
            clear hHeld
            --@C4@
            go_wp2
            go_ret
            exact ⟨rfl, unhide HBE⟩
      · have hcb : (code == 0) = false := by simpa using hc
        clear hc HLN HLL
        --@A6@
        go_wp2_with fail
        refine wp_region_held_drew (S := (fun wx => Below V0.heap.size V0 wx)) (by kernel_rfl) ((unhide HB3).drew) (fun hHeld => ?_)
        refine wpAnyH_take (i := 0) (v := ?_) opn0 (by kernel_rfl) (by kernel_rfl) (by kernel_rfl) (fun _ _ _ h => h) (Or.inl ⟨by kernel_rfl, ?_⟩) (by assumption) ?_
        rotate_left 1
        · intro wz hSw
          try dsimp only at hSw
          obtain ⟨_, _, ⟨a0, a1⟩, ⟨e0, e1⟩, _⟩ := (unhide HB) wz hSw
          go_simp
          all_goals with_reducible rfl
        try simp only [Act.put, List.setIfInBounds_toArray, List.set_cons_zero, List.set_cons_succ]
        refine wpAnyH_take (i := 2) (v := ?_) opn2 (by kernel_rfl) (by kernel_rfl) (by kernel_rfl) (fun _ _ _ h => h) (Or.inl ⟨by kernel_rfl, ?_⟩) (by assumption) ?_
        rotate_left 1
        · intro wz hSw
          try dsimp only at hSw
          obtain ⟨_, _, ⟨a0, a1⟩, ⟨e0, e1⟩, _⟩ := (unhide HB) wz hSw
          go_simp
          all_goals with_reducible rfl
        try simp only [Act.put, List.setIfInBounds_toArray, List.set_cons_zero, List.set_cons_succ]
        refine wpAnyH_take (i := 5) (v := ?_) opn5 (by kernel_rfl) (by kernel_rfl) (by kernel_rfl) (fun _ _ _ h => h) (Or.inl ⟨by kernel_rfl, ?_⟩) (by assumption) ?_
        rotate_left 1
        · intro wz hSw
          try dsimp only at hSw
          obtain ⟨_, _, ⟨a0, a1⟩, ⟨e0, e1⟩, _⟩ := (unhide HB) wz hSw
          go_simp
          all_goals with_reducible rfl
        try simp only [Act.put, List.setIfInBounds_toArray, List.set_cons_zero, List.set_cons_succ]
        refine wpAnyH_take (i := 6) (v := ?_) opn6 (by kernel_rfl) (by kernel_rfl) (by kernel_rfl) (fun _ _ _ h => h) (Or.inl ⟨by kernel_rfl, ?_⟩) (by assumption) ?_
        rotate_left 1
        · intro wz hSw
          try dsimp only at hSw
          obtain ⟨_, _, ⟨a0, a1⟩, ⟨e0, e1⟩, _⟩ := (unhide HB) wz hSw
          go_simp
          all_goals with_reducible rfl
        try simp only [Act.put, List.setIfInBounds_toArray, List.set_cons_zero, List.set_cons_succ]
        refine wpAnyH_take (i := 7) (v := .bool bo) opn7 (by kernel_rfl) (by kernel_rfl) (by kernel_rfl) (fun _ _ _ h => h) (Or.inl ⟨by kernel_rfl, ?_⟩) (by assumption) ?_
        · intro wz hSw
          exact lyieldsB rfl (by simp [Act.eval]) (by simp [Act.eval]) ((unhide HE34) wz) (lgd34 _ _ _ _ _ wz (.inr rfl))
        try simp only [Act.put, List.setIfInBounds_toArray, List.set_cons_zero, List.set_cons_succ]
        --@C1@
        refine wpAnyH_ready (rs := [1]) (by kernel_rfl) (by simp) ?_
        refine AllReadyH.cons opn1 (fun K hK => ?_) AllReadyH.nil
        rw [if_pos (by kernel_rfl)]
        go_simp
        refine ((unhide HAN1') _ ((unhide HB) _ hHeld).2.1).mono ?_
        rintro e w4 ⟨rfl, b4⟩
        have hb4 := Below.trans hHeld (b4.mono (Below.size hHeld))
        clear b4
        refine hK.out _ _ hb4 (fun hHeldN => ?_)
        clear hHeld hK K
        have hHeld := hHeldN
        clear hHeldN
        try simp only [Act.put, List.setIfInBounds_toArray, List.set_cons_zero, List.set_cons_succ]
        clear hb4
        --@C2@
        refine wpAnyH_ready (rs := [3]) (by kernel_rfl) (by simp) ?_
        refine AllReadyH.cons opn3 (fun K hK => ?_) AllReadyH.nil
        rw [if_pos (by kernel_rfl)]
        go_simp
        refine ((unhide HAN2') _ ((unhide HB) _ hHeld).2.1).mono ?_
        rintro e w5 ⟨rfl, b5⟩
        have hb5 := Below.trans hHeld (b5.mono (Below.size hHeld))
        have HBE := hide ((unhide HB) _ hb5).1
        clear b5
        refine hK.out _ _ hb5 (fun hHeldN => ?_)
        clear hHeld hK K
        have hHeld := hHeldN
        clear hHeldN
        try simp only [Act.put, List.setIfInBounds_toArray, List.set_cons_zero, List.set_cons_succ]
        clear hb5
        have hbo := unhide HBO
        --@C3@
        refine wpAnyH_take (i := 4) (v := .bool bo) opn4 (by kernel_rfl) (by kernel_rfl) (by kernel_rfl) (fun _ _ _ h => h) (Or.inl ⟨by kernel_rfl, ?_⟩) (by assumption) ?_
        · intro wz hSw
          try dsimp only at hSw
          go_simp
          all_goals with_reducible rfl
        try simp only [Act.put, List.setIfInBounds_toArray, List.set_cons_zero, List.set_cons_succ]
        refine wpAnyH_take (i := 8) (v := .bool true) opn8 (by kernel_rfl) (by kernel_rfl) (by kernel_rfl) (fun _ _ _ h => h) (Or.inl ⟨by kernel_rfl, ?_⟩) (by assumption) ?_
        · intro wz hSw
          try dsimp only at hSw
          cases bo
          · go_simp
            all_goals with_reducible rfl
          · go_simp
            all_goals with_reducible rfl
        try simp only [Act.put, List.setIfInBounds_toArray, List.set_cons_zero, List.set_cons_succ]
        refine wpAnyH_take (i := 9) (v := ?_) opn9 (by kernel_rfl) (by kernel_rfl) (by kernel_rfl) (fun _ _ _ h => h) (Or.inl ⟨by kernel_rfl, ?_⟩) (by assumption) ?_
        rotate_left 1
        · intro wz hSw
          try dsimp only at hSw
          go_simp
          all_goals with_reducible rfl
        try simp only [Act.put, List.setIfInBounds_toArray, List.set_cons_zero, List.set_cons_succ]
        refine wpAnyH_done (by kernel_rfl) ?_ _
        clear hHeld
        --@C4@
        go_wp2
        go_ret
        exact ⟨rfl, unhide HBE⟩

end Go.Proofs.YtkbdaiopahmfiacDoor

namespace Go.Proofs.YtkbdaiopahmfiacDoor
open Go.ChangeShapes Go.WideShapes Go.ChangeAt Go.RowKit Go.Deep Go.Joins
set_option linter.unusedSimpArgs false
set_option linter.unusedVariables false

theorem own0 : ownKnob Tryd.prog.godebug = none := by kernel_rfl
theorem laidOut0 : laidOutB Tryd.prog = true := by kernel_rfl
theorem cells23 : Tryd.prog.cellsOf 23 = 4 := by kernel_rfl
theorem cells3 : Tryd.prog.cellsOf 3 = 1 := by kernel_rfl
theorem cells9 : Tryd.prog.cellsOf 9 = 1 := by kernel_rfl

section
variable {H : Type} {enc : TypeId × Value → H} {w : World} {base : Nat} {spare : Nat → Bool} {held : Bool}

end

end Go.Proofs.YtkbdaiopahmfiacDoor

namespace Go.Proofs.YtkbdaiopahmfiacDoor
open Go.ChangeShapes Go.WideShapes Go.ChangeAt Go.RowKit Go.Deep Go.Joins
set_option linter.unusedSimpArgs false
set_option linter.unusedVariables false

theorem reach48 {s : ByteArray} (h : s.data.toList.length ≤ reachBytes) : s.size ≤ 281474976710656 := by
  have h1 : s.size = s.data.toList.length := by show s.data.size = _; rw [Array.length_toList]
  unfold reachBytes at h
  omega

section
variable {H : Type} {enc : TypeId × Value → H} {w : World} {base : Nat} {spare : Nat → Bool} {held : Bool}

theorem trodS2 {P : Program} {t : TypeId} {f0 f1 : Field} {fuel : Nat} {cs : List Value} {x : DataW H × List MemPlace} (ht : P.underlying t = some (.struct #[f0, f1])) (h : DataW.trod enc P w base spare held fuel t cs = some x) :
    ∃ y0 y1 n, x.1 = .agg [y0.1, y1.1] ∧ cs.length = P.cellsOf t ∧ DataW.trod enc P w base spare held n f0.type ((cs.drop f0.offset).take (P.cellsOf f0.type)) = some y0 ∧ DataW.trod enc P w base spare held n f1.type ((cs.drop f1.offset).take (P.cellsOf f1.type)) = some y1 := by
  obtain ⟨xs, n, _, rfl, hl, hlen, hf⟩ := DataW.trod_struct ht h
  match xs, hlen with
  | [y0, y1], _ => exact ⟨y0, y1, n, rfl, hl, by simpa using hf 0 f0 rfl, by simpa using hf 1 f1 rfl⟩
theorem trodS4 {P : Program} {t : TypeId} {f0 f1 f2 f3 : Field} {fuel : Nat} {cs : List Value} {x : DataW H × List MemPlace} (ht : P.underlying t = some (.struct #[f0, f1, f2, f3])) (h : DataW.trod enc P w base spare held fuel t cs = some x) :
    ∃ y0 y1 y2 y3 n, x.1 = .agg [y0.1, y1.1, y2.1, y3.1] ∧ cs.length = P.cellsOf t ∧ DataW.trod enc P w base spare held n f0.type ((cs.drop f0.offset).take (P.cellsOf f0.type)) = some y0 ∧ DataW.trod enc P w base spare held n f1.type ((cs.drop f1.offset).take (P.cellsOf f1.type)) = some y1 ∧ DataW.trod enc P w base spare held n f2.type ((cs.drop f2.offset).take (P.cellsOf f2.type)) = some y2 ∧ DataW.trod enc P w base spare held n f3.type ((cs.drop f3.offset).take (P.cellsOf f3.type)) = some y3 := by
  obtain ⟨xs, n, _, rfl, hl, hlen, hf⟩ := DataW.trod_struct ht h
  match xs, hlen with
  | [y0, y1, y2, y3], _ => exact ⟨y0, y1, y2, y3, n, rfl, hl, by simpa using hf 0 f0 rfl, by simpa using hf 1 f1 rfl, by simpa using hf 2 f2 rfl, by simpa using hf 3 f3 rfl⟩
set_option maxRecDepth 100000 in
/-- A call's four cells. -/
theorem open_callW {fuel : Nat} {cs : List Value} {x : DataW H × List MemPlace} (h : DataW.trod enc Tryd.prog w base spare held fuel 23 cs = some x) (hw : ∀ n ∈ x.1.weights Tryd.prog 23, n ≤ reachBytes) :
    ∃ c : ACall, cs = [.int .i64 c.kind, .string c.name, .string c.dst, .string c.text] ∧ c.name.size ≤ 281474976710656 ∧ c.dst.size ≤ 281474976710656 ∧ c.text.size ≤ 281474976710656 := by
  obtain ⟨y0, y1, y2, y3, n, hx, hl, h0, h1, h2, h3⟩ := trodS4 Tryd.underlying23 h
  rw [cells23] at hl
  obtain ⟨c0, c1, c2, c3, hcs⟩ := array4 (cs := cs.toArray) (by simpa using hl)
  have hcs : cs = [c0, c1, c2, c3] := by simpa using congrArg Array.toList hcs
  subst hcs
  simp only [cells3, cells9, List.drop, List.take] at h0 h1 h2 h3
  obtain ⟨k, e0, f0, wk⟩ := DataW.trod_int Tryd.underlying3 h0
  obtain ⟨a, e1, f1, wa⟩ := DataW.trod_string Tryd.underlying9 h1
  obtain ⟨b, e2, f2, wb⟩ := DataW.trod_string Tryd.underlying9 h2
  obtain ⟨t, e3, f3, wt⟩ := DataW.trod_string Tryd.underlying9 h3
  simp at e0 e1 e2 e3
  rw [hx] at hw
  subst e0 e1 e2 e3 f0 f1 f2 f3
  simp only [DataW.weights, Tryd.underlying23, List.map, DataW.weightsEach, List.nil_append, List.append_nil, List.mem_append, List.mem_singleton] at hw
  exact ⟨⟨k, a, b, t⟩, rfl, reach48 (hw _ (by simp)), reach48 (hw _ (by simp)), reach48 (hw _ (by simp))⟩

end

end Go.Proofs.YtkbdaiopahmfiacDoor

namespace Go.Proofs.YtkbdaiopahmfiacDoor
open Go.ChangeShapes Go.WideShapes Go.ChangeAt Go.RowKit Go.Deep Go.Joins
set_option linter.unusedSimpArgs false
set_option linter.unusedVariables false

section
variable {H : Type} {enc : TypeId × Value → H} {w : World} {base : Nat} {spare : Nat → Bool} {held : Bool}

end

set_option maxRecDepth 100000 in
/-- A call by value. -/
theorem open_kcallv {H : Type} {enc : TypeId × Value → H} {w : World} {base base' : Nat} {held : Bool} {spare : Nat → Bool} {v : Value} {d : DataW H} {p : List MemPlace} (hv : Value.okWide Tryd.prog w .any base' 23 v) (h : ∃ fuel, DataW.trod enc Tryd.prog w base spare held fuel 23 v.cells.toList = some (d, p)) (hw : ∀ n ∈ d.weights Tryd.prog 23, n ≤ reachBytes) :
    ∃ x : ACall, v = .agg #[.int .i64 x.kind, .string x.name, .string x.dst, .string x.text] ∧ SmallC x := by
  obtain ⟨cells, rfl, hsz⟩ := okWide_struct Tryd.underlying23 hv
  obtain ⟨fuel, hf⟩ := h
  obtain ⟨r, hcs, hs⟩ := open_callW hf hw
  refine ⟨r, ?_, hs⟩
  have : cells.toList = [.int .i64 r.kind, .string r.name, .string r.dst, .string r.text] := hcs
  congr 1
  apply Array.ext'
  simpa using this

end Go.Proofs.YtkbdaiopahmfiacDoor

namespace Go.Proofs.YtkbdaiopahmfiacDoor
open Go.ChangeShapes Go.WideShapes Go.ChangeAt Go.RowKit Go.Deep Go.Joins
set_option linter.unusedSimpArgs false
set_option linter.unusedVariables false

section
variable {H : Type} {enc : TypeId × Value → H}
/-- The wrap that hands on the listed variables and the world's shape. -/
theorem lreturns {a : Assume} {C : Checked} {os : Os} {f : FuncId} {fn : Func} {s : ChangeSpec} {conds : List PathCond} {apart fresh handsOn again : Bool} {laid : List (String × DataW Unit)}
    (own : ownKnob C.prog.godebug = none) (started : os.Started) (noInit : C.prog.inits.idxOf? f = none) (hfn : C.prog.funcs[f]? = some fn)
    (witness : ∃ (w : World) (tape : Tape) (i : Input), w.os = os ∧ (w.forCall tape i).Shaped C.prog ∧ i.vars = [] ∧ Input.okWide C.prog (w.forCall tape i) .any w.heap.size f i ∧
      ((s.pre enc C.prog fn conds apart (w.forCall tape i).memory i.args ∧ laidMetH C.prog laid (w.forCall tape i).memory) ∧ sizedMet enc C.prog fn (OpenSpec.ofChange s) apart (w.forCall tape i).memory i.args) ∧ a.holds C.prog (lone (Frame.enter C.prog f i.args .normal) [] (w.forCall tape i)))
    (contract : ∀ (W : World) (base : Nat) (args : Array Value) (ds gs : List (DataW H)) (before : List MemPlace),
      (∀ (j : Nat) t v, fn.params[j]? = some t → args[j]? = some v → Value.okWide C.prog W .any base t v) →
      DataW.Whole enc C.prog fn.params.toList s.vars apart W args.toList ds gs before →
      (DataW.weightsEach C.prog (fn.params.toList ++ s.plain.varTypes C.prog) (ds ++ gs)).all (· ≤ reachBytes) = true → laidMetH C.prog laid W → W.ShapedOpen C.prog →
      Calls C.prog f args W fun e W' => ∃ v, e = .returned v ∧ s.post enc C.prog fn apart fresh handsOn again W args v W') :
    ReturnsInHanded a C os f .any (fun w args => (s.pre enc C.prog fn conds apart w args ∧ laidMetH C.prog laid w) ∧ sizedMet enc C.prog fn (OpenSpec.ofChange s) apart w args) (s.post enc C.prog fn apart fresh handsOn again) := by
  refine returnsInHanded_of_calls own started noInit witness ?_
  intro w tape i _ hsh _ hok hpre hholds
  obtain ⟨_, _, _, fn', hfn', _, _, _, _, hval⟩ := hok
  have e : fn' = fn := Option.some.inj (hfn'.symm.trans hfn)
  subst e
  obtain ⟨⟨⟨ds, gs, before, hw, hc⟩, hx⟩, hz⟩ := hpre
  have hw' := DataW.Whole.of_heap (w' := w.forCall tape i) (by rfl) hw
  refine (contract (w.forCall tape i) w.heap.size i.args ds gs before hval hw' (hz.weights hw) (hx.of_heap (by rfl)) hsh).mono fun e W' ⟨v, he, hp⟩ => ?_
  subst he
  exact ChangeSpec.post_blind hp
end

/-- A listed table of texts, cell by cell. -/
theorem texts_of_head {P : Program} {W : World} {name : String} {ls : List (List UInt8)} {rest : List (String × DataW Unit)} {g n : Nat} {t e : TypeId}
    (hg : P.globalNamed name = some g) (hty : (P.globals[g]?).map (·.type) = some t) (ht : P.underlying t = some (.array n e)) (he : P.underlying e = some .string) (hce : P.cellsOf e = 1)
    (h : laidMet P ((name, .agg (ls.map fun l => .lit (.string l))) :: rest) W) (i : Nat) (l : List UInt8) (hl : ls[i]? = some l) : W.cell? ⟨g, i, none⟩ = some (.string ⟨l.toArray⟩) := by
  obtain ⟨ps, ⟨g', t', cs, fuel, p, q, hg', ht', hv, hd, _, _⟩, _⟩ := h
  obtain rfl := Option.some.inj (hg.symm.trans hg')
  obtain rfl := Option.some.inj (hty.symm.trans ht')
  obtain ⟨xs, m, _, ex, _, hn, hel⟩ := DataW.trod_array ht hd
  have e3 : (xs.map (·.1)) = ls.map fun l => (DataW.lit (.string l) : DataW Unit) := (DataW.agg.inj (Prod.mk.inj ex).1).symm
  have hil : i < ls.length := (List.getElem?_eq_some_iff.1 hl).1
  have hlen : xs.length = ls.length := by have := congrArg List.length e3; simpa using this
  have hE := hel i (by omega)
  rw [hce, Nat.mul_one, List.getElem?_eq_getElem (by omega)] at hE
  obtain ⟨s, e1, e2, _⟩ := DataW.trod_string he hE
  have e4 : (xs.map (·.1))[i]? = (ls.map fun l => (DataW.lit (.string l) : DataW Unit))[i]? := by rw [e3]
  rw [List.getElem?_map, List.getElem?_map, List.getElem?_eq_getElem (by omega : i < xs.length), hl, e2] at e4
  have hs : s.data.toList = l := by simpa using e4
  rw [World.var?_cell hg hv i]
  have hc : cs.toList[i]? = some (.string s) := by
    have h0 : ((cs.toList.drop i).take 1)[0]? = some (.string s) := by rw [e1]; rfl
    simpa using h0
  have : cs[i]? = some (.string s) := by simpa using hc
  rw [this, ← hs]

abbrev laid6 : List (String × DataW Unit) := [("math/bits.deBruijn32tab", Rows.laid_math_bits_deBruijn32tab), ("math/bits.deBruijn64tab", Rows.laid_math_bits_deBruijn64tab), ("internal/strconv.uint64pow10", Rows.laid_internal_strconv_uint64pow10), ("unicode/utf8.acceptRanges", Rows.laid_unicode_utf8_acceptRanges), ("postilion/line.words", Rows.laid_postilion_line_words), ("unicode/utf8.first", Rows.laid_unicode_utf8_first)]
theorem LW_of {W : World} (h : laidMetH Tryd.prog laid6 W) (hsh : W.ShapedOpen Tryd.prog) : LW W := by
  rw [MakeChecks.laidMetH_plain _ _ _ (by kernel_rfl)] at h
  have h3 := (laidMet.tail (laidMet.tail h))
  have h5 := (laidMet.tail (laidMet.tail h3))
  have hw := texts_of_head (P := Tryd.prog) (name := "postilion/line.words") (ls := [[109, 97, 107, 101], [114, 101, 109, 111, 118, 101], [114, 101, 110, 97, 109, 101], [97, 112, 112, 101, 110, 100], [114, 101, 97, 100], [108, 105, 115, 116]]) (g := 0) (t := 45) (e := 9) (n := 6) (by kernel_rfl) (by kernel_rfl) Tryd.underlying45 Tryd.underlying9 (by kernel_rfl) h5
  refine ⟨⟨hw 0 _ rfl, hw 1 _ rfl, hw 2 _ rfl, hw 3 _ rfl, hw 4 _ rfl, hw 5 _ rfl⟩, Tryd.laysM147.s1_3 W hsh, ?_⟩
  exact Lib.tabIs_of_head (P := Tryd.prog) (k := .u64) (zs := Lib.pow10Tab) (g := 2) (by kernel_rfl) (by kernel_rfl) Tryd.underlying86 Tryd.underlying78 (by kernel_rfl) (by kernel_rfl) h3

section
variable {H : Type} {enc : TypeId × Value → H} {w : World} {base : Nat} {spare : Nat → Bool} {held : Bool}
set_option maxRecDepth 100000 in
/-- An answer by value. -/
theorem open_ansv {base' : Nat} {v : Value} {d : DataW H} {p : List MemPlace} (hv : Value.okWide Tryd.prog w .any base' 25 v) (h : ∃ fuel, DataW.trod enc Tryd.prog w base spare held fuel 25 v.cells.toList = some (d, p)) (hw : ∀ n ∈ d.weights Tryd.prog 25, n ≤ reachBytes) :
    ∃ (c : Int) (u : ByteArray), v = .agg #[.int .i64 c, .string u] ∧ (-9223372036854775808 ≤ c ∧ c ≤ 9223372036854775807) ∧ u.size ≤ 281474976710656 := by
  obtain ⟨cells, rfl, hsz⟩ := okWide_struct Tryd.underlying25 hv
  obtain ⟨fuel, hf⟩ := h
  obtain ⟨y0, y1, n, hx, hl, h0, h1⟩ := trodS2 Tryd.underlying25 hf
  have hcl : Tryd.prog.cellsOf 25 = 2 := by kernel_rfl
  rw [hcl] at hl
  have hl2 : cells.size = 2 := by simpa [Value.cells] using hl
  obtain ⟨c0, c1, hcs⟩ : ∃ c0 c1, cells = #[c0, c1] := by
    obtain ⟨l⟩ := cells
    match l, hl2 with
    | [c0, c1], _ => exact ⟨c0, c1, rfl⟩
  subst hcs
  simp only [Value.cells, cells3, cells9, List.drop, List.take] at h0 h1
  obtain ⟨k, e0, f0, wk⟩ := DataW.trod_int Tryd.underlying3 h0
  obtain ⟨a, e1, f1, wa⟩ := DataW.trod_string Tryd.underlying9 h1
  simp at e0 e1
  dsimp only at hx
  rw [hx] at hw
  subst e0 e1 f0 f1
  simp only [DataW.weights, Tryd.underlying25, List.map, DataW.weightsEach, List.nil_append, List.append_nil, List.mem_append, List.mem_singleton] at hw
  refine ⟨k, a, rfl, ?_, reach48 (hw _ (by simp))⟩
  have := wk
  simp [Lit.wf, IntKind.wrap_i64] at this
  rw [show IntKind.i64.min = -9223372036854775808 from rfl] at this
  exact this
end

end Go.Proofs.YtkbdaiopahmfiacDoor
