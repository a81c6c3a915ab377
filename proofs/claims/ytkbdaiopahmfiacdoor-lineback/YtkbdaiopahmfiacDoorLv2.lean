/- Texts joined, what is needed of them: Lr Open OpenP OpenC Lp. -/
import Derived.Test.YtkbdaiopahmfiacDoorLv1
import Derived.ChangeOld
import Derived.Lay
import Derived.Lib.LaidTab
import Derived.Lib.SmallJoins
import Derived.OpenShut
import Derived.ProofKit
import Derived.ShutString
import Derived.SizedLaws
import Derived.Stop.Joined
import Derived.Stop.LaidErr
import Derived.Test.YtkbdaiopahmfiacDoorTie
namespace Go.Proofs.YtkbdaiopahmfiacDoor
open Go.RowKit
set_option linter.unusedSimpArgs false
set_option linter.unusedVariables false

theorem leql32 (c c' : ACall) (w : World) : (binOp .eql 23 (.agg #[.int .i64 c.kind, .string c.name, .string c.dst, .string c.text]) (.agg #[.int .i64 c'.kind, .string c'.name, .string c'.dst, .string c'.text])).run Tryd.prog w = .ok (.bool (callB c c')) w := eql32 c c' w
theorem lneq32 (c : ACall) (w : World) : (binOp .neq 23 (.agg #[.int .i64 c.kind, .string c.name, .string c.dst, .string c.text]) (.agg #[.int .i64 c.kind, .string c.name, .string c.dst, .string c.text])).run Tryd.prog w = .ok (.bool false) w := by
  have h := equal32 9998 c c w
  unfold callCells at h
  rw [run_neq_struct, h]
  simp
theorem line_same {c d : ACall} (hc : checkI c = 0) (hd : checkI d = 0) : ((B (lineL c)).toList == (B (lineL d)).toList) = callB c d := by
  rw [toList_data, toList_data, B_data, B_data, Bool.eq_iff_iff, callB_iff, beq_iff_eq]
  constructor
  · intro h
    have h1 := parse_line hc
    rw [h, parse_line hd] at h1
    exact (congrArg Prod.fst h1).symm
  · rintro rfl; rfl
theorem parse_none {l : List UInt8} (h : (aParse l).2 ≠ 0) : (aParse l).1 = noCall := by
  unfold aParse at h ⊢
  split
  · rfl
  · rename_i h1
    rw [if_neg h1] at h
    split
    · rfl
    · rename_i h2; rw [if_neg h2] at h; exact absurd rfl h
theorem aLine_zero {c : ACall} (h : checkI c = 0) : aLine c = (lineL c, 0) := by unfold aLine; rw [if_neg (by simpa using h)]
theorem aLine_code {c : ACall} (h : checkI c ≠ 0) : aLine c = ([], checkI c) := by unfold aLine; rw [if_pos h]
theorem aLine_long (x : ACall) : (aLine x).1.length ≤ 1000 := by
  unfold aLine
  by_cases hc : checkI x ≠ 0
  · rw [if_pos hc]; exact Nat.zero_le _
  · rw [if_neg hc]
    have hc0 : checkI x = 0 := by simpa using hc
    have hk := kinds6 hc0
    have e := accL_line x (by omega)
    rw [← e]
    have hf := lflat_len x (offs x.kind) (fld_small hc0)
    have ho := offs_le x.kind
    have hz := wordK_size x.kind
    unfold accL
    rw [List.length_append, bsize]
    show (wordK x.kind).size + _ ≤ 1000
    omega

set_option maxRecDepth 100000 in
set_option maxHeartbeats 8000000 in
theorem lback_walk (c d : ACall) (s : ByteArray) (w : World) (hw : LW w) (c1 : c.name.size ≤ 281474976710656) (c2 : c.dst.size ≤ 281474976710656) (c3 : c.text.size ≤ 281474976710656) (d1 : d.name.size ≤ 281474976710656) (d2 : d.dst.size ≤ 281474976710656) (d3 : d.text.size ≤ 281474976710656) (hs : s.size ≤ maxLen) :
    Calls Tryd.prog 4 #[.agg #[.int .i64 c.kind, .string c.name, .string c.dst, .string c.text], .agg #[.int .i64 d.kind, .string d.name, .string d.dst, .string d.text], .string s] w fun e w' => e = .returned (.bool true) ∧ Below w.heap.size w w' := by
  have HCC := hide (fun W hW => LCall_any c W hW (Nat.le_trans c1 (by decide)) (Nat.le_trans c2 (by decide)) (Nat.le_trans c3 (by decide)))
  have HCD := hide (fun W hW => LCall_any d W hW (Nat.le_trans d1 (by decide)) (Nat.le_trans d2 (by decide)) (Nat.le_trans d3 (by decide)))
  obtain ⟨g1, HG1⟩ := lgreat_fix c
  obtain ⟨g2, HG2⟩ := lgreat_fix d
  have hsB : ((s.size : Int) : Int) ≤ 9223372036854775807 := by unfold maxLen at hs; omega
  obtain ⟨V0, hV0⟩ : ∃ V, V = (w.alloc (.cells #[.int .i64 c.kind, .string c.name, .string c.dst, .string c.text] 23)).alloc (.cells #[.int .i64 d.kind, .string d.name, .string d.dst, .string d.text] 23) := ⟨_, rfl⟩
  have hb0 : Below w.heap.size w V0 := by rw [hV0]; exact ((Below.refl _ _).alloc (Nat.le_refl _) _).alloc (by simp) _
  have hA0 : V0.heap[w.heap.size]? = some (.cells #[.int .i64 c.kind, .string c.name, .string c.dst, .string c.text] 23 (0, 0)) := by rw [hV0, Below.heap_alloc _ _ _ (by simp)]; exact heap_alloc_new _ _
  have hE0 : V0.heap[w.heap.size + 1]? = some (.cells #[.int .i64 d.kind, .string d.name, .string d.dst, .string d.text] 23 (0, 0)) := by
    rw [hV0]
    have := heap_alloc_new (w.alloc (.cells #[.int .i64 c.kind, .string c.name, .string c.dst, .string c.text] 23)) (.cells #[.int .i64 d.kind, .string d.name, .string d.dst, .string d.text] 23)
    rwa [al_size] at this
  have hlt : w.heap.size + 1 < V0.heap.size := (Array.getElem?_eq_some_iff.1 hE0).1
  have hB : ∀ W, Below V0.heap.size V0 W → Below w.heap.size w W ∧ LW W ∧ (W.cell? ⟨w.heap.size, 0, none⟩ = some (.int .i64 c.kind) ∧ W.cell? ⟨w.heap.size, 1, none⟩ = some (.string c.name) ∧ W.cell? ⟨w.heap.size, 2, none⟩ = some (.string c.dst) ∧ W.cell? ⟨w.heap.size, 3, none⟩ = some (.string c.text)) ∧ (W.cell? ⟨w.heap.size + 1, 0, none⟩ = some (.int .i64 d.kind) ∧ W.cell? ⟨w.heap.size + 1, 1, none⟩ = some (.string d.name) ∧ W.cell? ⟨w.heap.size + 1, 2, none⟩ = some (.string d.dst) ∧ W.cell? ⟨w.heap.size + 1, 3, none⟩ = some (.string d.text)) := fun W hW => by
    obtain ⟨a0, a1, a2, a3, _⟩ := fourK ((hW.block _ (by omega)).trans hA0)
    obtain ⟨e0, e1, e2, e3, _⟩ := fourK ((hW.block _ (by omega)).trans hE0)
    exact ⟨hb0.trans (hW.mono (by omega)), (hw.below hb0).below hW, ⟨a0, a1, a2, a3⟩, ⟨e0, e1, e2, e3⟩⟩
  have HB := hide hB
  have HW0 := hide (hw.below hb0)
  have HV0 := hide hV0
  obtain ⟨l, hl⟩ : ∃ l, s.data.toList = l := ⟨_, rfl⟩
  have HL : Hid (s.toList = l) := hide (by rw [toList_data]; exact hl)
  have HLP := hide (parse_line (c := c))
  have HLS := hide (line_same (c := c) (d := d))
  have HLC : Hid (if checkI c = 0 then aLine c = (lineL c, 0) else aLine c = ([], checkI c)) := hide (by
    split
    · rename_i h; exact aLine_zero h
    · rename_i h; exact aLine_code h)
  have HLD : Hid (if checkI d = 0 then aLine d = (lineL d, 0) else aLine d = ([], checkI d)) := hide (by
    split
    · rename_i h; exact aLine_zero h
    · rename_i h; exact aLine_code h)
  have HPS : Hid (s.size ≤ 1000 → ∀ W, LW W → Calls Tryd.prog 10 #[.string s] W fun e w' => e = .returned (.tuple #[.agg #[.int .i64 (aParse l).1.kind, .string (aParse l).1.name, .string (aParse l).1.dst, .string (aParse l).1.text], .int .i64 (aParse l).2]) ∧ Below W.heap.size W w') := hide fun h W hW => by
    have := Parse_any s W hW (by omega)
    rw [hl] at this
    exact this
  have HPL : Hid (checkI c = 0 → ∀ W, LW W → Calls Tryd.prog 10 #[.string (B (lineL c))] W fun e w' => e = .returned (.tuple #[.agg #[.int .i64 c.kind, .string c.name, .string c.dst, .string c.text], .int .i64 0]) ∧ Below W.heap.size W w') := hide fun h W hW => by
    have hlen := aLine_long c
    rw [aLine_zero h] at hlen
    have := Parse_any (B (lineL c)) W hW (by rw [lB_size]; dsimp only at hlen; omega)
    rw [B_data, parse_line h] at this
    exact this
  have HZ0 := hide (parse_none (l := l))
  have HZ1 : Hid ((aParse l).2 = 0 → ∀ W, LW W → Calls Tryd.prog 8 #[.agg #[.int .i64 (aParse l).1.kind, .string (aParse l).1.name, .string (aParse l).1.dst, .string (aParse l).1.text]] W fun e w' => e = .returned (.tuple #[.string s, .int .i64 0]) ∧ Below W.heap.size W w') := hide fun h W hW => by
    obtain ⟨h1, h2⟩ := line_parse h
    have hz := check_zero h1
    have hb : ∀ x : ByteArray, x.size ≤ l.length → x.size ≤ maxLen := fun x hx => by
      have : l.length = s.size := by rw [← hl, bsize]
      omega
    have hll : ∀ x, x ∈ pcs l → x.length ≤ l.length := pcs_short l
    have hr := aRead_facts hll
    have hpr := parse_read l
    have e : (aParse l).1 = (aRead (pcs l)).1 := by
      rw [hpr] at h ⊢
      split at h
      · cases h
      · rename_i h5
        split at h
        · rename_i h6; exact absurd h h6
        · rename_i h6
          rw [if_neg h5, if_neg h6]
    have := LCall_any (aParse l).1 W hW (hb _ (by rw [e]; exact hr.2.1)) (hb _ (by rw [e]; exact hr.2.2.1)) (hb _ (by rw [e]; exact hr.2.2.2))
    rw [aLine_zero h1, h2, ← hl, data_B] at this
    rw [hl] at this
    exact this
  obtain ⟨Q, hQ⟩ : ∃ Q, aParse l = Q := ⟨_, rfl⟩
  rw [hQ] at HPS HZ0 HZ1
  obtain ⟨z, gz⟩ := Q
  dsimp only at HPS HZ0 HZ1
  have HE0 : Hid (∀ W, (binOp .eql 23 (.agg #[.int .i64 c.kind, .string c.name, .string c.dst, .string c.text]) (.agg #[.int .i64 d.kind, .string d.name, .string d.dst, .string d.text])).run Tryd.prog W = .ok (.bool (callB c d)) W) := hide fun W => leql32 c d W
  have HN0 : Hid (∀ W, (binOp .neq 23 (.agg #[.int .i64 c.kind, .string c.name, .string c.dst, .string c.text]) (.agg #[.int .i64 c.kind, .string c.name, .string c.dst, .string c.text])).run Tryd.prog W = .ok (.bool false) W) := hide fun W => lneq32 c W
  have HZE : Hid (∀ W, (binOp .eql 23 (.agg #[.int .i64 0, .string ⟨#[]⟩, .string ⟨#[]⟩, .string ⟨#[]⟩]) (.agg #[.int .i64 0, .string ⟨#[]⟩, .string ⟨#[]⟩, .string ⟨#[]⟩])).run Tryd.prog W = .ok (.bool true) W) := hide fun W => by
    have := leql32 noCall noCall W
    rw [callB_self] at this
    exact this
  have HCB : Hid ((callB c d = true → c = d) ∧ (callB c d = false → ¬ (c.kind = d.kind ∧ c.name.toList = d.name.toList ∧ c.dst.toList = d.dst.toList ∧ c.text.toList = d.text.toList))) := hide ⟨(callB_iff c d).1, fun h hh => by
    unfold callB at h
    simp [hh.1, hh.2.1, hh.2.2.1, hh.2.2.2] at h⟩
  generalize callB c d = cd at *
  obtain ⟨mc, hmc⟩ : ∃ x, B (lineL c) = x := ⟨_, rfl⟩
  obtain ⟨md, hmd⟩ : ∃ x, B (lineL d) = x := ⟨_, rfl⟩
  rw [hmc, hmd] at HLS
  rw [hmc] at HPL
  obtain ⟨kc, hkc⟩ : ∃ x, checkI c = x := ⟨_, rfl⟩
  obtain ⟨kd, hkd⟩ : ∃ x, checkI d = x := ⟨_, rfl⟩
  rw [hkc, hkd] at HLS
  rw [hkc] at HPL HLC
  rw [hkd] at HLD
  have HMC := hide hmc
  have HMD := hide hmd
  have HZE2 : Hid (s.toList = s.toList) := rfl
  clear hw hb0 hV0 hA0 hE0 hB c1 c2 c3 d1 d2 d3 hl hQ hmc hmd hkc hkd hs HLP HL
  obtain ⟨k, na, nb, nc⟩ := c
  obtain ⟨k', na', nb', nc'⟩ := d
  dsimp only at *
  go_enter Tryd.func4, Tryd.ntmps4
  go_wp2_with fail
  rw [← unhide HV0]
  refine (lineBegun_any V0 (unhide HW0)).mono ?_
  rintro e w1 ⟨rfl, b1⟩
  obtain ⟨_, lw1, ⟨a0, a1, a2, a3⟩, _⟩ := (unhide HB) w1 b1
  have HB1 := hide b1
  clear b1 lw1
  --@A1@
  go_wp2_with fail
  refine (HG1 w1).mono ?_
  rintro e w2 ⟨rfl, b2⟩
  clear a0 a1 a2 a3
  have hb2 := (unhide HB1).trans (b2.mono (unhide HB1).size)
  obtain ⟨be2, _, _, ⟨e0, e1, e2, e3⟩⟩ := (unhide HB) w2 hb2
  have HBE2 := hide be2
  have HB2 := hide hb2
  clear b2 hb2 be2 HG1 HB1
  cases g1 with
  | true =>
    --@A2@
    go_wp2
    go_ret
    exact ⟨rfl, unhide HBE2⟩
  | false =>
    --@A3@
    go_wp2_with fail
    refine (HG2 w2).mono ?_
    rintro e w3 ⟨rfl, b3⟩
    clear e0 e1 e2 e3
    have hb3 := (unhide HB2).trans (b3.mono (unhide HB2).size)
    obtain ⟨be3, lw3, ⟨a0, a1, a2, a3⟩, _⟩ := (unhide HB) w3 hb3
    have HBE3 := hide be3
    have HB3 := hide hb3
    have HLW3 := hide lw3
    clear b3 hb3 be3 lw3 HG2 HB2 HBE2
    cases g2 with
    | true =>
      --@A4@
      go_wp2
      go_ret
      exact ⟨rfl, unhide HBE3⟩
    | false =>
      by_cases hg : (1000 : Int) < (s.size : Int)
      · --@A5@
        go_wp2
        go_ret
        exact ⟨rfl, unhide HBE3⟩
      · have HPS' := hide ((unhide HPS) (by omega))
        have HCC' : Hid (∀ W, LW W → Calls Tryd.prog 8 #[.agg #[.int .i64 k, .string na, .string nb, .string nc]] W fun e w' => (e = .returned (.tuple #[.string (if kc = 0 then mc else ⟨#[]⟩), .int .i64 kc])) ∧ Below W.heap.size W w') := hide fun W hW => by
          have h1 := (unhide HCC) W hW
          have h2 := unhide HLC
          by_cases h : kc = 0
          · rw [if_pos h] at h2 ⊢; rw [h2, unhide HMC] at h1; rw [h]; exact h1
          · rw [if_neg h] at h2 ⊢; rw [h2] at h1; exact h1
        have HCD' : Hid (∀ W, LW W → Calls Tryd.prog 8 #[.agg #[.int .i64 k', .string na', .string nb', .string nc']] W fun e w' => (e = .returned (.tuple #[.string (if kd = 0 then md else ⟨#[]⟩), .int .i64 kd])) ∧ Below W.heap.size W w') := hide fun W hW => by
          have h1 := (unhide HCD) W hW
          have h2 := unhide HLD
          by_cases h : kd = 0
          · rw [if_pos h] at h2 ⊢; rw [h2, unhide HMD] at h1; rw [h]; exact h1
          · rw [if_neg h] at h2 ⊢; rw [h2] at h1; exact h1
        clear HPS HCC HCD HLC HLD HMC HMD
        obtain ⟨mc', hmc'⟩ : ∃ x, (if kc = 0 then mc else ⟨#[]⟩) = x := ⟨_, rfl⟩
        obtain ⟨md', hmd'⟩ : ∃ x, (if kd = 0 then md else ⟨#[]⟩) = x := ⟨_, rfl⟩
        rw [hmc'] at HCC'
        rw [hmd'] at HCD'
        have HMC := hide hmc'
        have HMD := hide hmd'
        clear hmc' hmd'
        --@A6@
        go_wp2_with fail
        refine ((unhide HCC') w3 (unhide HLW3)).mono ?_
        rintro e w4 ⟨rfl, b4⟩
        clear a0 a1 a2 a3
        have hb4 := (unhide HB3).trans (b4.mono (unhide HB3).size)
        obtain ⟨_, lw4, _, ⟨e0, e1, e2, e3⟩⟩ := (unhide HB) w4 hb4
        have HB4 := hide hb4
        have HLW4 := hide lw4
        clear b4 hb4 lw4 HB3 HLW3 HBE3 HCC'
        --@A7@
        go_wp2_with fail
        refine ((unhide HCD') w4 (unhide HLW4)).mono ?_
        rintro e w5 ⟨rfl, b5⟩
        clear e0 e1 e2 e3
        have hb5 := (unhide HB4).trans (b5.mono (unhide HB4).size)
        obtain ⟨_, lw5, _, _⟩ := (unhide HB) w5 hb5
        have HB5 := hide hb5
        have HLW5 := hide lw5
        clear b5 hb5 lw5 HB4 HLW4 HCD' hg
        by_cases hkc : kc = 0
        · subst hkc
          have hmc := unhide HMC
          rw [if_pos rfl] at hmc
          subst hmc
          have HPL' := hide ((unhide HPL) rfl)
          clear HPL HMC
          --@B1@
          go_wp2_with fail
          refine ((unhide HPL') w5 (unhide HLW5)).mono ?_
          rintro e w6 ⟨rfl, b6⟩
          have hb6 := (unhide HB5).trans (b6.mono (unhide HB5).size)
          obtain ⟨V6, hV6⟩ : ∃ V, V = w6.alloc (.cells #[.int .i64 k, .string na, .string nb, .string nc] 23) := ⟨_, rfl⟩
          have hbV : Below V0.heap.size V0 V6 := by rw [hV6]; exact hb6.alloc hb6.size _
          have hZ : V6.heap[w6.heap.size]? = some (.cells #[.int .i64 k, .string na, .string nb, .string nc] 23 (0, 0)) := by rw [hV6]; exact heap_alloc_new _ _
          obtain ⟨_, lwV, ⟨a0, a1, a2, a3⟩, ⟨e0, e1, e2, e3⟩⟩ := (unhide HB) V6 hbV
          obtain ⟨y0, y1, y2, y3, _⟩ := fourK hZ
          rw [hV6] at a0 a1 a2 a3 e0 e1 e2 e3 y0 y1 y2 y3
          have HBV := hide hbV
          have HLWV := hide lwV
          have HV6 := hide hV6
          clear b6 hb6 hV6 hbV hZ lwV HPL' HB5 HLW5
          by_cases hkd : kd = 0
          · subst hkd
            have hmd := unhide HMD
            rw [if_pos rfl] at hmd
            subst hmd
            have hls : (mc.toList == md.toList) = cd := by first | exact (unhide HLS) rfl rfl | exact (unhide HLS) trivial rfl | exact (unhide HLS) trivial trivial
            clear HLS HMD
            cases cd with
            | true =>
              have hcd := (unhide HCB).1 (by first | rfl | trivial)
              injection hcd with q1 q2 q3 q4
              subst q1 q2 q3 q4
              clear HCB
              --@B2@
              go_wp2_with fail
              rw [← unhide HV6]
              clear a0 a1 a2 a3 e0 e1 e2 e3 y0 y1 y2 y3
              refine ((unhide HPS') V6 (unhide HLWV)).mono ?_
              rintro e w7 ⟨rfl, b7⟩
              have hb7 := (unhide HBV).trans (b7.mono (unhide HBV).size)
              obtain ⟨V7, hV7⟩ : ∃ V, V = w7.alloc (.cells #[.int .i64 z.kind, .string z.name, .string z.dst, .string z.text] 23) := ⟨_, rfl⟩
              have hbV7 : Below V0.heap.size V0 V7 := by rw [hV7]; exact hb7.alloc hb7.size _
              have hZ7 : V7.heap[w7.heap.size]? = some (.cells #[.int .i64 z.kind, .string z.name, .string z.dst, .string z.text] 23 (0, 0)) := by rw [hV7]; exact heap_alloc_new _ _
              obtain ⟨beV, lwV7, _⟩ := (unhide HB) V7 hbV7
              obtain ⟨y0, y1, y2, y3, _⟩ := fourK hZ7
              rw [hV7] at y0 y1 y2 y3
              have HBEV := hide beV
              have HBV7 := hide hbV7
              have HLV7 := hide lwV7
              have HV7 := hide hV7
              clear b7 hb7 hbV7 hZ7 beV lwV7 hV7
              by_cases hgz : gz = 0
              · subst hgz
                have HZ1' := hide ((unhide HZ1) rfl)
                have hst : (s.toList == s.toList) = true := by simp
                clear HZ1 HZ0
                --@C1@
                go_wp2_with fail
                rw [← unhide HV7]
                refine ((unhide HZ1') V7 (unhide HLV7)).mono ?_
                rintro e w8 ⟨rfl, b8⟩
                obtain ⟨be8, _⟩ := (unhide HB) w8 ((unhide HBV7).trans (b8.mono (unhide HBV7).size))
                have HBE8 := hide be8
                clear b8 be8 y0 y1 y2 y3
                go_wp2
                go_ret
                exact ⟨rfl, unhide HBE8⟩
              · have hzz := (unhide HZ0) hgz
                subst hzz
                have hgb : (gz != 0) = true := by simpa using hgz
                have hze := (unhide HZE) (w7.alloc (.cells #[.int .i64 noCall.kind, .string noCall.name, .string noCall.dst, .string noCall.text] 23))
                rw [unhide HV7] at HBEV
                unfold noCall at *
                dsimp only at *
                clear HZ1 HZ0 hgz
                --@C2@
                go_wp2
                go_ret
                exact ⟨rfl, unhide HBEV⟩
            | false =>
              have hcd := (unhide HCB).2 (by first | rfl | trivial)
              clear HCB
              by_cases q1 : k = k'
              · by_cases q2 : na.toList = na'.toList
                · by_cases q3 : nb.toList = nb'.toList
                  · have q4 : ¬ nc.toList = nc'.toList := fun h => hcd ⟨q1, q2, q3, h⟩
                    clear hcd
                    subst q1
                    --@B3@
                    go_wp2_with fail
                    rw [← unhide HV6]
                    clear a0 a1 a2 a3 e0 e1 e2 e3 y0 y1 y2 y3
                    refine ((unhide HPS') V6 (unhide HLWV)).mono ?_
                    rintro e w7 ⟨rfl, b7⟩
                    have hb7 := (unhide HBV).trans (b7.mono (unhide HBV).size)
                    obtain ⟨V7, hV7⟩ : ∃ V, V = w7.alloc (.cells #[.int .i64 z.kind, .string z.name, .string z.dst, .string z.text] 23) := ⟨_, rfl⟩
                    have hbV7 : Below V0.heap.size V0 V7 := by rw [hV7]; exact hb7.alloc hb7.size _
                    have hZ7 : V7.heap[w7.heap.size]? = some (.cells #[.int .i64 z.kind, .string z.name, .string z.dst, .string z.text] 23 (0, 0)) := by rw [hV7]; exact heap_alloc_new _ _
                    obtain ⟨beV, lwV7, _⟩ := (unhide HB) V7 hbV7
                    obtain ⟨y0, y1, y2, y3, _⟩ := fourK hZ7
                    rw [hV7] at y0 y1 y2 y3
                    have HBEV := hide beV
                    have HBV7 := hide hbV7
                    have HLV7 := hide lwV7
                    have HV7 := hide hV7
                    clear b7 hb7 hbV7 hZ7 beV lwV7 hV7
                    by_cases hgz : gz = 0
                    · subst hgz
                      have HZ1' := hide ((unhide HZ1) rfl)
                      have hst : (s.toList == s.toList) = true := by simp
                      clear HZ1 HZ0
                      --@C1@
                      go_wp2_with fail
                      rw [← unhide HV7]
                      refine ((unhide HZ1') V7 (unhide HLV7)).mono ?_
                      rintro e w8 ⟨rfl, b8⟩
                      obtain ⟨be8, _⟩ := (unhide HB) w8 ((unhide HBV7).trans (b8.mono (unhide HBV7).size))
                      have HBE8 := hide be8
                      clear b8 be8 y0 y1 y2 y3
                      go_wp2
                      go_ret
                      exact ⟨rfl, unhide HBE8⟩
                    · have hzz := (unhide HZ0) hgz
                      subst hzz
                      have hgb : (gz != 0) = true := by simpa using hgz
                      have hze := (unhide HZE) (w7.alloc (.cells #[.int .i64 noCall.kind, .string noCall.name, .string noCall.dst, .string noCall.text] 23))
                      rw [unhide HV7] at HBEV
                      unfold noCall at *
                      dsimp only at *
                      clear HZ1 HZ0 hgz
                      --@C2@
                      go_wp2
                      go_ret
                      exact ⟨rfl, unhide HBEV⟩
                  · clear hcd
                    subst q1
                    --@B6@
                    go_wp2_with fail
                    rw [← unhide HV6]
                    clear a0 a1 a2 a3 e0 e1 e2 e3 y0 y1 y2 y3
                    refine ((unhide HPS') V6 (unhide HLWV)).mono ?_
                    rintro e w7 ⟨rfl, b7⟩
                    have hb7 := (unhide HBV).trans (b7.mono (unhide HBV).size)
                    obtain ⟨V7, hV7⟩ : ∃ V, V = w7.alloc (.cells #[.int .i64 z.kind, .string z.name, .string z.dst, .string z.text] 23) := ⟨_, rfl⟩
                    have hbV7 : Below V0.heap.size V0 V7 := by rw [hV7]; exact hb7.alloc hb7.size _
                    have hZ7 : V7.heap[w7.heap.size]? = some (.cells #[.int .i64 z.kind, .string z.name, .string z.dst, .string z.text] 23 (0, 0)) := by rw [hV7]; exact heap_alloc_new _ _
                    obtain ⟨beV, lwV7, _⟩ := (unhide HB) V7 hbV7
                    obtain ⟨y0, y1, y2, y3, _⟩ := fourK hZ7
                    rw [hV7] at y0 y1 y2 y3
                    have HBEV := hide beV
                    have HBV7 := hide hbV7
                    have HLV7 := hide lwV7
                    have HV7 := hide hV7
                    clear b7 hb7 hbV7 hZ7 beV lwV7 hV7
                    by_cases hgz : gz = 0
                    · subst hgz
                      have HZ1' := hide ((unhide HZ1) rfl)
                      have hst : (s.toList == s.toList) = true := by simp
                      clear HZ1 HZ0
                      --@C1@
                      go_wp2_with fail
                      rw [← unhide HV7]
                      refine ((unhide HZ1') V7 (unhide HLV7)).mono ?_
                      rintro e w8 ⟨rfl, b8⟩
                      obtain ⟨be8, _⟩ := (unhide HB) w8 ((unhide HBV7).trans (b8.mono (unhide HBV7).size))
                      have HBE8 := hide be8
                      clear b8 be8 y0 y1 y2 y3
                      go_wp2
                      go_ret
                      exact ⟨rfl, unhide HBE8⟩
                    · have hzz := (unhide HZ0) hgz
                      subst hzz
                      have hgb : (gz != 0) = true := by simpa using hgz
                      have hze := (unhide HZE) (w7.alloc (.cells #[.int .i64 noCall.kind, .string noCall.name, .string noCall.dst, .string noCall.text] 23))
                      rw [unhide HV7] at HBEV
                      unfold noCall at *
                      dsimp only at *
                      clear HZ1 HZ0 hgz
                      --@C2@
                      go_wp2
                      go_ret
                      exact ⟨rfl, unhide HBEV⟩
                · clear hcd
                  subst q1
                  --@B7@
                  go_wp2_with fail
                  rw [← unhide HV6]
                  clear a0 a1 a2 a3 e0 e1 e2 e3 y0 y1 y2 y3
                  refine ((unhide HPS') V6 (unhide HLWV)).mono ?_
                  rintro e w7 ⟨rfl, b7⟩
                  have hb7 := (unhide HBV).trans (b7.mono (unhide HBV).size)
                  obtain ⟨V7, hV7⟩ : ∃ V, V = w7.alloc (.cells #[.int .i64 z.kind, .string z.name, .string z.dst, .string z.text] 23) := ⟨_, rfl⟩
                  have hbV7 : Below V0.heap.size V0 V7 := by rw [hV7]; exact hb7.alloc hb7.size _
                  have hZ7 : V7.heap[w7.heap.size]? = some (.cells #[.int .i64 z.kind, .string z.name, .string z.dst, .string z.text] 23 (0, 0)) := by rw [hV7]; exact heap_alloc_new _ _
                  obtain ⟨beV, lwV7, _⟩ := (unhide HB) V7 hbV7
                  obtain ⟨y0, y1, y2, y3, _⟩ := fourK hZ7
                  rw [hV7] at y0 y1 y2 y3
                  have HBEV := hide beV
                  have HBV7 := hide hbV7
                  have HLV7 := hide lwV7
                  have HV7 := hide hV7
                  clear b7 hb7 hbV7 hZ7 beV lwV7 hV7
                  by_cases hgz : gz = 0
                  · subst hgz
                    have HZ1' := hide ((unhide HZ1) rfl)
                    have hst : (s.toList == s.toList) = true := by simp
                    clear HZ1 HZ0
                    --@C1@
                    go_wp2_with fail
                    rw [← unhide HV7]
                    refine ((unhide HZ1') V7 (unhide HLV7)).mono ?_
                    rintro e w8 ⟨rfl, b8⟩
                    obtain ⟨be8, _⟩ := (unhide HB) w8 ((unhide HBV7).trans (b8.mono (unhide HBV7).size))
                    have HBE8 := hide be8
                    clear b8 be8 y0 y1 y2 y3
                    go_wp2
                    go_ret
                    exact ⟨rfl, unhide HBE8⟩
                  · have hzz := (unhide HZ0) hgz
                    subst hzz
                    have hgb : (gz != 0) = true := by simpa using hgz
                    have hze := (unhide HZE) (w7.alloc (.cells #[.int .i64 noCall.kind, .string noCall.name, .string noCall.dst, .string noCall.text] 23))
                    rw [unhide HV7] at HBEV
                    unfold noCall at *
                    dsimp only at *
                    clear HZ1 HZ0 hgz
                    --@C2@
                    go_wp2
                    go_ret
                    exact ⟨rfl, unhide HBEV⟩
              · clear hcd
                --@B8@
                go_wp2_with fail
                rw [← unhide HV6]
                clear a0 a1 a2 a3 e0 e1 e2 e3 y0 y1 y2 y3
                refine ((unhide HPS') V6 (unhide HLWV)).mono ?_
                rintro e w7 ⟨rfl, b7⟩
                have hb7 := (unhide HBV).trans (b7.mono (unhide HBV).size)
                obtain ⟨V7, hV7⟩ : ∃ V, V = w7.alloc (.cells #[.int .i64 z.kind, .string z.name, .string z.dst, .string z.text] 23) := ⟨_, rfl⟩
                have hbV7 : Below V0.heap.size V0 V7 := by rw [hV7]; exact hb7.alloc hb7.size _
                have hZ7 : V7.heap[w7.heap.size]? = some (.cells #[.int .i64 z.kind, .string z.name, .string z.dst, .string z.text] 23 (0, 0)) := by rw [hV7]; exact heap_alloc_new _ _
                obtain ⟨beV, lwV7, _⟩ := (unhide HB) V7 hbV7
                obtain ⟨y0, y1, y2, y3, _⟩ := fourK hZ7
                rw [hV7] at y0 y1 y2 y3
                have HBEV := hide beV
                have HBV7 := hide hbV7
                have HLV7 := hide lwV7
                have HV7 := hide hV7
                clear b7 hb7 hbV7 hZ7 beV lwV7 hV7
                by_cases hgz : gz = 0
                · subst hgz
                  have HZ1' := hide ((unhide HZ1) rfl)
                  have hst : (s.toList == s.toList) = true := by simp
                  clear HZ1 HZ0
                  --@C1@
                  go_wp2_with fail
                  rw [← unhide HV7]
                  refine ((unhide HZ1') V7 (unhide HLV7)).mono ?_
                  rintro e w8 ⟨rfl, b8⟩
                  obtain ⟨be8, _⟩ := (unhide HB) w8 ((unhide HBV7).trans (b8.mono (unhide HBV7).size))
                  have HBE8 := hide be8
                  clear b8 be8 y0 y1 y2 y3
                  go_wp2
                  go_ret
                  exact ⟨rfl, unhide HBE8⟩
                · have hzz := (unhide HZ0) hgz
                  subst hzz
                  have hgb : (gz != 0) = true := by simpa using hgz
                  have hze := (unhide HZE) (w7.alloc (.cells #[.int .i64 noCall.kind, .string noCall.name, .string noCall.dst, .string noCall.text] 23))
                  rw [unhide HV7] at HBEV
                  unfold noCall at *
                  dsimp only at *
                  clear HZ1 HZ0 hgz
                  --@C2@
                  go_wp2
                  go_ret
                  exact ⟨rfl, unhide HBEV⟩
          · have hkb : (kd == 0) = false := by simpa using hkd
            clear HLS HMD hkd
            --@B4@
            go_wp2_with fail
            rw [← unhide HV6]
            clear a0 a1 a2 a3 e0 e1 e2 e3 y0 y1 y2 y3
            refine ((unhide HPS') V6 (unhide HLWV)).mono ?_
            rintro e w7 ⟨rfl, b7⟩
            have hb7 := (unhide HBV).trans (b7.mono (unhide HBV).size)
            obtain ⟨V7, hV7⟩ : ∃ V, V = w7.alloc (.cells #[.int .i64 z.kind, .string z.name, .string z.dst, .string z.text] 23) := ⟨_, rfl⟩
            have hbV7 : Below V0.heap.size V0 V7 := by rw [hV7]; exact hb7.alloc hb7.size _
            have hZ7 : V7.heap[w7.heap.size]? = some (.cells #[.int .i64 z.kind, .string z.name, .string z.dst, .string z.text] 23 (0, 0)) := by rw [hV7]; exact heap_alloc_new _ _
            obtain ⟨beV, lwV7, _⟩ := (unhide HB) V7 hbV7
            obtain ⟨y0, y1, y2, y3, _⟩ := fourK hZ7
            rw [hV7] at y0 y1 y2 y3
            have HBEV := hide beV
            have HBV7 := hide hbV7
            have HLV7 := hide lwV7
            have HV7 := hide hV7
            clear b7 hb7 hbV7 hZ7 beV lwV7 hV7
            by_cases hgz : gz = 0
            · subst hgz
              have HZ1' := hide ((unhide HZ1) rfl)
              have hst : (s.toList == s.toList) = true := by simp
              clear HZ1 HZ0
              --@C1@
              go_wp2_with fail
              rw [← unhide HV7]
              refine ((unhide HZ1') V7 (unhide HLV7)).mono ?_
              rintro e w8 ⟨rfl, b8⟩
              obtain ⟨be8, _⟩ := (unhide HB) w8 ((unhide HBV7).trans (b8.mono (unhide HBV7).size))
              have HBE8 := hide be8
              clear b8 be8 y0 y1 y2 y3
              go_wp2
              go_ret
              exact ⟨rfl, unhide HBE8⟩
            · have hzz := (unhide HZ0) hgz
              subst hzz
              have hgb : (gz != 0) = true := by simpa using hgz
              have hze := (unhide HZE) (w7.alloc (.cells #[.int .i64 noCall.kind, .string noCall.name, .string noCall.dst, .string noCall.text] 23))
              rw [unhide HV7] at HBEV
              unfold noCall at *
              dsimp only at *
              clear HZ1 HZ0 hgz
              --@C2@
              go_wp2
              go_ret
              exact ⟨rfl, unhide HBEV⟩
        · have hkb : (kc == 0) = false := by simpa using hkc
          clear hkc HPL HLS HMC HMD
          --@B5@
          go_wp2_with fail
          refine ((unhide HPS') w5 (unhide HLW5)).mono ?_
          rintro e w7 ⟨rfl, b7⟩
          have hb7 := (unhide HB5).trans (b7.mono (unhide HB5).size)
          obtain ⟨V7, hV7⟩ : ∃ V, V = w7.alloc (.cells #[.int .i64 z.kind, .string z.name, .string z.dst, .string z.text] 23) := ⟨_, rfl⟩
          have hbV7 : Below V0.heap.size V0 V7 := by rw [hV7]; exact hb7.alloc hb7.size _
          have hZ7 : V7.heap[w7.heap.size]? = some (.cells #[.int .i64 z.kind, .string z.name, .string z.dst, .string z.text] 23 (0, 0)) := by rw [hV7]; exact heap_alloc_new _ _
          obtain ⟨beV, lwV7, _⟩ := (unhide HB) V7 hbV7
          obtain ⟨y0, y1, y2, y3, _⟩ := fourK hZ7
          rw [hV7] at y0 y1 y2 y3
          have HBEV := hide beV
          have HBV7 := hide hbV7
          have HLV7 := hide lwV7
          have HV7 := hide hV7
          clear b7 hb7 hbV7 hZ7 beV lwV7 hV7
          by_cases hgz : gz = 0
          · subst hgz
            have HZ1' := hide ((unhide HZ1) rfl)
            have hst : (s.toList == s.toList) = true := by simp
            clear HZ1 HZ0
            --@C1@
            go_wp2_with fail
            rw [← unhide HV7]
            refine ((unhide HZ1') V7 (unhide HLV7)).mono ?_
            rintro e w8 ⟨rfl, b8⟩
            obtain ⟨be8, _⟩ := (unhide HB) w8 ((unhide HBV7).trans (b8.mono (unhide HBV7).size))
            have HBE8 := hide be8
            clear b8 be8 y0 y1 y2 y3
            go_wp2
            go_ret
            exact ⟨rfl, unhide HBE8⟩
          · have hzz := (unhide HZ0) hgz
            subst hzz
            have hgb : (gz != 0) = true := by simpa using hgz
            have hze := (unhide HZE) (w7.alloc (.cells #[.int .i64 noCall.kind, .string noCall.name, .string noCall.dst, .string noCall.text] 23))
            rw [unhide HV7] at HBEV
            unfold noCall at *
            dsimp only at *
            clear HZ1 HZ0 hgz
            --@C2@
            go_wp2
            go_ret
            exact ⟨rfl, unhide HBEV⟩

end Go.Proofs.YtkbdaiopahmfiacDoor

namespace Go.Proofs.YtkbdaiopahmfiacDoor
open Go.ChangeShapes Go.WideShapes Go.ChangeAt Go.RowKit Go.Deep Go.Joins
set_option linter.unusedSimpArgs false
set_option linter.unusedVariables false

theorem own0 : ownKnob Tryd.prog.godebug = none := by kernel_rfl
theorem laidOut0 : laidOutB Tryd.prog = true := by kernel_rfl
theorem cells23 : Tryd.prog.cellsOf 23 = 4 := by kernel_rfl
theorem cells3 : Tryd.prog.cellsOf 3 = 1 := by kernel_rfl
theorem cells9 : Tryd.prog.cellsOf 9 = 1 := by kernel_rfl

section
variable {H : Type} {enc : TypeId × Value → H} {w : World} {base : Nat} {spare : Nat → Bool} {held : Bool}

end

end Go.Proofs.YtkbdaiopahmfiacDoor

namespace Go.Proofs.YtkbdaiopahmfiacDoor
open Go.ChangeShapes Go.WideShapes Go.ChangeAt Go.RowKit Go.Deep Go.Joins
set_option linter.unusedSimpArgs false
set_option linter.unusedVariables false

theorem reach48 {s : ByteArray} (h : s.data.toList.length ≤ reachBytes) : s.size ≤ 281474976710656 := by
  have h1 : s.size = s.data.toList.length := by show s.data.size = _; rw [Array.length_toList]
  unfold reachBytes at h
  omega

section
variable {H : Type} {enc : TypeId × Value → H} {w : World} {base : Nat} {spare : Nat → Bool} {held : Bool}

theorem trodS4 {P : Program} {t : TypeId} {f0 f1 f2 f3 : Field} {fuel : Nat} {cs : List Value} {x : DataW H × List MemPlace} (ht : P.underlying t = some (.struct #[f0, f1, f2, f3])) (h : DataW.trod enc P w base spare held fuel t cs = some x) :
    ∃ y0 y1 y2 y3 n, x.1 = .agg [y0.1, y1.1, y2.1, y3.1] ∧ cs.length = P.cellsOf t ∧ DataW.trod enc P w base spare held n f0.type ((cs.drop f0.offset).take (P.cellsOf f0.type)) = some y0 ∧ DataW.trod enc P w base spare held n f1.type ((cs.drop f1.offset).take (P.cellsOf f1.type)) = some y1 ∧ DataW.trod enc P w base spare held n f2.type ((cs.drop f2.offset).take (P.cellsOf f2.type)) = some y2 ∧ DataW.trod enc P w base spare held n f3.type ((cs.drop f3.offset).take (P.cellsOf f3.type)) = some y3 := by
  obtain ⟨xs, n, _, rfl, hl, hlen, hf⟩ := DataW.trod_struct ht h
  match xs, hlen with
  | [y0, y1, y2, y3], _ => exact ⟨y0, y1, y2, y3, n, rfl, hl, by simpa using hf 0 f0 rfl, by simpa using hf 1 f1 rfl, by simpa using hf 2 f2 rfl, by simpa using hf 3 f3 rfl⟩
set_option maxRecDepth 100000 in
/-- A call's four cells. -/
theorem open_callW {fuel : Nat} {cs : List Value} {x : DataW H × List MemPlace} (h : DataW.trod enc Tryd.prog w base spare held fuel 23 cs = some x) (hw : ∀ n ∈ x.1.weights Tryd.prog 23, n ≤ reachBytes) :
    ∃ c : ACall, cs = [.int .i64 c.kind, .string c.name, .string c.dst, .string c.text] ∧ c.name.size ≤ 281474976710656 ∧ c.dst.size ≤ 281474976710656 ∧ c.text.size ≤ 281474976710656 := by
  obtain ⟨y0, y1, y2, y3, n, hx, hl, h0, h1, h2, h3⟩ := trodS4 Tryd.underlying23 h
  rw [cells23] at hl
  obtain ⟨c0, c1, c2, c3, hcs⟩ := array4 (cs := cs.toArray) (by simpa using hl)
  have hcs : cs = [c0, c1, c2, c3] := by simpa using congrArg Array.toList hcs
  subst hcs
  simp only [cells3, cells9, List.drop, List.take] at h0 h1 h2 h3
  obtain ⟨k, e0, f0, wk⟩ := DataW.trod_int Tryd.underlying3 h0
  obtain ⟨a, e1, f1, wa⟩ := DataW.trod_string Tryd.underlying9 h1
  obtain ⟨b, e2, f2, wb⟩ := DataW.trod_string Tryd.underlying9 h2
  obtain ⟨t, e3, f3, wt⟩ := DataW.trod_string Tryd.underlying9 h3
  simp at e0 e1 e2 e3
  rw [hx] at hw
  subst e0 e1 e2 e3 f0 f1 f2 f3
  simp only [DataW.weights, Tryd.underlying23, List.map, DataW.weightsEach, List.nil_append, List.append_nil, List.mem_append, List.mem_singleton] at hw
  exact ⟨⟨k, a, b, t⟩, rfl, reach48 (hw _ (by simp)), reach48 (hw _ (by simp)), reach48 (hw _ (by simp))⟩

end

end Go.Proofs.YtkbdaiopahmfiacDoor

namespace Go.Proofs.YtkbdaiopahmfiacDoor
open Go.ChangeShapes Go.WideShapes Go.ChangeAt Go.RowKit Go.Deep Go.Joins
set_option linter.unusedSimpArgs false
set_option linter.unusedVariables false

section
variable {H : Type} {enc : TypeId × Value → H} {w : World} {base : Nat} {spare : Nat → Bool} {held : Bool}

end

set_option maxRecDepth 100000 in
/-- A call by value. -/
theorem open_kcallv {H : Type} {enc : TypeId × Value → H} {w : World} {base base' : Nat} {held : Bool} {spare : Nat → Bool} {v : Value} {d : DataW H} {p : List MemPlace} (hv : Value.okWide Tryd.prog w .any base' 23 v) (h : ∃ fuel, DataW.trod enc Tryd.prog w base spare held fuel 23 v.cells.toList = some (d, p)) (hw : ∀ n ∈ d.weights Tryd.prog 23, n ≤ reachBytes) :
    ∃ x : ACall, v = .agg #[.int .i64 x.kind, .string x.name, .string x.dst, .string x.text] ∧ SmallC x := by
  obtain ⟨cells, rfl, hsz⟩ := okWide_struct Tryd.underlying23 hv
  obtain ⟨fuel, hf⟩ := h
  obtain ⟨r, hcs, hs⟩ := open_callW hf hw
  refine ⟨r, ?_, hs⟩
  have : cells.toList = [.int .i64 r.kind, .string r.name, .string r.dst, .string r.text] := hcs
  congr 1
  apply Array.ext'
  simpa using this

end Go.Proofs.YtkbdaiopahmfiacDoor

namespace Go.Proofs.YtkbdaiopahmfiacDoor
open Go.ChangeShapes Go.WideShapes Go.ChangeAt Go.RowKit Go.Deep Go.Joins
set_option linter.unusedSimpArgs false
set_option linter.unusedVariables false

section
variable {H : Type} {enc : TypeId × Value → H}
/-- The wrap that hands on the listed variables and the world's shape. -/
theorem lreturns {a : Assume} {C : Checked} {os : Os} {f : FuncId} {fn : Func} {s : ChangeSpec} {conds : List PathCond} {apart fresh handsOn again : Bool} {laid : List (String × DataW Unit)}
    (own : ownKnob C.prog.godebug = none) (started : os.Started) (noInit : C.prog.inits.idxOf? f = none) (hfn : C.prog.funcs[f]? = some fn)
    (witness : ∃ (w : World) (tape : Tape) (i : Input), w.os = os ∧ (w.forCall tape i).Shaped C.prog ∧ i.vars = [] ∧ Input.okWide C.prog (w.forCall tape i) .any w.heap.size f i ∧
      ((s.pre enc C.prog fn conds apart (w.forCall tape i).memory i.args ∧ laidMetH C.prog laid (w.forCall tape i).memory) ∧ sizedMet enc C.prog fn (OpenSpec.ofChange s) apart (w.forCall tape i).memory i.args) ∧ a.holds C.prog (lone (Frame.enter C.prog f i.args .normal) [] (w.forCall tape i)))
    (contract : ∀ (W : World) (base : Nat) (args : Array Value) (ds gs : List (DataW H)) (before : List MemPlace),
      (∀ (j : Nat) t v, fn.params[j]? = some t → args[j]? = some v → Value.okWide C.prog W .any base t v) →
      DataW.Whole enc C.prog fn.params.toList s.vars apart W args.toList ds gs before →
      (DataW.weightsEach C.prog (fn.params.toList ++ s.plain.varTypes C.prog) (ds ++ gs)).all (· ≤ reachBytes) = true → laidMetH C.prog laid W → W.ShapedOpen C.prog →
      Calls C.prog f args W fun e W' => ∃ v, e = .returned v ∧ s.post enc C.prog fn apart fresh handsOn again W args v W') :
    ReturnsInHanded a C os f .any (fun w args => (s.pre enc C.prog fn conds apart w args ∧ laidMetH C.prog laid w) ∧ sizedMet enc C.prog fn (OpenSpec.ofChange s) apart w args) (s.post enc C.prog fn apart fresh handsOn again) := by
  refine returnsInHanded_of_calls own started noInit witness ?_
  intro w tape i _ hsh _ hok hpre hholds
  obtain ⟨_, _, _, fn', hfn', _, _, _, _, hval⟩ := hok
  have e : fn' = fn := Option.some.inj (hfn'.symm.trans hfn)
  subst e
  obtain ⟨⟨⟨ds, gs, before, hw, hc⟩, hx⟩, hz⟩ := hpre
  have hw' := DataW.Whole.of_heap (w' := w.forCall tape i) (by rfl) hw
  refine (contract (w.forCall tape i) w.heap.size i.args ds gs before hval hw' (hz.weights hw) (hx.of_heap (by rfl)) hsh).mono fun e W' ⟨v, he, hp⟩ => ?_
  subst he
  exact ChangeSpec.post_blind hp
end

/-- A listed table of texts, cell by cell. -/
theorem texts_of_head {P : Program} {W : World} {name : String} {ls : List (List UInt8)} {rest : List (String × DataW Unit)} {g n : Nat} {t e : TypeId}
    (hg : P.globalNamed name = some g) (hty : (P.globals[g]?).map (·.type) = some t) (ht : P.underlying t = some (.array n e)) (he : P.underlying e = some .string) (hce : P.cellsOf e = 1)
    (h : laidMet P ((name, .agg (ls.map fun l => .lit (.string l))) :: rest) W) (i : Nat) (l : List UInt8) (hl : ls[i]? = some l) : W.cell? ⟨g, i, none⟩ = some (.string ⟨l.toArray⟩) := by
  obtain ⟨ps, ⟨g', t', cs, fuel, p, q, hg', ht', hv, hd, _, _⟩, _⟩ := h
  obtain rfl := Option.some.inj (hg.symm.trans hg')
  obtain rfl := Option.some.inj (hty.symm.trans ht')
  obtain ⟨xs, m, _, ex, _, hn, hel⟩ := DataW.trod_array ht hd
  have e3 : (xs.map (·.1)) = ls.map fun l => (DataW.lit (.string l) : DataW Unit) := (DataW.agg.inj (Prod.mk.inj ex).1).symm
  have hil : i < ls.length := (List.getElem?_eq_some_iff.1 hl).1
  have hlen : xs.length = ls.length := by have := congrArg List.length e3; simpa using this
  have hE := hel i (by omega)
  rw [hce, Nat.mul_one, List.getElem?_eq_getElem (by omega)] at hE
  obtain ⟨s, e1, e2, _⟩ := DataW.trod_string he hE
  have e4 : (xs.map (·.1))[i]? = (ls.map fun l => (DataW.lit (.string l) : DataW Unit))[i]? := by rw [e3]
  rw [List.getElem?_map, List.getElem?_map, List.getElem?_eq_getElem (by omega : i < xs.length), hl, e2] at e4
  have hs : s.data.toList = l := by simpa using e4
  rw [World.var?_cell hg hv i]
  have hc : cs.toList[i]? = some (.string s) := by
    have h0 : ((cs.toList.drop i).take 1)[0]? = some (.string s) := by rw [e1]; rfl
    simpa using h0
  have : cs[i]? = some (.string s) := by simpa using hc
  rw [this, ← hs]

abbrev laid6 : List (String × DataW Unit) := [("math/bits.deBruijn32tab", Rows.laid_math_bits_deBruijn32tab), ("math/bits.deBruijn64tab", Rows.laid_math_bits_deBruijn64tab), ("internal/strconv.uint64pow10", Rows.laid_internal_strconv_uint64pow10), ("unicode/utf8.acceptRanges", Rows.laid_unicode_utf8_acceptRanges), ("postilion/line.words", Rows.laid_postilion_line_words), ("unicode/utf8.first", Rows.laid_unicode_utf8_first)]
theorem LW_of {W : World} (h : laidMetH Tryd.prog laid6 W) (hsh : W.ShapedOpen Tryd.prog) : LW W := by
  rw [MakeChecks.laidMetH_plain _ _ _ (by kernel_rfl)] at h
  have h3 := (laidMet.tail (laidMet.tail h))
  have h5 := (laidMet.tail (laidMet.tail h3))
  have hw := texts_of_head (P := Tryd.prog) (name := "postilion/line.words") (ls := [[109, 97, 107, 101], [114, 101, 109, 111, 118, 101], [114, 101, 110, 97, 109, 101], [97, 112, 112, 101, 110, 100], [114, 101, 97, 100], [108, 105, 115, 116]]) (g := 0) (t := 45) (e := 9) (n := 6) (by kernel_rfl) (by kernel_rfl) Tryd.underlying45 Tryd.underlying9 (by kernel_rfl) h5
  refine ⟨⟨hw 0 _ rfl, hw 1 _ rfl, hw 2 _ rfl, hw 3 _ rfl, hw 4 _ rfl, hw 5 _ rfl⟩, Tryd.laysM147.s1_3 W hsh, ?_⟩
  exact Lib.tabIs_of_head (P := Tryd.prog) (k := .u64) (zs := Lib.pow10Tab) (g := 2) (by kernel_rfl) (by kernel_rfl) Tryd.underlying86 Tryd.underlying78 (by kernel_rfl) (by kernel_rfl) h3

section
variable {H : Type} {enc : TypeId × Value → H} {w : World} {base : Nat} {spare : Nat → Bool} {held : Bool}
end

end Go.Proofs.YtkbdaiopahmfiacDoor
