/- FilesBack: the walk. -/
import Derived.Test.YtcebomkkecgmbaaPlain4
namespace Go.Proofs.Ytcebomkkecgmbaa
open Go.RowKit
set_option linter.unusedSimpArgs false
set_option linter.unusedVariables false

theorem maxEmpty : (⟨#[]⟩ : ByteArray).size ≤ maxLen := by decide

set_option maxRecDepth 100000 in
set_option maxHeartbeats 8000000 in
theorem back_walk (a0 : Option Addr) (len cap : Nat) (cs : List ACall) (name to text : ByteArray) (w : World) (hl : IsCalls w a0 len cs) (hn : name.size ≤ 140737488351232) (ht : to.size ≤ 140737488351232) (hx : text.size ≤ 140737488351232) :
    Calls Try.prog 5 #[.slice a0 len cap, .string name, .string to, .string text] w fun e w' => e = .returned (.bool true) ∧ Below w.heap.size w w' := by
  have hm := hl.2.1
  unfold maxLen at hm
  have mn : name.size ≤ maxLen := by unfold maxLen; omega
  have mt : to.size ≤ maxLen := by unfold maxLen; omega
  have mx : text.size ≤ maxLen := by unfold maxLen; omega
  have HMN := hide mn
  have HMT := hide mt
  have HMX := hide mx
  have HL := hide hl
  clear hl mn mt mx
  by_cases hsum : (300 : Int) < (name.size : Int) + (to.size : Int) + (text.size : Int)
  · go_enter Try.func5, Try.ntmps5
    go_wp2_with fail
    refine (begun_any w).mono ?_
    rintro e w1 ⟨rfl, b1⟩
    have HL1 := hide ((unhide HL).later b1)
    have HB1 := hide b1
    clear b1
    go_wp2_with fail
    refine (greatCalls_any a0 len cap cs w1 (unhide HL1)).mono ?_
    rintro e w2 ⟨⟨r, rfl⟩, b2⟩
    have HB2 := hide ((unhide HB1).trans (b2.mono (unhide HB1).size))
    clear b2
    cases r
    all_goals
      go_wp2
      go_ret
      exact ⟨rfl, unhide HB2⟩
  go_enter Try.func5, Try.ntmps5
  go_wp2_with fail
  refine (begun_any w).mono ?_
  rintro e w1 ⟨rfl, b1⟩
  have HL1 := hide ((unhide HL).later b1)
  have HB1 := hide b1
  clear b1
  go_wp2_with fail
  refine (greatCalls_any a0 len cap cs w1 (unhide HL1)).mono ?_
  rintro e w2 ⟨⟨r, rfl⟩, b2⟩
  have HB2 := hide ((unhide HB1).trans (b2.mono (unhide HB1).size))
  clear b2
  cases r
  rotate_left
  · go_wp2
    go_ret
    exact ⟨rfl, unhide HB2⟩
  go_wp2_with fail
  refine (New_any w2).mono ?_
  rintro e w3 ⟨rfl, rfl⟩
  have hz2 := (unhide HB2).size
  have HO3 := hide ((New_obj w2).wider hz2)
  have HB3 := hide ((unhide HB2).alloc hz2 (.cells #[.slice none 0 0] 48))
  generalize w2.heap.size = B at HO3 HB3 ⊢
  generalize w2.alloc (.cells #[.slice none 0 0] 48) = w3 at HO3 HB3 ⊢
  clear hz2
  go_wp2
  go_loopw [10] (fun i wr => ∃ (j : Nat) (own : List Nat) (st : List AFile), j ≤ len ∧ i = .int .i64 j ∧ Hid (OObj w.heap.size wr B own st) ∧ Hid (Below w.heap.size w wr)) (fun i _ => len - (intOf i).toNat)
  case atStart => exact ⟨0, _, _, Nat.zero_le _, rfl, unhide HO3, unhide HB3⟩
  case round =>
    obtain ⟨j, own, st, hj, rfl, HO, HB⟩ := hrel
    by_cases h1 : (j : Int) < (len : Int)
    · obtain ⟨b, off, rfl, hlt, hc⟩ := ((unhide HL).later (unhide HB)).2.2 (by omega)
      obtain ⟨c, hcj⟩ : ∃ c, cs[j]? = some c := ⟨_, List.getElem?_eq_getElem (by rw [(unhide HL).1]; omega)⟩
      obtain ⟨⟨g0, g1, g2, g3⟩, s1, s2, s3⟩ := hc j c hcj
      have hdo := Do_obj c (unhide HO) s1 s2 s3
      generalize (aDo st c).code = code at hdo
      generalize (aDo st c).text = text1 at hdo
      generalize (aDo st c).st = st1 at hdo
      obtain ⟨ck, ca, cb, ct⟩ := c
      dsimp only at g0 g1 g2 g3 hdo
      clear hc hcj s1 s2 s3
      go_wp2_with fail
      refine hdo.mono ?_
      rintro e w4 ⟨rfl, own1, o1, n1⟩
      have HO1 := hide o1
      have HB4 := hide ((unhide HB).trans n1.below)
      clear hdo g0 g1 g2 g3 o1 n1
      go_wp2
      go_roundw
      case rel => exact ⟨j + 1, own1, st1, by omega, by go_num, unhide HO1, unhide HB4⟩
      case measure => simp [intOf]; omega
    · clear hj
      go_wp2_with fail
      refine (all_obj (unhide HO)).mono ?_
      rintro e w4 ⟨va, own4, rfl, o4, n4, a4⟩
      obtain ⟨vp, vc, rfl⟩ := row_form a4.row
      have hfew := o4.inv.few
      have HO4 := hide o4
      have HA4 := hide a4
      have HB4 := hide ((unhide HB).trans n4.below)
      have HI := hide o4.inv
      clear o4 a4 n4
      by_cases hr1 : (aDo st ⟨3, name, to, ⟨#[]⟩⟩).code = 0
      · have HR1 := hide (res_zero hr1)
        have HR2 := hide (back_rename st name to (unhide HI) hr1)
        generalize (aDo st ⟨3, name, to, ⟨#[]⟩⟩).text = rt at HR1
        generalize (aDo st ⟨3, name, to, ⟨#[]⟩⟩).st = rst at HR1 HR2
        clear hr1
        have fdr := field0 0 rt
        go_wp2_with fail
        refine (Do_eq 3 name to ⟨#[]⟩ (unhide HR1) (unhide HO4) (unhide HMN) (unhide HMT) maxEmpty).mono ?_
        rintro e w5 ⟨rfl, own5, o5, n5⟩
        have HO5 := hide o5
        have HA5 := hide ((unhide HA4).next n5)
        have HB5 := hide ((unhide HB4).trans n5.below)
        clear o5 n5
        have fde := field0 0 ⟨#[]⟩
        go_wp2_with fail
        refine (Do_eq 3 to name ⟨#[]⟩ (unhide HR2) (unhide HO5) (unhide HMT) (unhide HMN) maxEmpty).mono ?_
        rintro e w6 ⟨rfl, own6, o6, n6⟩
        have HO6 := hide o6
        have HA6 := hide ((unhide HA5).next n6)
        have HB6 := hide ((unhide HB5).trans n6.below)
        clear o6 n6
        by_cases hm1 : (aDo st ⟨1, name, ⟨#[]⟩, ⟨#[]⟩⟩).code = 0
        · have HM1 := hide (res_zero hm1)
          have HM2 := hide (back_make st name (unhide HI) hm1)
          generalize (aDo st ⟨1, name, ⟨#[]⟩, ⟨#[]⟩⟩).text = mtx at HM1
          generalize (aDo st ⟨1, name, ⟨#[]⟩, ⟨#[]⟩⟩).st = mst at HM1 HM2
          clear hm1
          have fdm := field0 0 mtx
          have fdz := field0 0 ⟨#[]⟩
          go_wp2_with fail
          refine (Do_eq 1 name ⟨#[]⟩ ⟨#[]⟩ (unhide HM1) (unhide HO6) (unhide HMN) maxEmpty maxEmpty).mono ?_
          rintro e w7 ⟨rfl, own7, o7, n7⟩
          have HO7 := hide o7
          have HA7 := hide ((unhide HA6).next n7)
          have HB7 := hide ((unhide HB6).trans n7.below)
          clear o7 n7
          go_wp2_with fail
          refine (Do_eq 2 name ⟨#[]⟩ ⟨#[]⟩ (unhide HM2) (unhide HO7) (unhide HMN) maxEmpty maxEmpty).mono ?_
          rintro e w8 ⟨rfl, own8, o8, n8⟩
          have HO8 := hide o8
          have HA8 := hide ((unhide HA7).next n8)
          have HB8 := hide ((unhide HB7).trans n8.below)
          clear o8 n8
          go_wp2_with fail
          refine (all_obj (unhide HO8)).mono ?_
          rintro e w9 ⟨vx9, own9, rfl, o9, n9, a9⟩
          obtain ⟨vp9, vc9, rfl⟩ := row_form a9.row
          have HO9 := hide o9
          have HA9 := hide ((unhide HA8).next n9)
          have HX9 := hide a9
          have HB9 := hide ((unhide HB8).trans n9.below)
          clear o9 n9 a9
          go_wp2_with fail
          have hst9 := SameTexts_any vp vp9 (st.length * 2) (st.length * 2) vc vc9 (allB st) (allB st) w9 (ownsRow_base (unhide HA9).row (Nat.zero_le _)) (ownsRow_base (unhide HX9).row (Nat.zero_le _)) (by omega) (by omega)
          rw [decide_eq_true (rfl : allB st = allB st)] at hst9
          refine hst9.mono ?_
          rintro e w10 ⟨rfl, b10⟩
          have HO10 := hide ((unhide HO9).below b10)
          have HA10 := hide ((unhide HA9).below b10)
          have HB10 := hide ((unhide HB9).trans (b10.mono (unhide HO9).size))
          clear b10 hst9
          by_cases hp1 : (aDo st ⟨4, name, ⟨#[]⟩, text⟩).code = 0
          · obtain ⟨rd, e1, e2, hrd, htx⟩ := back_put st name text (unhide HI) hp1
            have HP1 := hide (res_zero hp1)
            have HE1 := hide e1
            have HE2 := hide e2
            generalize (aDo st ⟨4, name, ⟨#[]⟩, text⟩).text = ptx at HP1
            generalize (aDo st ⟨4, name, ⟨#[]⟩, text⟩).st = pst at HP1 HE2
            clear hp1 e1 e2
            have fdp := field0 0 ptx
            go_wp2_with fail
            refine (Do_eq 5 name ⟨#[]⟩ ⟨#[]⟩ (unhide HE1) (unhide HO10) (unhide HMN) maxEmpty maxEmpty).mono ?_
            rintro e w11 ⟨rfl, own11, o11, n11⟩
            have HO11 := hide o11
            have HA11 := hide ((unhide HA10).next n11)
            have HB11 := hide ((unhide HB10).trans n11.below)
            clear o11 n11
            have HX0 := hide ((unhide HO11).not_new (Nat.le_refl w11.heap.size))
            have HC0 : Hid (Can (w11.alloc (.cells #[.int .i64 0, .string rd] 34)) w11.heap.size 0 (.int .i64 0) ∧ Can (w11.alloc (.cells #[.int .i64 0, .string rd] 34)) w11.heap.size 1 (.string rd)) := ⟨⟨by simp, by simp⟩, ⟨by simp, by simp⟩⟩
            have HOa := hide ((unhide HO11).alloc (.cells #[.int .i64 0, .string rd] 34))
            have hsz11 := (unhide HO11).size
            have HBa := hide ((unhide HB11).alloc hsz11 (.cells #[.int .i64 0, .string rd] 34))
            go_wp2_with fail
            refine (Do_eq 4 name ⟨#[]⟩ text (unhide HP1) (unhide HOa) (unhide HMN) maxEmpty (unhide HMX)).mono ?_
            rintro e wp ⟨rfl, ownp, op, np⟩
            have HOp := hide op
            have HXp := hide (np.keep w11.heap.size (by simp) (unhide HX0)).1
            have HCp := hide (And.intro (np.can (unhide HC0).1 (unhide HX0)) (np.can (unhide HC0).2 (unhide HX0)))
            have HBp := hide ((unhide HBa).trans np.below)
            have hzp : w11.heap.size < wp.heap.size := by have := np.size; simp at this; omega
            clear op np
            go_wp2_with fail
            refine (Do_eq 5 name ⟨#[]⟩ ⟨#[]⟩ (unhide HE2) (unhide HOp) (unhide HMN) maxEmpty maxEmpty).mono ?_
            rintro e wq ⟨rfl, ownq, oq, nq⟩
            have c0 := fun o => (Can.alloc (nq.can (unhide HCp).1 (unhide HXp)) o).1
            have c1 := fun o => (Can.alloc (nq.can (unhide HCp).2 (unhide HXp)) o).1
            have HBq := hide ((unhide HBp).trans nq.below)
            have hzq : w11.heap.size < wq.heap.size := by have := nq.size; omega
            have hsq := oq.size
            have yq : ¬ w11.heap.size = wq.heap.size := by omega
            clear oq nq
            have hss : (rd.size : Int) ≤ 16 := by omega
            have hst2 : (text.size : Int) ≤ 8 := by omega
            go_wp2
            go_ret
            exact ⟨by simp, (unhide HBq).alloc hsq _⟩
          · have HP1 := hide (res_keep hp1)
            have hp1' : ((aDo st ⟨4, name, ⟨#[]⟩, text⟩).code != 0) = true := by simpa using hp1
            generalize (aDo st ⟨4, name, ⟨#[]⟩, text⟩).code = pc at HP1 hp1'
            clear hp1
            obtain ⟨code2, text2, hrd2, ht2⟩ := read_eq st name (unhide HI)
            have HE1 := hide hrd2
            clear hrd2
            have fdp := field0 pc ⟨#[]⟩
            go_wp2_with fail
            refine (Do_eq 5 name ⟨#[]⟩ ⟨#[]⟩ (unhide HE1) (unhide HO10) (unhide HMN) maxEmpty maxEmpty).mono ?_
            rintro e w11 ⟨rfl, own11, o11, n11⟩
            have HO11 := hide o11
            have HA11 := hide ((unhide HA10).next n11)
            have HB11 := hide ((unhide HB10).trans n11.below)
            clear o11 n11
            have bal : Below w11.heap.size w11 (w11.alloc (.cells #[.int .i64 code2, .string text2] 34)) := (Below.refl _ _).alloc (Nat.le_refl _) _
            have HOa := hide ((unhide HO11).below bal)
            have HAa := hide ((unhide HA11).below bal)
            have HBa := hide ((unhide HB11).trans (bal.mono (unhide HO11).size))
            clear bal
            go_wp2_with fail
            refine (Do_eq 4 name ⟨#[]⟩ text (unhide HP1) (unhide HOa) (unhide HMN) maxEmpty (unhide HMX)).mono ?_
            rintro e w12 ⟨rfl, own12, o12, n12⟩
            have HO12 := hide o12
            have HA12 := hide ((unhide HAa).next n12)
            have HB12 := hide ((unhide HBa).trans n12.below)
            clear o12 n12
            go_wp2_with fail
            refine (all_obj (unhide HO12)).mono ?_
            rintro e w13 ⟨vx13, own13, rfl, o13, n13, a13⟩
            obtain ⟨vp13, vc13, rfl⟩ := row_form a13.row
            have HO13 := hide o13
            have HA13 := hide ((unhide HA12).next n13)
            have HX13 := hide a13
            have HB13 := hide ((unhide HB12).trans n13.below)
            clear o13 n13 a13
            go_wp2_with fail
            have hst13 := SameTexts_any vp vp13 (st.length * 2) (st.length * 2) vc vc13 (allB st) (allB st) w13 (ownsRow_base (unhide HA13).row (Nat.zero_le _)) (ownsRow_base (unhide HX13).row (Nat.zero_le _)) (by omega) (by omega)
            rw [decide_eq_true (rfl : allB st = allB st)] at hst13
            refine hst13.mono ?_
            rintro e w14 ⟨rfl, b14⟩
            have HO14 := hide ((unhide HO13).below b14)
            have HA14 := hide ((unhide HA13).below b14)
            have HB14 := hide ((unhide HB13).trans (b14.mono (unhide HO13).size))
            clear b14 hst13
            go_wp2
            go_ret
            exact ⟨rfl, unhide HB14⟩
        · have HM1 := hide (res_keep hm1)
          have hm1' : ((aDo st ⟨1, name, ⟨#[]⟩, ⟨#[]⟩⟩).code == 0) = false := by simpa using hm1
          generalize (aDo st ⟨1, name, ⟨#[]⟩, ⟨#[]⟩⟩).code = mc at HM1 hm1'
          clear hm1
          have fdm := field0 mc ⟨#[]⟩
          go_wp2_with fail
          refine (Do_eq 1 name ⟨#[]⟩ ⟨#[]⟩ (unhide HM1) (unhide HO6) (unhide HMN) maxEmpty maxEmpty).mono ?_
          rintro e w7 ⟨rfl, own7, o7, n7⟩
          have HO7 := hide o7
          have HA7 := hide ((unhide HA6).next n7)
          have HB7 := hide ((unhide HB6).trans n7.below)
          clear o7 n7
          go_wp2_with fail
          refine (all_obj (unhide HO7)).mono ?_
          rintro e w8 ⟨vx8, own8, rfl, o8, n8, a8⟩
          obtain ⟨vp8, vc8, rfl⟩ := row_form a8.row
          have HO8 := hide o8
          have HA8 := hide ((unhide HA7).next n8)
          have HX8 := hide a8
          have HB8 := hide ((unhide HB7).trans n8.below)
          clear o8 n8 a8
          go_wp2_with fail
          have hst8 := SameTexts_any vp vp8 (st.length * 2) (st.length * 2) vc vc8 (allB st) (allB st) w8 (ownsRow_base (unhide HA8).row (Nat.zero_le _)) (ownsRow_base (unhide HX8).row (Nat.zero_le _)) (by omega) (by omega)
          rw [decide_eq_true (rfl : allB st = allB st)] at hst8
          refine hst8.mono ?_
          rintro e w9 ⟨rfl, b9⟩
          have HO9 := hide ((unhide HO8).below b9)
          have HA9 := hide ((unhide HA8).below b9)
          have HB9 := hide ((unhide HB8).trans (b9.mono (unhide HO8).size))
          clear b9 hst8
          by_cases hp1 : (aDo st ⟨4, name, ⟨#[]⟩, text⟩).code = 0
          · obtain ⟨rd, e1, e2, hrd, htx⟩ := back_put st name text (unhide HI) hp1
            have HP1 := hide (res_zero hp1)
            have HE1 := hide e1
            have HE2 := hide e2
            generalize (aDo st ⟨4, name, ⟨#[]⟩, text⟩).text = ptx at HP1
            generalize (aDo st ⟨4, name, ⟨#[]⟩, text⟩).st = pst at HP1 HE2
            clear hp1 e1 e2
            have fdp := field0 0 ptx
            go_wp2_with fail
            refine (Do_eq 5 name ⟨#[]⟩ ⟨#[]⟩ (unhide HE1) (unhide HO9) (unhide HMN) maxEmpty maxEmpty).mono ?_
            rintro e w10 ⟨rfl, own10, o10, n10⟩
            have HO10 := hide o10
            have HA10 := hide ((unhide HA9).next n10)
            have HB10 := hide ((unhide HB9).trans n10.below)
            clear o10 n10
            have HX0 := hide ((unhide HO10).not_new (Nat.le_refl w10.heap.size))
            have HC0 : Hid (Can (w10.alloc (.cells #[.int .i64 0, .string rd] 34)) w10.heap.size 0 (.int .i64 0) ∧ Can (w10.alloc (.cells #[.int .i64 0, .string rd] 34)) w10.heap.size 1 (.string rd)) := ⟨⟨by simp, by simp⟩, ⟨by simp, by simp⟩⟩
            have HOa := hide ((unhide HO10).alloc (.cells #[.int .i64 0, .string rd] 34))
            have hsz10 := (unhide HO10).size
            have HBa := hide ((unhide HB10).alloc hsz10 (.cells #[.int .i64 0, .string rd] 34))
            go_wp2_with fail
            refine (Do_eq 4 name ⟨#[]⟩ text (unhide HP1) (unhide HOa) (unhide HMN) maxEmpty (unhide HMX)).mono ?_
            rintro e wp ⟨rfl, ownp, op, np⟩
            have HOp := hide op
            have HXp := hide (np.keep w10.heap.size (by simp) (unhide HX0)).1
            have HCp := hide (And.intro (np.can (unhide HC0).1 (unhide HX0)) (np.can (unhide HC0).2 (unhide HX0)))
            have HBp := hide ((unhide HBa).trans np.below)
            have hzp : w10.heap.size < wp.heap.size := by have := np.size; simp at this; omega
            clear op np
            go_wp2_with fail
            refine (Do_eq 5 name ⟨#[]⟩ ⟨#[]⟩ (unhide HE2) (unhide HOp) (unhide HMN) maxEmpty maxEmpty).mono ?_
            rintro e wq ⟨rfl, ownq, oq, nq⟩
            have c0 := fun o => (Can.alloc (nq.can (unhide HCp).1 (unhide HXp)) o).1
            have c1 := fun o => (Can.alloc (nq.can (unhide HCp).2 (unhide HXp)) o).1
            have HBq := hide ((unhide HBp).trans nq.below)
            have hzq : w10.heap.size < wq.heap.size := by have := nq.size; omega
            have hsq := oq.size
            have yq : ¬ w10.heap.size = wq.heap.size := by omega
            clear oq nq
            have hss : (rd.size : Int) ≤ 16 := by omega
            have hst2 : (text.size : Int) ≤ 8 := by omega
            go_wp2
            go_ret
            exact ⟨by simp, (unhide HBq).alloc hsq _⟩
          · have HP1 := hide (res_keep hp1)
            have hp1' : ((aDo st ⟨4, name, ⟨#[]⟩, text⟩).code != 0) = true := by simpa using hp1
            generalize (aDo st ⟨4, name, ⟨#[]⟩, text⟩).code = pc at HP1 hp1'
            clear hp1
            obtain ⟨code2, text2, hrd2, ht2⟩ := read_eq st name (unhide HI)
            have HE1 := hide hrd2
            clear hrd2
            have fdp := field0 pc ⟨#[]⟩
            go_wp2_with fail
            refine (Do_eq 5 name ⟨#[]⟩ ⟨#[]⟩ (unhide HE1) (unhide HO9) (unhide HMN) maxEmpty maxEmpty).mono ?_
            rintro e w10 ⟨rfl, own10, o10, n10⟩
            have HO10 := hide o10
            have HA10 := hide ((unhide HA9).next n10)
            have HB10 := hide ((unhide HB9).trans n10.below)
            clear o10 n10
            have bal : Below w10.heap.size w10 (w10.alloc (.cells #[.int .i64 code2, .string text2] 34)) := (Below.refl _ _).alloc (Nat.le_refl _) _
            have HOa := hide ((unhide HO10).below bal)
            have HAa := hide ((unhide HA10).below bal)
            have HBa := hide ((unhide HB10).trans (bal.mono (unhide HO10).size))
            clear bal
            go_wp2_with fail
            refine (Do_eq 4 name ⟨#[]⟩ text (unhide HP1) (unhide HOa) (unhide HMN) maxEmpty (unhide HMX)).mono ?_
            rintro e w11 ⟨rfl, own11, o11, n11⟩
            have HO11 := hide o11
            have HA11 := hide ((unhide HAa).next n11)
            have HB11 := hide ((unhide HBa).trans n11.below)
            clear o11 n11
            go_wp2_with fail
            refine (all_obj (unhide HO11)).mono ?_
            rintro e w12 ⟨vx12, own12, rfl, o12, n12, a12⟩
            obtain ⟨vp12, vc12, rfl⟩ := row_form a12.row
            have HO12 := hide o12
            have HA12 := hide ((unhide HA11).next n12)
            have HX12 := hide a12
            have HB12 := hide ((unhide HB11).trans n12.below)
            clear o12 n12 a12
            go_wp2_with fail
            have hst12 := SameTexts_any vp vp12 (st.length * 2) (st.length * 2) vc vc12 (allB st) (allB st) w12 (ownsRow_base (unhide HA12).row (Nat.zero_le _)) (ownsRow_base (unhide HX12).row (Nat.zero_le _)) (by omega) (by omega)
            rw [decide_eq_true (rfl : allB st = allB st)] at hst12
            refine hst12.mono ?_
            rintro e w13 ⟨rfl, b13⟩
            have HO13 := hide ((unhide HO12).below b13)
            have HA13 := hide ((unhide HA12).below b13)
            have HB13 := hide ((unhide HB12).trans (b13.mono (unhide HO12).size))
            clear b13 hst12
            go_wp2
            go_ret
            exact ⟨rfl, unhide HB13⟩
      · have HR1 := hide (res_keep hr1)
        have hr1' : ((aDo st ⟨3, name, to, ⟨#[]⟩⟩).code == 0) = false := by simpa using hr1
        generalize (aDo st ⟨3, name, to, ⟨#[]⟩⟩).code = rc at HR1 hr1'
        clear hr1
        have fdr := field0 rc ⟨#[]⟩
        go_wp2_with fail
        refine (Do_eq 3 name to ⟨#[]⟩ (unhide HR1) (unhide HO4) (unhide HMN) (unhide HMT) maxEmpty).mono ?_
        rintro e w5 ⟨rfl, own5, o5, n5⟩
        have HO5 := hide o5
        have HA5 := hide ((unhide HA4).next n5)
        have HB5 := hide ((unhide HB4).trans n5.below)
        clear o5 n5
        by_cases hm1 : (aDo st ⟨1, name, ⟨#[]⟩, ⟨#[]⟩⟩).code = 0
        · have HM1 := hide (res_zero hm1)
          have HM2 := hide (back_make st name (unhide HI) hm1)
          generalize (aDo st ⟨1, name, ⟨#[]⟩, ⟨#[]⟩⟩).text = mtx at HM1
          generalize (aDo st ⟨1, name, ⟨#[]⟩, ⟨#[]⟩⟩).st = mst at HM1 HM2
          clear hm1
          have fdm := field0 0 mtx
          have fdz := field0 0 ⟨#[]⟩
          go_wp2_with fail
          refine (Do_eq 1 name ⟨#[]⟩ ⟨#[]⟩ (unhide HM1) (unhide HO5) (unhide HMN) maxEmpty maxEmpty).mono ?_
          rintro e w6 ⟨rfl, own6, o6, n6⟩
          have HO6 := hide o6
          have HA6 := hide ((unhide HA5).next n6)
          have HB6 := hide ((unhide HB5).trans n6.below)
          clear o6 n6
          go_wp2_with fail
          refine (Do_eq 2 name ⟨#[]⟩ ⟨#[]⟩ (unhide HM2) (unhide HO6) (unhide HMN) maxEmpty maxEmpty).mono ?_
          rintro e w7 ⟨rfl, own7, o7, n7⟩
          have HO7 := hide o7
          have HA7 := hide ((unhide HA6).next n7)
          have HB7 := hide ((unhide HB6).trans n7.below)
          clear o7 n7
          go_wp2_with fail
          refine (all_obj (unhide HO7)).mono ?_
          rintro e w8 ⟨vx8, own8, rfl, o8, n8, a8⟩
          obtain ⟨vp8, vc8, rfl⟩ := row_form a8.row
          have HO8 := hide o8
          have HA8 := hide ((unhide HA7).next n8)
          have HX8 := hide a8
          have HB8 := hide ((unhide HB7).trans n8.below)
          clear o8 n8 a8
          go_wp2_with fail
          have hst8 := SameTexts_any vp vp8 (st.length * 2) (st.length * 2) vc vc8 (allB st) (allB st) w8 (ownsRow_base (unhide HA8).row (Nat.zero_le _)) (ownsRow_base (unhide HX8).row (Nat.zero_le _)) (by omega) (by omega)
          rw [decide_eq_true (rfl : allB st = allB st)] at hst8
          refine hst8.mono ?_
          rintro e w9 ⟨rfl, b9⟩
          have HO9 := hide ((unhide HO8).below b9)
          have HA9 := hide ((unhide HA8).below b9)
          have HB9 := hide ((unhide HB8).trans (b9.mono (unhide HO8).size))
          clear b9 hst8
          by_cases hp1 : (aDo st ⟨4, name, ⟨#[]⟩, text⟩).code = 0
          · obtain ⟨rd, e1, e2, hrd, htx⟩ := back_put st name text (unhide HI) hp1
            have HP1 := hide (res_zero hp1)
            have HE1 := hide e1
            have HE2 := hide e2
            generalize (aDo st ⟨4, name, ⟨#[]⟩, text⟩).text = ptx at HP1
            generalize (aDo st ⟨4, name, ⟨#[]⟩, text⟩).st = pst at HP1 HE2
            clear hp1 e1 e2
            have fdp := field0 0 ptx
            go_wp2_with fail
            refine (Do_eq 5 name ⟨#[]⟩ ⟨#[]⟩ (unhide HE1) (unhide HO9) (unhide HMN) maxEmpty maxEmpty).mono ?_
            rintro e w10 ⟨rfl, own10, o10, n10⟩
            have HO10 := hide o10
            have HA10 := hide ((unhide HA9).next n10)
            have HB10 := hide ((unhide HB9).trans n10.below)
            clear o10 n10
            have HX0 := hide ((unhide HO10).not_new (Nat.le_refl w10.heap.size))
            have HC0 : Hid (Can (w10.alloc (.cells #[.int .i64 0, .string rd] 34)) w10.heap.size 0 (.int .i64 0) ∧ Can (w10.alloc (.cells #[.int .i64 0, .string rd] 34)) w10.heap.size 1 (.string rd)) := ⟨⟨by simp, by simp⟩, ⟨by simp, by simp⟩⟩
            have HOa := hide ((unhide HO10).alloc (.cells #[.int .i64 0, .string rd] 34))
            have hsz10 := (unhide HO10).size
            have HBa := hide ((unhide HB10).alloc hsz10 (.cells #[.int .i64 0, .string rd] 34))
            go_wp2_with fail
            refine (Do_eq 4 name ⟨#[]⟩ text (unhide HP1) (unhide HOa) (unhide HMN) maxEmpty (unhide HMX)).mono ?_
            rintro e wp ⟨rfl, ownp, op, np⟩
            have HOp := hide op
            have HXp := hide (np.keep w10.heap.size (by simp) (unhide HX0)).1
            have HCp := hide (And.intro (np.can (unhide HC0).1 (unhide HX0)) (np.can (unhide HC0).2 (unhide HX0)))
            have HBp := hide ((unhide HBa).trans np.below)
            have hzp : w10.heap.size < wp.heap.size := by have := np.size; simp at this; omega
            clear op np
            go_wp2_with fail
            refine (Do_eq 5 name ⟨#[]⟩ ⟨#[]⟩ (unhide HE2) (unhide HOp) (unhide HMN) maxEmpty maxEmpty).mono ?_
            rintro e wq ⟨rfl, ownq, oq, nq⟩
            have c0 := fun o => (Can.alloc (nq.can (unhide HCp).1 (unhide HXp)) o).1
            have c1 := fun o => (Can.alloc (nq.can (unhide HCp).2 (unhide HXp)) o).1
            have HBq := hide ((unhide HBp).trans nq.below)
            have hzq : w10.heap.size < wq.heap.size := by have := nq.size; omega
            have hsq := oq.size
            have yq : ¬ w10.heap.size = wq.heap.size := by omega
            clear oq nq
            have hss : (rd.size : Int) ≤ 16 := by omega
            have hst2 : (text.size : Int) ≤ 8 := by omega
            go_wp2
            go_ret
            exact ⟨by simp, (unhide HBq).alloc hsq _⟩
          · have HP1 := hide (res_keep hp1)
            have hp1' : ((aDo st ⟨4, name, ⟨#[]⟩, text⟩).code != 0) = true := by simpa using hp1
            generalize (aDo st ⟨4, name, ⟨#[]⟩, text⟩).code = pc at HP1 hp1'
            clear hp1
            obtain ⟨code2, text2, hrd2, ht2⟩ := read_eq st name (unhide HI)
            have HE1 := hide hrd2
            clear hrd2
            have fdp := field0 pc ⟨#[]⟩
            go_wp2_with fail
            refine (Do_eq 5 name ⟨#[]⟩ ⟨#[]⟩ (unhide HE1) (unhide HO9) (unhide HMN) maxEmpty maxEmpty).mono ?_
            rintro e w10 ⟨rfl, own10, o10, n10⟩
            have HO10 := hide o10
            have HA10 := hide ((unhide HA9).next n10)
            have HB10 := hide ((unhide HB9).trans n10.below)
            clear o10 n10
            have bal : Below w10.heap.size w10 (w10.alloc (.cells #[.int .i64 code2, .string text2] 34)) := (Below.refl _ _).alloc (Nat.le_refl _) _
            have HOa := hide ((unhide HO10).below bal)
            have HAa := hide ((unhide HA10).below bal)
            have HBa := hide ((unhide HB10).trans (bal.mono (unhide HO10).size))
            clear bal
            go_wp2_with fail
            refine (Do_eq 4 name ⟨#[]⟩ text (unhide HP1) (unhide HOa) (unhide HMN) maxEmpty (unhide HMX)).mono ?_
            rintro e w11 ⟨rfl, own11, o11, n11⟩
            have HO11 := hide o11
            have HA11 := hide ((unhide HAa).next n11)
            have HB11 := hide ((unhide HBa).trans n11.below)
            clear o11 n11
            go_wp2_with fail
            refine (all_obj (unhide HO11)).mono ?_
            rintro e w12 ⟨vx12, own12, rfl, o12, n12, a12⟩
            obtain ⟨vp12, vc12, rfl⟩ := row_form a12.row
            have HO12 := hide o12
            have HA12 := hide ((unhide HA11).next n12)
            have HX12 := hide a12
            have HB12 := hide ((unhide HB11).trans n12.below)
            clear o12 n12 a12
            go_wp2_with fail
            have hst12 := SameTexts_any vp vp12 (st.length * 2) (st.length * 2) vc vc12 (allB st) (allB st) w12 (ownsRow_base (unhide HA12).row (Nat.zero_le _)) (ownsRow_base (unhide HX12).row (Nat.zero_le _)) (by omega) (by omega)
            rw [decide_eq_true (rfl : allB st = allB st)] at hst12
            refine hst12.mono ?_
            rintro e w13 ⟨rfl, b13⟩
            have HO13 := hide ((unhide HO12).below b13)
            have HA13 := hide ((unhide HA12).below b13)
            have HB13 := hide ((unhide HB12).trans (b13.mono (unhide HO12).size))
            clear b13 hst12
            go_wp2
            go_ret
            exact ⟨rfl, unhide HB13⟩
        · have HM1 := hide (res_keep hm1)
          have hm1' : ((aDo st ⟨1, name, ⟨#[]⟩, ⟨#[]⟩⟩).code == 0) = false := by simpa using hm1
          generalize (aDo st ⟨1, name, ⟨#[]⟩, ⟨#[]⟩⟩).code = mc at HM1 hm1'
          clear hm1
          have fdm := field0 mc ⟨#[]⟩
          go_wp2_with fail
          refine (Do_eq 1 name ⟨#[]⟩ ⟨#[]⟩ (unhide HM1) (unhide HO5) (unhide HMN) maxEmpty maxEmpty).mono ?_
          rintro e w6 ⟨rfl, own6, o6, n6⟩
          have HO6 := hide o6
          have HA6 := hide ((unhide HA5).next n6)
          have HB6 := hide ((unhide HB5).trans n6.below)
          clear o6 n6
          go_wp2_with fail
          refine (all_obj (unhide HO6)).mono ?_
          rintro e w7 ⟨vx7, own7, rfl, o7, n7, a7⟩
          obtain ⟨vp7, vc7, rfl⟩ := row_form a7.row
          have HO7 := hide o7
          have HA7 := hide ((unhide HA6).next n7)
          have HX7 := hide a7
          have HB7 := hide ((unhide HB6).trans n7.below)
          clear o7 n7 a7
          go_wp2_with fail
          have hst7 := SameTexts_any vp vp7 (st.length * 2) (st.length * 2) vc vc7 (allB st) (allB st) w7 (ownsRow_base (unhide HA7).row (Nat.zero_le _)) (ownsRow_base (unhide HX7).row (Nat.zero_le _)) (by omega) (by omega)
          rw [decide_eq_true (rfl : allB st = allB st)] at hst7
          refine hst7.mono ?_
          rintro e w8 ⟨rfl, b8⟩
          have HO8 := hide ((unhide HO7).below b8)
          have HA8 := hide ((unhide HA7).below b8)
          have HB8 := hide ((unhide HB7).trans (b8.mono (unhide HO7).size))
          clear b8 hst7
          by_cases hp1 : (aDo st ⟨4, name, ⟨#[]⟩, text⟩).code = 0
          · obtain ⟨rd, e1, e2, hrd, htx⟩ := back_put st name text (unhide HI) hp1
            have HP1 := hide (res_zero hp1)
            have HE1 := hide e1
            have HE2 := hide e2
            generalize (aDo st ⟨4, name, ⟨#[]⟩, text⟩).text = ptx at HP1
            generalize (aDo st ⟨4, name, ⟨#[]⟩, text⟩).st = pst at HP1 HE2
            clear hp1 e1 e2
            have fdp := field0 0 ptx
            go_wp2_with fail
            refine (Do_eq 5 name ⟨#[]⟩ ⟨#[]⟩ (unhide HE1) (unhide HO8) (unhide HMN) maxEmpty maxEmpty).mono ?_
            rintro e w9 ⟨rfl, own9, o9, n9⟩
            have HO9 := hide o9
            have HA9 := hide ((unhide HA8).next n9)
            have HB9 := hide ((unhide HB8).trans n9.below)
            clear o9 n9
            have HX0 := hide ((unhide HO9).not_new (Nat.le_refl w9.heap.size))
            have HC0 : Hid (Can (w9.alloc (.cells #[.int .i64 0, .string rd] 34)) w9.heap.size 0 (.int .i64 0) ∧ Can (w9.alloc (.cells #[.int .i64 0, .string rd] 34)) w9.heap.size 1 (.string rd)) := ⟨⟨by simp, by simp⟩, ⟨by simp, by simp⟩⟩
            have HOa := hide ((unhide HO9).alloc (.cells #[.int .i64 0, .string rd] 34))
            have hsz9 := (unhide HO9).size
            have HBa := hide ((unhide HB9).alloc hsz9 (.cells #[.int .i64 0, .string rd] 34))
            go_wp2_with fail
            refine (Do_eq 4 name ⟨#[]⟩ text (unhide HP1) (unhide HOa) (unhide HMN) maxEmpty (unhide HMX)).mono ?_
            rintro e wp ⟨rfl, ownp, op, np⟩
            have HOp := hide op
            have HXp := hide (np.keep w9.heap.size (by simp) (unhide HX0)).1
            have HCp := hide (And.intro (np.can (unhide HC0).1 (unhide HX0)) (np.can (unhide HC0).2 (unhide HX0)))
            have HBp := hide ((unhide HBa).trans np.below)
            have hzp : w9.heap.size < wp.heap.size := by have := np.size; simp at this; omega
            clear op np
            go_wp2_with fail
            refine (Do_eq 5 name ⟨#[]⟩ ⟨#[]⟩ (unhide HE2) (unhide HOp) (unhide HMN) maxEmpty maxEmpty).mono ?_
            rintro e wq ⟨rfl, ownq, oq, nq⟩
            have c0 := fun o => (Can.alloc (nq.can (unhide HCp).1 (unhide HXp)) o).1
            have c1 := fun o => (Can.alloc (nq.can (unhide HCp).2 (unhide HXp)) o).1
            have HBq := hide ((unhide HBp).trans nq.below)
            have hzq : w9.heap.size < wq.heap.size := by have := nq.size; omega
            have hsq := oq.size
            have yq : ¬ w9.heap.size = wq.heap.size := by omega
            clear oq nq
            have hss : (rd.size : Int) ≤ 16 := by omega
            have hst2 : (text.size : Int) ≤ 8 := by omega
            go_wp2
            go_ret
            exact ⟨by simp, (unhide HBq).alloc hsq _⟩
          · have HP1 := hide (res_keep hp1)
            have hp1' : ((aDo st ⟨4, name, ⟨#[]⟩, text⟩).code != 0) = true := by simpa using hp1
            generalize (aDo st ⟨4, name, ⟨#[]⟩, text⟩).code = pc at HP1 hp1'
            clear hp1
            obtain ⟨code2, text2, hrd2, ht2⟩ := read_eq st name (unhide HI)
            have HE1 := hide hrd2
            clear hrd2
            have fdp := field0 pc ⟨#[]⟩
            go_wp2_with fail
            refine (Do_eq 5 name ⟨#[]⟩ ⟨#[]⟩ (unhide HE1) (unhide HO8) (unhide HMN) maxEmpty maxEmpty).mono ?_
            rintro e w9 ⟨rfl, own9, o9, n9⟩
            have HO9 := hide o9
            have HA9 := hide ((unhide HA8).next n9)
            have HB9 := hide ((unhide HB8).trans n9.below)
            clear o9 n9
            have bal : Below w9.heap.size w9 (w9.alloc (.cells #[.int .i64 code2, .string text2] 34)) := (Below.refl _ _).alloc (Nat.le_refl _) _
            have HOa := hide ((unhide HO9).below bal)
            have HAa := hide ((unhide HA9).below bal)
            have HBa := hide ((unhide HB9).trans (bal.mono (unhide HO9).size))
            clear bal
            go_wp2_with fail
            refine (Do_eq 4 name ⟨#[]⟩ text (unhide HP1) (unhide HOa) (unhide HMN) maxEmpty (unhide HMX)).mono ?_
            rintro e w10 ⟨rfl, own10, o10, n10⟩
            have HO10 := hide o10
            have HA10 := hide ((unhide HAa).next n10)
            have HB10 := hide ((unhide HBa).trans n10.below)
            clear o10 n10
            go_wp2_with fail
            refine (all_obj (unhide HO10)).mono ?_
            rintro e w11 ⟨vx11, own11, rfl, o11, n11, a11⟩
            obtain ⟨vp11, vc11, rfl⟩ := row_form a11.row
            have HO11 := hide o11
            have HA11 := hide ((unhide HA10).next n11)
            have HX11 := hide a11
            have HB11 := hide ((unhide HB10).trans n11.below)
            clear o11 n11 a11
            go_wp2_with fail
            have hst11 := SameTexts_any vp vp11 (st.length * 2) (st.length * 2) vc vc11 (allB st) (allB st) w11 (ownsRow_base (unhide HA11).row (Nat.zero_le _)) (ownsRow_base (unhide HX11).row (Nat.zero_le _)) (by omega) (by omega)
            rw [decide_eq_true (rfl : allB st = allB st)] at hst11
            refine hst11.mono ?_
            rintro e w12 ⟨rfl, b12⟩
            have HO12 := hide ((unhide HO11).below b12)
            have HA12 := hide ((unhide HA11).below b12)
            have HB12 := hide ((unhide HB11).trans (b12.mono (unhide HO11).size))
            clear b12 hst11
            go_wp2
            go_ret
            exact ⟨rfl, unhide HB12⟩

end Go.Proofs.Ytcebomkkecgmbaa
