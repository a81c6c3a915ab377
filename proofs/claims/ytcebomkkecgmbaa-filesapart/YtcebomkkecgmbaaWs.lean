/- FilesApart: the walk. -/
import Derived.Test.YtcebomkkecgmbaaPlain5
namespace Go.Proofs.Ytcebomkkecgmbaa
open Go.RowKit
set_option linter.unusedSimpArgs false
set_option linter.unusedVariables false

/-- Of the call that came in by value: its block, and what it holds, in a later world. -/
structure Boxed (w : World) (b : Nat) (c : ACall) : Prop where
  k0 : w.cell? ⟨b, 0, none⟩ = some (.int .i64 c.kind)
  k1 : w.cell? ⟨b, 1, none⟩ = some (.string c.name)
  k2 : w.cell? ⟨b, 2, none⟩ = some (.string c.dst)
  k3 : w.cell? ⟨b, 3, none⟩ = some (.string c.text)
theorem Boxed.below {w w' : World} {b N : Nat} {c : ACall} (h : Boxed w b c) (hb : Below N w w') (hN : b < N) : Boxed w' b c :=
  ⟨(hb.cell (p := ⟨b, 0, none⟩) hN).trans h.k0, (hb.cell (p := ⟨b, 1, none⟩) hN).trans h.k1, (hb.cell (p := ⟨b, 2, none⟩) hN).trans h.k2, (hb.cell (p := ⟨b, 3, none⟩) hN).trans h.k3⟩
theorem Boxed.new (w : World) (c : ACall) : Boxed (w.alloc (.cells #[.int .i64 c.kind, .string c.name, .string c.dst, .string c.text] 32)) w.heap.size c :=
  ⟨by simp, by simp, by simp, by simp⟩

set_option maxRecDepth 100000 in
set_option maxHeartbeats 8000000 in
theorem apart_walk (a0 : Option Addr) (len cap : Nat) (cs : List ACall) (c : ACall) (w : World) (hl : IsCalls w a0 len cs) (ha : c.name.size ≤ maxLen) (hb : c.dst.size ≤ maxLen) (ht : c.text.size ≤ maxLen) :
    Calls Try.prog 4 #[.slice a0 len cap, .agg #[.int .i64 c.kind, .string c.name, .string c.dst, .string c.text]] w fun e w' => e = .returned (.bool true) ∧ Below w.heap.size w w' := by
  obtain ⟨i0, hi0, hz0, hz1, hz2⟩ := info_parts info9
  have hm := hl.2.1
  unfold maxLen at hm
  have bw : Below w.heap.size w (w.alloc (.cells #[.int .i64 c.kind, .string c.name, .string c.dst, .string c.text] 32)) := (Below.refl _ _).alloc (Nat.le_refl _) _
  have HL := hide (hl.later bw)
  have HBX := hide (Boxed.new w c)
  have HS := hide (And.intro ha (And.intro hb ht))
  have HBW := hide bw
  clear hl ha hb ht bw
  go_enter Try.func4, Try.ntmps4
  go_wp2_with fail
  generalize hW0 : w.alloc (.cells #[.int .i64 c.kind, .string c.name, .string c.dst, .string c.text] 32) = w0 at HL HBX HBW ⊢
  have hN : w0.heap.size = w.heap.size + 1 := by rw [← hW0]; simp
  have HN0 := hide hN
  clear hW0 hN
  refine (begun_any w0).mono ?_
  rintro e w1 ⟨rfl, b1⟩
  have HL1 := hide ((unhide HL).later b1)
  have HB1 := hide b1
  clear b1
  go_wp2_with fail
  refine (greatCalls_any a0 len cap cs w1 (unhide HL1)).mono ?_
  rintro e w2 ⟨⟨r, rfl⟩, b2⟩
  have HB2 := hide ((unhide HB1).trans (b2.mono (unhide HB1).size))
  clear b2
  have fin : Hid (∀ wz, Below w0.heap.size w0 wz → Below w.heap.size w wz) := fun wz hz => (unhide HBW).trans (hz.mono (by rw [unhide HN0]; omega))
  cases r
  rotate_left
  · go_wp2
    go_ret
    exact ⟨rfl, unhide fin _ (unhide HB2)⟩
  have bx2 := (unhide HBX).below (unhide HB2) (show w.heap.size < w0.heap.size by rw [unhide HN0]; omega)
  have e0 := bx2.k0
  have e1 := bx2.k1
  have e2 := bx2.k2
  have e3 := bx2.k3
  have hgc := greatCall_any c.kind c.name c.dst c.text w2
  go_wp2_with fail
  refine hgc.mono ?_
  rintro e w3 ⟨⟨r, rfl⟩, b3⟩
  have HB3 := hide ((unhide HB2).trans (b3.mono (unhide HB2).size))
  clear b3 hgc bx2 e0 e1 e2 e3
  cases r
  rotate_left
  · go_wp2
    go_ret
    exact ⟨rfl, unhide fin _ (unhide HB3)⟩
  go_wp2_with fail
  refine (New_any w3).mono ?_
  rintro e w4 ⟨rfl, rfl⟩
  have hz3 := (unhide HB3).size
  have HO4 := hide ((New_obj w3).wider hz3)
  have HB4 := hide ((unhide HB3).alloc hz3 (.cells #[.slice none 0 0] 48))
  generalize w3.heap.size = B at HO4 HB4 ⊢
  generalize w3.alloc (.cells #[.slice none 0 0] 48) = w4 at HO4 HB4 ⊢
  clear hz3
  go_wp2
  go_loopw [6] (fun i wr => ∃ (j : Nat) (own : List Nat) (st : List AFile), j ≤ len ∧ i = .int .i64 j ∧ Hid (OObj w0.heap.size wr B own st) ∧ Hid (Below w0.heap.size w0 wr)) (fun i _ => len - (intOf i).toNat)
  case atStart => exact ⟨0, _, _, Nat.zero_le _, rfl, unhide HO4, unhide HB4⟩
  case round =>
    obtain ⟨j, own, st, hj, rfl, HO, HB⟩ := hrel
    by_cases h1 : (j : Int) < (len : Int)
    · obtain ⟨b, off, rfl, hlt, hc⟩ := ((unhide HL).later (unhide HB)).2.2 (by omega)
      obtain ⟨cx, hcj⟩ : ∃ c, cs[j]? = some c := ⟨_, List.getElem?_eq_getElem (by rw [(unhide HL).1]; omega)⟩
      obtain ⟨⟨g0, g1, g2, g3⟩, s1, s2, s3⟩ := hc j cx hcj
      have hdo := Do_obj cx (unhide HO) s1 s2 s3
      generalize (aDo st cx).code = code at hdo
      generalize (aDo st cx).text = text1 at hdo
      generalize (aDo st cx).st = st1 at hdo
      obtain ⟨ck, ca, cb, ct⟩ := cx
      dsimp only at g0 g1 g2 g3 hdo
      clear hc hcj s1 s2 s3
      go_wp2_with fail
      refine hdo.mono ?_
      rintro e w5 ⟨rfl, own1, o1, n1⟩
      have HO1 := hide o1
      have HB5 := hide ((unhide HB).trans n1.below)
      clear hdo g0 g1 g2 g3 o1 n1
      go_wp2
      go_roundw
      case rel => exact ⟨j + 1, own1, st1, by omega, by go_num, unhide HO1, unhide HB5⟩
      case measure => simp [intOf]; omega
    · clear hj
      have hbN : w.heap.size < w0.heap.size := by rw [unhide HN0]; omega
      have HbN := hide hbN
      clear hbN
      go_wp2_with fail
      refine (all_obj (unhide HO)).mono ?_
      rintro e w5 ⟨va, own5, rfl, o5, n5, a5⟩
      obtain ⟨vp, vc, rfl⟩ := row_form a5.row
      have HO5 := hide o5
      have HA5 := hide a5
      have HB5 := hide ((unhide HB).trans n5.below)
      have HI := hide o5.inv
      have hfew := o5.inv.few
      clear o5 a5 n5
      have bx5 := (unhide HBX).below (unhide HB5) (unhide HbN)
      have e0 := bx5.k0
      have e1 := bx5.k1
      have e2 := bx5.k2
      have e3 := bx5.k3
      clear bx5
      go_wp2_with fail
      refine (Do_obj c (unhide HO5) (unhide HS).1 (unhide HS).2.1 (unhide HS).2.2).mono ?_
      rintro e w6 ⟨rfl, own6, o6, n6⟩
      have HA6 := hide ((unhide HA5).next n6)
      have HB6 := hide ((unhide HB5).trans n6.below)
      have HI6 := hide o6.inv
      have hfew6 := o6.inv.few
      have HX6 := hide (o6.not_new (Nat.le_refl w6.heap.size))
      have HK := hide (fun h => code_keep st c h)
      have HKA := hide (fun h => ask_keep st c h)
      have HAP := hide (fun h1 h2 => apart_files st c h1 h2)
      generalize (aDo st c).code = code at HK HAP o6 ⊢
      generalize (aDo st c).text = text at HK o6 ⊢
      generalize (aDo st c).st = st' at HK HKA HAP o6 HI6 hfew6 ⊢
      have HO6 := hide (o6.alloc (.cells #[.int .i64 code, .string text] 34))
      have HC6 : Hid (Can (w6.alloc (.cells #[.int .i64 code, .string text] 34)) w6.heap.size 0 (.int .i64 code) ∧ Can (w6.alloc (.cells #[.int .i64 code, .string text] 34)) w6.heap.size 1 (.string text)) := ⟨⟨by simp, by simp⟩, ⟨by simp, by simp⟩⟩
      have bal : Below w6.heap.size w6 (w6.alloc (.cells #[.int .i64 code, .string text] 34)) := (Below.refl _ _).alloc (Nat.le_refl _) _
      have HA6a := hide ((unhide HA6).below bal)
      have HB6a := hide ((unhide HB6).trans (bal.mono o6.size))
      clear o6 n6 bal e0 e1 e2 e3
      go_wp2_with fail
      refine (all_obj (unhide HO6)).mono ?_
      rintro e w7 ⟨vb, own7, rfl, o7, n7, a7⟩
      obtain ⟨wp, wc, rfl⟩ := row_form a7.row
      have HA7 := hide ((unhide HA6a).next n7)
      have HN7 := hide a7
      have HB7 := hide ((unhide HB6a).trans n7.below)
      have x0 := (n7.can (unhide HC6).1 (unhide HX6)).1
      have x1 := (n7.can (unhide HC6).2 (unhide HX6)).1
      have hz67 : w6.heap.size < w7.heap.size := by have := n7.size; simp at this; omega
      have hz7 : w0.heap.size ≤ w7.heap.size := (unhide HB7).size
      clear o7 n7 a7
      have bx7 := (unhide HBX).below (unhide HB7) (unhide HbN)
      have e0 := bx7.k0
      have e1 := bx7.k1
      have e2 := bx7.k2
      have HBX7 := hide bx7
      clear bx7
      have hch := Changes_any c.kind w7
      cases hc0 : (code != 0)
      · cases hk : changesB c.kind
        · rw [hk] at hch
          have hc1 : code = 0 := by simpa using hc0
          have hst : st' = st := unhide HKA hk
          subst hst
          have hsame := SameTexts_any vp wp (st'.length * 2) (st'.length * 2) vc wc (allB st') (allB st') w7 (ownsRow_base (unhide HA7).row (Nat.zero_le _)) (ownsRow_base (unhide HN7).row (Nat.zero_le _)) (by omega) (by omega)
          rw [decide_eq_true (rfl : allB st' = allB st')] at hsame
          have hc2 : (code == 0) = true := by simpa using hc1
          have HSM := hide hsame
          clear hsame hc1
          go_wp2_with (go_at_call 17; refine hch.mono ?_; rintro e w8 ⟨rfl, rfl⟩)
          refine (unhide HSM).mono ?_
          rintro e w8 ⟨rfl, b8⟩
          have y0 := (b8.cell (p := ⟨w6.heap.size, 0, none⟩) hz67).trans x0
          have HB8 := hide ((unhide HB7).trans (b8.mono hz7))
          clear b8
          go_wp2
          go_ret
          exact ⟨rfl, unhide fin _ (unhide HB8)⟩
        · rw [hk] at hch
          have hc1 : code = 0 := by simpa using hc0
          have HPF := hide (pairs_far st st' c.name c.dst (unhide HAP hc1 hk))
          obtain ⟨p, HP⟩ : ∃ p : ByteArray → Bool, Hid (p = far c.name c.dst) := ⟨_, rfl⟩
          go_wp2_with (go_at_call 17; refine hch.mono ?_; rintro e w7 ⟨rfl, rfl⟩)
          go_loopw [10, 12] (fun v i wr => ∃ (k m : Nat), k ≤ st.length ∧ m ≤ k * 2 ∧ i = .int .i64 ((k * 2 : Nat) : Int) ∧ Hid (∃ a c, v = .slice a m c) ∧ Hid (Below w7.heap.size w7 wr) ∧ Hid (wr.ownsRow w7.heap.size 9 1 v m ((pairs st (((sNames st).take k).filter p)).map .string))) (fun _ i _ => st.length * 2 + 2 - (intOf i).toNat)
          case atStart => exact ⟨0, 0, Nat.zero_le _, Nat.zero_le _, rfl, ⟨none, 0, rfl⟩, Below.refl _ _, World.ownsRow_nil _ _ _ _⟩
          case round =>
            obtain ⟨k, m, hk1, hmk, rfl, ⟨xa, xc, rfl⟩, HW, HR⟩ := hrel
            by_cases h2 : k < st.length
            · obtain ⟨x, hx⟩ : ∃ x, (sNames st)[k]? = some x := ⟨_, List.getElem?_eq_getElem (by rw [sNames_length]; omega)⟩
              obtain ⟨q1, q2⟩ := pairs_get st (sNames st) k x hx
              have hft := filter_take_succ (sNames st) p k x hx
              obtain ⟨g1, rfl, c1⟩ := text_cell (ownsRow_base (unhide HA7).row (Nat.zero_le _)) (k * 2) x q1
              obtain ⟨gg, eg, c2⟩ := text_cell (ownsRow_base (unhide HA7).row (Nat.zero_le _)) (k * 2 + 1) (textOf st x) q2
              obtain rfl : g1 = gg := by simpa using eg
              have c1' := ((unhide HW).cell (p := ⟨g1, k * 2, none⟩) (World.block_lt_of_cell? w7 _ c1)).trans c1
              have c2' := ((unhide HW).cell (p := ⟨g1, k * 2 + 1, none⟩) (World.block_lt_of_cell? w7 _ c2)).trans c2
              have bxr := (unhide HBX7).below (unhide HW) (show w.heap.size < w7.heap.size by have := unhide HbN; omega)
              have f1 := bxr.k1
              have f2 := bxr.k2
              have h3 : (k : Int) * 2 + 1 < (st.length : Int) * 2 := by omega
              have h4 : (0 : Int) ≤ (k : Int) * 2 := by omega
              have h5 : (k : Int) * 2 < (st.length : Int) * 2 := by omega
              have h6 : (0 : Int) ≤ (k : Int) * 2 + 1 := by omega
              generalize htx : textOf st x = tx at c2' q2
              have HTX := hide htx
              have HFT := hide hft
              clear hft c1 c2 bxr eg q1 q2 htx
              have hpx : p x = (!(x.toList == c.name.toList) && !(x.toList == c.dst.toList)) := by rw [HP.out]; rfl
              cases hq1 : (x.toList == c.name.toList)
              · cases hq2 : (x.toList == c.dst.toList)
                · have HPX : Hid (p x = true) := by rw [hpx, hq1, hq2]; exact rfl
                  have hwz := (unhide HW).size
                  clear hpx
                  go_wp2_with fail
                  have d1 : ∀ q, (wr.drewN q).cell? ⟨g1, k * 2, none⟩ = some (.string x) := fun q => c1'
                  have d2 : ∀ q, (wr.drewN q).cell? ⟨g1, k * 2 + 1, none⟩ = some (.string tx) := fun q => c2'
                  have h7 : ((k : Int) * 2).toNat = k * 2 := by omega
                  have h8 : ((k : Int) * 2 + 1).toNat = k * 2 + 1 := by omega
                  have hwr : IntKind.i64.wrap ((k : Int) * 2 + 1) = (k : Int) * 2 + 1 := by rw [IntKind.wrap_i64]; omega
                  go_quiet (fail)
                  go_wp2_with fail
                  go_region_law (refine step_append_lies _ (by rfl) _ _ _ (by rfl) w7.heap.size 9 i0 _ 1 16 Try.underlying37 hi0 hz0 hz1 hz2 rfl (by omega) (.slice xa m xc) m ((pairs st (((sNames st).take k).filter p)).map .string) (by rfl) (by exact ((unhide HR).alloc _)) ⟨wr.heap.size, 0, none⟩ 2 2 [.string x, .string tx] (by rfl) (by rfl) (by exact (World.news_of_block (cs := #[.string x, .string tx]) (t := 9) (fr := (0, 0)) (heap_alloc_new wr _))) (by simp [Value.oneCell']) (by omega) (by unfold maxLen; omega) (by omega) (by simp; omega) (wr.heap.size + 1) (by simp) ?_; intro g2 c2 w9 hown9 hgrow hat hlt9)
                  all_goals
                    have bd : Below w7.heap.size w7 (wr.drewN (nq + 1)) := ⟨(unhide HW).os, (unhide HW).tape, (unhide HW).output, (unhide HW).size, (unhide HW).block⟩
                    have HW9 := hide ((bd.alloc hwz (Obj.cells #[Value.string x, Value.string tx] 9)).grown hgrow (by simp; omega) (fun j hj => ((unhide HR).lt j hj).1))
                    have HR9 : Hid (w9.ownsRow w7.heap.size 9 1 (.slice (some ⟨g2, 0, none⟩) (m + 2) c2) (m + 2) ((pairs st (((sNames st).take (k + 1)).filter p)).map .string)) := by
                      have e : (pairs st (((sNames st).take (k + 1)).filter p)).map Value.string = (pairs st (((sNames st).take k).filter p)).map Value.string ++ [.string x, .string tx] := by
                        rw [unhide HFT, unhide HPX, pairs_append, ← unhide HTX]
                        simp [pairs]
                      rw [e]
                      exact hown9
                    clear bd hown9 hgrow hat hlt9 hwr d1 d2
                    go_wp2
                    go_roundw
                    case rel => exact ⟨k + 1, m + 2, by omega, by omega, by go_num, ⟨_, _, rfl⟩, unhide HW9, unhide HR9⟩
                    case measure => simp [intOf]; omega
                · have HPX : Hid (p x = false) := by rw [hpx, hq1, hq2]; exact rfl
                  clear hpx
                  go_wp2_with fail
                  go_quiet (fail)
                  go_wp2
                  go_roundw
                  case rel => exact ⟨k + 1, m, by omega, by omega, by go_num, ⟨_, _, rfl⟩, ⟨(unhide HW).os, (unhide HW).tape, (unhide HW).output, (unhide HW).size, (unhide HW).block⟩, by have hh := unhide HR; rw [unhide HFT, unhide HPX]; simp only [Bool.false_eq_true, if_false, List.append_nil]; exact hh⟩
                  case measure => simp [intOf]; omega
              · have HPX : Hid (p x = false) := by rw [hpx, hq1]; exact rfl
                clear hpx
                go_wp2_with fail
                go_quiet (fail)
                go_wp2
                go_roundw
                case rel => exact ⟨k + 1, m, by omega, by omega, by go_num, ⟨_, _, rfl⟩, ⟨(unhide HW).os, (unhide HW).tape, (unhide HW).output, (unhide HW).size, (unhide HW).block⟩, by have hh := unhide HR; rw [unhide HFT, unhide HPX]; simp only [Bool.false_eq_true, if_false, List.append_nil]; exact hh⟩
                case measure => simp [intOf]; omega
            · have hkn : k = st.length := by omega
              subst hkn
              have h3 : ¬ ((st.length : Int) * 2 + 1 < (st.length : Int) * 2) := by omega
              have hrow := unhide HR
              rw [List.take_of_length_le (by rw [sNames_length]; omega)] at hrow
              obtain ⟨xp, exp⟩ : ∃ xp, xp = xa := ⟨_, rfl⟩
              obtain ⟨xpc, exc⟩ : ∃ xpc, xpc = xc := ⟨_, rfl⟩
              obtain ⟨mx, emx⟩ : ∃ mx, mx = m := ⟨_, rfl⟩
              subst exp exc emx
              obtain ⟨w8, e8⟩ : ∃ w8 : World, w8 = wr := ⟨_, rfl⟩
              subst e8
              have HXR := hide hrow
              have HB8 := hide ((unhide HB7).trans ((unhide HW).mono hz7))
              have HBX8 := hide ((unhide HBX7).below (unhide HW) (show w.heap.size < w7.heap.size by have := unhide HbN; omega))
              have HN8 := hide ((unhide HN7).below (unhide HW))
              have hz78 := (unhide HW).size
              clear hrow
              go_wp2
              go_loopw [11, 13] (fun v i wr => ∃ (k m : Nat), k ≤ st'.length ∧ m ≤ k * 2 ∧ i = .int .i64 ((k * 2 : Nat) : Int) ∧ Hid (∃ a c, v = .slice a m c) ∧ Hid (Below w8.heap.size w8 wr) ∧ Hid (wr.ownsRow w8.heap.size 9 1 v m ((pairs st' (((sNames st').take k).filter p)).map .string))) (fun _ i _ => st'.length * 2 + 2 - (intOf i).toNat)
              case atStart => exact ⟨0, 0, Nat.zero_le _, Nat.zero_le _, rfl, ⟨none, 0, rfl⟩, Below.refl _ _, World.ownsRow_nil _ _ _ _⟩
              case round =>
                obtain ⟨k, m, hk1, hmk, rfl, ⟨xa, xc, rfl⟩, HW, HR⟩ := hrel
                by_cases h2 : k < st'.length
                · obtain ⟨x, hx⟩ : ∃ x, (sNames st')[k]? = some x := ⟨_, List.getElem?_eq_getElem (by rw [sNames_length]; omega)⟩
                  obtain ⟨q1, q2⟩ := pairs_get st' (sNames st') k x hx
                  have hft := filter_take_succ (sNames st') p k x hx
                  obtain ⟨g3, rfl, c1⟩ := text_cell (ownsRow_base (unhide HN8).row (Nat.zero_le _)) (k * 2) x q1
                  obtain ⟨gg, eg, c2⟩ := text_cell (ownsRow_base (unhide HN8).row (Nat.zero_le _)) (k * 2 + 1) (textOf st' x) q2
                  obtain rfl : g3 = gg := by simpa using eg
                  have c1' := ((unhide HW).cell (p := ⟨g3, k * 2, none⟩) (World.block_lt_of_cell? w8 _ c1)).trans c1
                  have c2' := ((unhide HW).cell (p := ⟨g3, k * 2 + 1, none⟩) (World.block_lt_of_cell? w8 _ c2)).trans c2
                  have bxr := (unhide HBX8).below (unhide HW) (show w.heap.size < w8.heap.size by have := unhide HbN; omega)
                  have f1 := bxr.k1
                  have f2 := bxr.k2
                  have h3 : (k : Int) * 2 + 1 < (st'.length : Int) * 2 := by omega
                  have h4 : (0 : Int) ≤ (k : Int) * 2 := by omega
                  have h5 : (k : Int) * 2 < (st'.length : Int) * 2 := by omega
                  have h6 : (0 : Int) ≤ (k : Int) * 2 + 1 := by omega
                  generalize htx : textOf st' x = tx at c2' q2
                  have HTX := hide htx
                  have HFT := hide hft
                  clear hft c1 c2 bxr eg q1 q2 htx
                  have hpx : p x = (!(x.toList == c.name.toList) && !(x.toList == c.dst.toList)) := by rw [HP.out]; rfl
                  cases hq1 : (x.toList == c.name.toList)
                  · cases hq2 : (x.toList == c.dst.toList)
                    · have HPX : Hid (p x = true) := by rw [hpx, hq1, hq2]; exact rfl
                      have hwz := (unhide HW).size
                      clear hpx
                      go_wp2_with fail
                      have d1 : ∀ q, (wr.drewN q).cell? ⟨g3, k * 2, none⟩ = some (.string x) := fun q => c1'
                      have d2 : ∀ q, (wr.drewN q).cell? ⟨g3, k * 2 + 1, none⟩ = some (.string tx) := fun q => c2'
                      have h7 : ((k : Int) * 2).toNat = k * 2 := by omega
                      have h8 : ((k : Int) * 2 + 1).toNat = k * 2 + 1 := by omega
                      have hwr : IntKind.i64.wrap ((k : Int) * 2 + 1) = (k : Int) * 2 + 1 := by rw [IntKind.wrap_i64]; omega
                      go_quiet (fail)
                      go_wp2_with fail
                      go_region_law (refine step_append_lies _ (by rfl) _ _ _ (by rfl) w8.heap.size 9 i0 _ 1 16 Try.underlying37 hi0 hz0 hz1 hz2 rfl (by omega) (.slice xa m xc) m ((pairs st' (((sNames st').take k).filter p)).map .string) (by rfl) (by exact ((unhide HR).alloc _)) ⟨wr.heap.size, 0, none⟩ 2 2 [.string x, .string tx] (by rfl) (by rfl) (by exact (World.news_of_block (cs := #[.string x, .string tx]) (t := 9) (fr := (0, 0)) (heap_alloc_new wr _))) (by simp [Value.oneCell']) (by omega) (by unfold maxLen; omega) (by omega) (by simp; omega) (wr.heap.size + 1) (by simp) ?_; intro g2 c2 w9 hown9 hgrow hat hlt9)
                      all_goals
                        have bd : Below w8.heap.size w8 (wr.drewN (nq + 1)) := ⟨(unhide HW).os, (unhide HW).tape, (unhide HW).output, (unhide HW).size, (unhide HW).block⟩
                        have HW9 := hide ((bd.alloc hwz (Obj.cells #[Value.string x, Value.string tx] 9)).grown hgrow (by simp; omega) (fun j hj => ((unhide HR).lt j hj).1))
                        have HR9 : Hid (w9.ownsRow w8.heap.size 9 1 (.slice (some ⟨g2, 0, none⟩) (m + 2) c2) (m + 2) ((pairs st' (((sNames st').take (k + 1)).filter p)).map .string)) := by
                          have e : (pairs st' (((sNames st').take (k + 1)).filter p)).map Value.string = (pairs st' (((sNames st').take k).filter p)).map Value.string ++ [.string x, .string tx] := by
                            rw [unhide HFT, unhide HPX, pairs_append, ← unhide HTX]
                            simp [pairs]
                          rw [e]
                          exact hown9
                        clear bd hown9 hgrow hat hlt9 hwr d1 d2
                        go_wp2
                        go_roundw
                        case rel => exact ⟨k + 1, m + 2, by omega, by omega, by go_num, ⟨_, _, rfl⟩, unhide HW9, unhide HR9⟩
                        case measure => simp [intOf]; omega
                    · have HPX : Hid (p x = false) := by rw [hpx, hq1, hq2]; exact rfl
                      clear hpx
                      go_wp2_with fail
                      go_quiet (fail)
                      go_wp2
                      go_roundw
                      case rel => exact ⟨k + 1, m, by omega, by omega, by go_num, ⟨_, _, rfl⟩, ⟨(unhide HW).os, (unhide HW).tape, (unhide HW).output, (unhide HW).size, (unhide HW).block⟩, by have hh := unhide HR; rw [unhide HFT, unhide HPX]; simp only [Bool.false_eq_true, if_false, List.append_nil]; exact hh⟩
                      case measure => simp [intOf]; omega
                  · have HPX : Hid (p x = false) := by rw [hpx, hq1]; exact rfl
                    clear hpx
                    go_wp2_with fail
                    go_quiet (fail)
                    go_wp2
                    go_roundw
                    case rel => exact ⟨k + 1, m, by omega, by omega, by go_num, ⟨_, _, rfl⟩, ⟨(unhide HW).os, (unhide HW).tape, (unhide HW).output, (unhide HW).size, (unhide HW).block⟩, by have hh := unhide HR; rw [unhide HFT, unhide HPX]; simp only [Bool.false_eq_true, if_false, List.append_nil]; exact hh⟩
                    case measure => simp [intOf]; omega
                · have hkn : k = st'.length := by omega
                  subst hkn
                  have h3 : ¬ ((st'.length : Int) * 2 + 1 < (st'.length : Int) * 2) := by omega
                  have hrow := unhide HR
                  rw [List.take_of_length_le (by rw [sNames_length]; omega)] at hrow
                  have hsame := SameTexts_any xp xa mx m xpc xc (pairs st ((sNames st).filter p)) (pairs st' ((sNames st').filter p)) wr (ownsRow_base (ownsRow_same (unhide HXR) (fun j hj => (unhide HW).block j ((unhide HXR).lt j hj).2)) (Nat.zero_le _)) (ownsRow_base hrow (Nat.zero_le _)) (by omega) (by omega)
                  have hpe : pairs st ((sNames st).filter p) = pairs st' ((sNames st').filter p) := by rw [HP.out]; exact (unhide HPF).symm
                  rw [decide_eq_true hpe] at hsame
                  have HSM := hide hsame
                  have h12 : (st'.length : Int) * 2 ≤ 12 := by omega
                  clear hsame hrow hpe
                  go_wp2_with fail
                  refine (unhide HSM).mono ?_
                  rintro e wz ⟨rfl, bz⟩
                  have HBZ := hide (((unhide HB8).trans ((unhide HW).mono (unhide HB8).size)).trans (bz.mono (Nat.le_trans (unhide HB8).size (unhide HW).size)))
                  clear bz
                  go_wp2
                  go_ret
                  exact ⟨rfl, unhide fin _ (unhide HBZ)⟩
      · have hcn : code ≠ 0 := by simpa using hc0
        obtain ⟨hst, htx⟩ := unhide HK hcn
        subst hst
        subst htx
        have hsame := SameTexts_any vp wp (st'.length * 2) (st'.length * 2) vc wc (allB st') (allB st') w7 (ownsRow_base (unhide HA7).row (Nat.zero_le _)) (ownsRow_base (unhide HN7).row (Nat.zero_le _)) (by omega) (by omega)
        rw [decide_eq_true (rfl : allB st' = allB st')] at hsame
        have hc2 : (code == 0) = false := by simpa using hcn
        have HSM := hide hsame
        clear hsame hcn
        go_wp2_with fail
        refine (unhide HSM).mono ?_
        rintro e w8 ⟨rfl, b8⟩
        have y0 := (b8.cell (p := ⟨w6.heap.size, 0, none⟩) hz67).trans x0
        have y1 := (b8.cell (p := ⟨w6.heap.size, 1, none⟩) hz67).trans x1
        have HB8 := hide ((unhide HB7).trans (b8.mono hz7))
        clear b8
        go_wp2
        go_ret
        exact ⟨rfl, unhide fin _ (unhide HB8)⟩

end Go.Proofs.Ytcebomkkecgmbaa
