/- CodecCut: the walk. -/
import Derived.Test.YtemimppknlfghaaCq
namespace Go.Proofs.Ytemimppknlfghaa
open Go.RowKit
set_option linter.unusedSimpArgs false
set_option linter.unusedVariables false

set_option maxRecDepth 100000 in
set_option maxHeartbeats 8000000 in
theorem cut_walk (a0 : Option Addr) (len cap : Nat) (rs : List ARec) (cut : Int) (w : World) (hr : RecsAt w a0 len rs) (hsz : ∀ r, r ∈ rs → r.call.name.size ≤ maxLen ∧ r.call.dst.size ≤ maxLen ∧ r.call.text.size ≤ maxLen ∧ r.ans.size ≤ maxLen) (hm : len ≤ maxLen) :
    Calls Try.prog 9 #[.slice a0 len cap, .int .i64 cut] w fun e w' => e = .returned (.bool true) ∧ Below w.heap.size w w' := by
  obtain ⟨i0, hi0, hz0, hz1, hz2⟩ := info_parts info47
  obtain ⟨j0, hj0, hy0, hy1, hy2⟩ := info_parts info3
  unfold maxLen at hm
  have HBG := hide codecBegun_any
  have HG : Hid (∀ (r : ARec), r ∈ rs → ∀ W, Calls Try.prog 32 #[r.val] W fun e w' => (∃ r, e = .returned (.bool r)) ∧ Below W.heap.size W w') := fun r h W => greatRecord_any r.client r.no r.call.kind r.call.name r.call.dst r.call.text r.code r.ans W (hsz r h).2.2.2
  have HEN : Hid (∀ (r : ARec), r ∈ rs → recI r ≠ 0 → ∀ W, Calls Try.prog 33 #[r.val] W fun e w' => e = .returned (.tuple #[.slice none 0 0, .int .i64 (recI r)]) ∧ Below W.heap.size W w') := fun r h h1 W => Encode_no r.client r.no r.call.kind r.call.name r.call.dst r.call.text r.code r.ans W (hsz r h).1 (hsz r h).2.1 (hsz r h).2.2.1 h1
  have HR := hide hr
  clear hr hsz
  go_enter Try.func9, Try.ntmps9
  go_wp2_with fail
  refine ((unhide HBG) _).mono ?_
  rintro e w1 ⟨rfl, b1⟩
  have HB1 := hide b1
  have hz1w : w.heap.size ≤ w1.heap.size := b1.size
  clear b1
  by_cases hbig : (100 : Int) < (len : Int)
  · go_wp2
    go_ret
    exact ⟨rfl, unhide HB1⟩
  go_wp2
  go_loopw [5, 6, 7, 8, 9, 10] (fun v5 v6 v7 i _ _ wr => ∃ (k : Nat) (os : List ARec), k ≤ len ∧ i = .int .i64 (k : Int) ∧ Hid (os = okRecs rs k) ∧ Hid (CutRows w1.heap.size wr v5 v6 v7 os) ∧ Hid (Below w.heap.size w wr) ∧ Hid (w1.heap.size ≤ wr.heap.size)) (fun _ _ _ i _ _ _ => len - (intOf i).toNat)
  case atStart => exact ⟨0, [], Nat.zero_le _, rfl, hide (by simp [okRecs]), CutRows.start _ _, unhide HB1, Nat.le_refl _⟩
  case round =>
    obtain ⟨k, os, hk, rfl, HOS, HC, HB, HZ⟩ := hrel
    obtain ⟨a5, c5, rfl⟩ := row_form (unhide HC).b
    obtain ⟨a6, c6, rfl⟩ := row_form (unhide HC).r
    obtain ⟨a7, c7, rfl⟩ := row_form (unhide HC).e
    obtain ⟨nb, hnb⟩ : ∃ n, (os.flatMap encL).length = n := ⟨_, rfl⟩
    obtain ⟨m, hmm⟩ : ∃ n, os.length = n := ⟨_, rfl⟩
    have hgood : ∀ r, r ∈ os → recI r = 0 := fun r h => okRecs_good rs k r (by rw [← unhide HOS]; exact h)
    have hm1 : m ≤ k := by rw [← hmm, unhide HOS]; exact okRecs_le rs k
    have hn1 : nb ≤ m * 255 := by rw [← hnb, ← hmm]; exact flat_le os hgood
    have HGD := hide hgood
    have HNB := hide hnb
    have HMM := hide hmm
    rw [hnb] at HC ⊢
    rw [hmm] at HC ⊢
    clear hgood hnb hmm
    by_cases hlt : (k : Int) < (len : Int)
    · obtain ⟨r, hr⟩ : ∃ r, rs[k]? = some r := ⟨_, List.getElem?_eq_getElem (by rw [(unhide HR).1]; omega)⟩
      obtain ⟨b, off, rfl, hx⟩ := (unhide HR).2 (by omega)
      have HRA := hide (hx k r hr)
      have hmem : r ∈ rs := List.mem_of_getElem? hr
      have HGr := hide ((unhide HG) r hmem)
      have HEr := hide ((unhide HEN) r hmem)
      have HEb := hide (fun W => Encode_brow r W)
      have HY := hide (fun h : recI r = 0 => okRecs_yes hr h)
      have HNO := hide (fun h : recI r ≠ 0 => okRecs_no hr h)
      have HLE := hide (fun h : recI r = 0 => encL_le h)
      have hbw : b < w.heap.size := (unhide HRA).lt
      clear hx hmem hr HG HEN
      have HRr := hide ((unhide HRA).below (unhide HB) hbw)
      obtain ⟨x0, x1, x2, x3, x4, x5, x6, x7⟩ := unhide HRr
      generalize hcr : recI r = cr at HEr HEb HY HNO HLE
      have HCR := hide hcr
      clear hcr
      obtain ⟨E, hE⟩ : ∃ E, encL r = E := ⟨_, rfl⟩
      have HE := hide hE
      rw [hE] at HLE HEb
      clear hE
      obtain ⟨rr, hrr⟩ : ∃ q, q = r := ⟨_, rfl⟩
      rw [← hrr] at HCR HY HE
      have HRR := hide hrr
      clear hrr
      obtain ⟨rc, rn, ⟨rk, ra, rb, rt⟩, rd, ru⟩ := r
      dsimp only [ARec.val] at *
      go_wp2_with fail
      refine ((unhide HGr) _).mono ?_
      rintro e w2 ⟨⟨g, rfl⟩, b2⟩
      clear x0 x1 x2 x3 x4 x5 x6 x7
      have HB2 := hide ((unhide HB).trans (b2.mono (unhide HB).size))
      have HC2 := hide ((unhide HC).below b2)
      have hz2w : w1.heap.size ≤ w2.heap.size := Nat.le_trans (unhide HZ) b2.size
      clear b2
      cases g
      case true =>
        go_wp2
        go_ret
        exact ⟨rfl, unhide HB2⟩
      obtain ⟨x0, x1, x2, x3, x4, x5, x6, x7⟩ := (unhide HRA).below (unhide HB2) hbw
      dsimp only at x0 x1 x2 x3 x4 x5 x6 x7
      go_wp2_with fail
      by_cases hcr : cr = 0
      · subst hcr
        have HYY := hide ((unhide HY) rfl)
        obtain ⟨n, hEn⟩ : ∃ n, E.length = n := ⟨_, rfl⟩
        refine ((unhide HEb) _ n E rfl hEn rfl).mono ?_
        rintro e w3 ⟨gx, cx, rfl, ox, b3⟩
        clear x0 x1 x2 x3 x4 x5 x6 x7
        have HB3 := hide ((unhide HB2).trans (b3.mono (unhide HB2).size))
        have HC3 := hide ((unhide HC2).below b3)
        have hz3w : w1.heap.size ≤ w3.heap.size := Nat.le_trans hz2w b3.size
        have HX3 := hide ox
        have hzn : n ≤ 255 := by have := (unhide HLE) rfl; omega
        have HBb : Hid (BRow w3 w1.heap.size (.slice a5 nb c5) (os.flatMap encL)) := (unhide HC3).b
        have hnb := unhide HNB
        clear ox b3
        go_wp2_with (first
          | (at_builtin; refine wpList_bytes' _ rfl _ _ rfl w1.heap.size (.slice a5 nb c5) (os.flatMap encL) rfl (unhide HBb) (.slice (some ⟨gx, 0, none⟩) n cx) n E rfl hEn (unhide HX3).lies (by rw [hnb]; omega) hz3w ?_; intro ad4 c4 w4 ho4 hg4 hat4; rw [hnb] at ho4 hat4; have HB4 := hide ((unhide HB3).grown hg4 (unhide HB3).size (fun j hj => Nat.le_trans hz1w ((unhide HBb).lt j hj).1)); have hz4w : w1.heap.size ≤ w4.heap.size := Nat.le_trans hz3w hg4.size; have HR4 := hide (row_keep (unhide HC3).r hg4 (apart_sym (unhide HC3).d56)); rw [unhide HMM] at HR4; obtain ⟨x0, x1, x2, x3, x4, x5, x6, x7⟩ := (unhide HRA).below (unhide HB4) hbw; dsimp only at x0 x1 x2 x3 x4 x5 x6 x7)
          | (at_builtin; refine wpList_append_lies _ rfl _ _ 56 rfl w1.heap.size 47 i0 _ 8 96 Try.underlying56 hi0 hz0 hz1 hz2 rfl (by omega) (.slice a6 m c6) m (os.flatMap rcells) rfl ((unhide HR4).alloc _) ⟨w4.heap.size, 0, none⟩ 1 1 [.int .i64 rc, .int .i64 rn, .int .i64 rk, .string ra, .string rb, .string rt, .int .i64 rd, .string ru] rfl rfl (World.news_of_block (cs := #[.int .i64 rc, .int .i64 rn, .int .i64 rk, .string ra, .string rb, .string rt, .int .i64 rd, .string ru]) (t := 47) (fr := (0, 0)) (heap_alloc_new w4 _)) (by simp [Value.oneCell']) (by omega) (by unfold maxLen; omega) (by omega) (by simp; omega) (w4.heap.size + 1) (by simp) ?_; intro g5 c5' w5 ho5 hg5 hat5 hlt5; have hz5w : w1.heap.size ≤ w5.heap.size := (by have := hg5.size; simp at this; omega); have HE5 := hide (row_keep ((row_keep (unhide HC3).e hg4 (apart_sym (unhide HC3).d57)).alloc (.cells #[.int .i64 rc, .int .i64 rn, .int .i64 rk, .string ra, .string rb, .string rt, .int .i64 rd, .string ru] 47)) hg5 (apart_sym (unhide HC3).d67)); rw [unhide HMM] at HE5)
          | (at_builtin; refine wpList_append_lies _ rfl _ _ 62 rfl w1.heap.size 3 j0 _ 1 8 Try.underlying62 hj0 hy0 hy1 hy2 rfl (by omega) (.slice a7 m c7) m (endsV os) rfl ((unhide HE5).alloc _) ⟨w5.heap.size, 0, none⟩ 1 1 [.int .i64 ((nb : Int) + (n : Int))] rfl rfl (World.news_of_block (cs := #[.int .i64 ((nb : Int) + (n : Int))]) (t := 3) (fr := (0, 0)) (heap_alloc_new w5 _)) (by simp [Value.oneCell']) (by omega) (by unfold maxLen; omega) (by omega) (by simp; omega) (w5.heap.size + 1) (by simp) ?_; intro g6 c6' w6 ho6 hg6 hat6 hlt6))
        have A1 := apart_new (apart_sym (unhide HC3).d56) hat4 (fun j hj => ((unhide HC3).r.lt j hj).2)
        have A2 := apart_new (apart_sym (unhide HC3).d57) hat4 (fun j hj => ((unhide HC3).e.lt j hj).2)
        have l4 : ∀ j, (Value.slice ad4 (nb + n) c4).ownBlock = some j → j < w4.heap.size + 1 := fun j hj => by have := (ho4.lt j hj).2; omega
        have A3 := apart_at (n := m + 1) (c := c5') (apart_sym A1) hat5 l4
        have A4 := apart_at (n := m + 1) (c := c5') (apart_sym (unhide HC3).d67) hat5 (fun j hj => by have := ((unhide HC3).e.lt j hj).2; have := hg4.size; omega)
        have hz5 : w4.heap.size + 1 ≤ w5.heap.size := by have := hg5.size; simp at this; omega
        have A5 := apart_at (n := m + 1) (c := c6') (apart_sym A2) hat6 (fun j hj => by have := l4 j hj; omega)
        have A6 := apart_at (n := m + 1) (c := c6') (apart_sym A4) hat6 (fun j hj => by have := (ho5.lt j hj).2; omega)
        have HB5 := hide (((unhide HB4).alloc (unhide HB4).size (.cells #[.int .i64 rc, .int .i64 rn, .int .i64 rk, .string ra, .string rb, .string rt, .int .i64 rd, .string ru] 47)).grown hg5 (by have := (unhide HB4).size; simp; omega) (fun j hj => Nat.le_trans hz1w ((unhide HR4).lt j hj).1))
        have HB6 := hide (((unhide HB5).alloc (unhide HB5).size (.cells #[.int .i64 ((nb : Int) + (n : Int))] 3)).grown hg6 (by have := (unhide HB5).size; simp; omega) (fun j hj => Nat.le_trans hz1w ((unhide HE5).lt j hj).1))
        have hb6 : BRow w6 w1.heap.size (.slice ad4 (nb + n) c4) ((os ++ [rr]).flatMap encL) := by
          have e1 : (os ++ [rr]).flatMap encL = os.flatMap encL ++ E := by rw [← unhide HE]; simp
          rw [e1]
          exact row_keep ((row_keep (ho4.alloc (.cells #[.int .i64 rc, .int .i64 rn, .int .i64 rk, .string ra, .string rb, .string rt, .int .i64 rd, .string ru] 47)) hg5 (apart_sym A1)).alloc (.cells #[.int .i64 ((nb : Int) + (n : Int))] 3)) hg6 (apart_sym A2)
        have hr6 : w6.ownsRow w1.heap.size 47 8 (.slice (some ⟨g5, 0, none⟩) (m + 1) c5') (os ++ [rr]).length ((os ++ [rr]).flatMap rcells) := by
          rw [flat_snoc, List.length_append, unhide HMM, unhide HRR]
          exact row_keep (ho5.alloc (.cells #[.int .i64 ((nb : Int) + (n : Int))] 3)) hg6 (apart_sym A4)
        have he6 : w6.ownsRow w1.heap.size 3 1 (.slice (some ⟨g6, 0, none⟩) (m + 1) c6') (os ++ [rr]).length (endsV (os ++ [rr])) := by
          have e1 : ((((os ++ [rr]).flatMap encL).length : Nat) : Int) = (nb : Int) + (n : Int) := by
            rw [← unhide HE] at hEn
            simp only [List.flatMap_append, List.flatMap_cons, List.flatMap_nil, List.append_nil, List.length_append, hnb, hEn]
            omega
          rw [endsV_snoc, e1, List.length_append, unhide HMM]
          exact ho6
        have HC6 : Hid (CutRows w1.heap.size w6 (.slice ad4 (nb + n) c4) (.slice (some ⟨g5, 0, none⟩) (m + 1) c5') (.slice (some ⟨g6, 0, none⟩) (m + 1) c6') (os ++ [rr])) := ⟨hb6, hr6, he6, A3, A5, A6⟩
        have hz6w : w1.heap.size ≤ w6.heap.size := by have := hg6.size; simp at this; omega
        clear A1 A2 A3 A4 A5 A6 l4 hb6 hr6 he6 hg4 hg5 hg6 ho4 ho5 ho6 hat4 hat5 hat6 x0 x1 x2 x3 x4 x5 x6 x7
        go_roundw
        case rel => exact ⟨k + 1, os ++ [rr], by omega, by go_num, hide (by rw [unhide HYY, ← unhide HOS]), unhide HC6, unhide HB6, hz6w⟩
        case measure => simp [intOf]; omega
      · refine ((unhide HEr) hcr _).mono ?_
        rintro e w3 ⟨rfl, b3⟩
        have HB3 := hide ((unhide HB2).trans (b3.mono (unhide HB2).size))
        have HC3 := hide ((unhide HC2).below b3)
        have hz3w : w1.heap.size ≤ w3.heap.size := Nat.le_trans hz2w b3.size
        have HNN := hide ((unhide HNO) hcr)
        clear b3
        go_wp2
        go_roundw
        case rel => exact ⟨k + 1, os, by omega, by go_num, hide (by rw [unhide HNN, ← unhide HOS]), unhide HC3, unhide HB3, hz3w⟩
        case measure => simp [intOf]; omega
    · have hkl : k = len := by omega
      subst hkl
      have hU0 : 0 ≤ IntKind.u64.wrap cut := by rw [IntKind.wrap_u64]; omega
      obtain ⟨K, hK, hKn⟩ : ∃ K : Nat, wrap64 (IntKind.u64.wrap cut % ((nb : Int) + 1)) = (K : Int) ∧ K ≤ nb := by
        have h1 := Int.emod_nonneg (IntKind.u64.wrap cut) (b := (nb : Int) + 1) (by omega)
        have h2 := Int.emod_lt_of_pos (IntKind.u64.wrap cut) (b := (nb : Int) + 1) (by omega)
        generalize IntKind.u64.wrap cut % ((nb : Int) + 1) = x at h1 h2
        refine ⟨x.toNat, ?_, by omega⟩
        simp only [wrap64]
        omega
      generalize hU : IntKind.u64.wrap cut = U at *
      have hrb := (unhide HC).b
      have hrr := (unhide HC).r
      have hre := (unhide HC).e
      unfold BRow at hrb
      rw [unhide HNB] at hrb
      rw [unhide HMM] at hrr hre
      have hc5 := row_cap hrb
      have hc6 := row_cap hrr
      have hcK : (K : Int) ≤ (c5 : Int) := by omega
      obtain ⟨m0, hm0, hf0, hf1, hf2⟩ := exists_cut os K
      have hall := allR_cut os K m0 (unhide HGD) hm0 hf0 hf1
      obtain ⟨fe, hfe⟩ : ∃ fe : Nat → Nat, ∀ j, fe j = endAt os j := ⟨_, fun _ => rfl⟩
      have hAll := All_row (unhide HC).b (unhide HNB) hKn (by omega)
      rw [hall] at hAll
      rw [unhide HMM] at hm0 hf1
      rw [← hfe] at hAll
      have hlm : (os.take m0).length = m0 := by rw [List.length_take, unhide HMM]; omega
      have HALL : Hid (Calls Try.prog 38 #[.slice a5 K c5] wr fun e w' => ∃ a c, e = .returned (.tuple #[.slice a m0 c, .int .i64 (fe m0 : Int)]) ∧ RecsAt w' a m0 (os.take m0) ∧ Below wr.heap.size wr w') := by
        refine hAll.mono ?_
        rintro e w' ⟨a, c, rfl, ho, hb⟩
        dsimp only at ho ⊢
        rw [hlm] at ho ⊢
        exact ⟨a, c, rfl, recs_row ho hlm, hb⟩
      have HF := hide (fun j (h : j < m0) => Nat.le_trans (Nat.le_of_eq (hfe (j + 1))) (hf2 j h))
      have HF1 := hide (fun (h : m0 < m) => Nat.lt_of_lt_of_eq (hf1 h) (hfe (m0 + 1)).symm)
      have HEC : Hid (∀ j, j < m → ∃ g, a7 = some ⟨g, 0, none⟩ ∧ g < wr.heap.size ∧ wr.cell? ⟨g, j, none⟩ = some (.int .i64 (fe (j + 1) : Int))) := fun j hj => by
        obtain ⟨g, cap, e, _⟩ := World.ownsRow.form hre (by omega)
        cases e
        have h1 := World.ownsRow.cells (v := .slice (some ⟨g, 0, none⟩) m c7) hre (g := g) rfl j _ (endsV_at os j (by rw [unhide HMM]; exact hj))
        rw [addr_add, Nat.zero_add, ← hfe] at h1
        exact ⟨g, rfl, World.block_lt_of_cell? _ _ h1, h1⟩
      have HF0 : Hid (fe 0 = 0) := by show fe 0 = 0; rw [hfe]; simp [endAt]
      have HRC := hide (recs_lies hrr (unhide HMM) m0 hm0)
      clear hfe hf0 hf1 hf2 hall hAll hlm hrb hrr hre
      go_wp2_with fail
      refine (unhide HALL).mono ?_
      rintro e w2 ⟨ag, cg, rfl, rg, b2⟩
      have HRG := hide rg
      have HB2 := hide ((unhide HB).trans (b2.mono (unhide HB).size))
      have HW2 := hide b2
      clear rg b2
      go_wp2_with fail
      go_loopw [14, 15] (fun v14 v15 w3 => ∃ j : Nat, j ≤ m0 ∧ v14 = .int .i64 (j : Int) ∧ v15 = .int .i64 (fe j : Int) ∧ w3 = w2) (fun v14 _ _ => m0 - (intOf v14).toNat)
      case atStart => exact ⟨0, Nat.zero_le _, rfl, by rw [unhide HF0]; rfl, rfl⟩
      case round =>
        obtain ⟨j, hj, rfl, rfl, rfl⟩ := hrel
        by_cases hjm : j < m0
        · obtain ⟨g, rfl, hgl, hcell⟩ := (unhide HEC) j (by omega)
          have hcell2 := ((unhide HW2).cell (p := ⟨g, j, none⟩) hgl).trans hcell
          have hle : (fe (j + 1) : Int) ≤ (K : Int) := by have := (unhide HF) j hjm; omega
          have hjl : (j : Int) < (m : Int) := by omega
          clear hcell
          go_wp2
          go_roundw
          case rel => exact ⟨j + 1, by omega, by go_num, rfl, by trivial⟩
          case measure => simp [intOf]; omega
        · obtain rfl : j = m0 := by omega
          have HSR := hide (SameRecords_eq ag a6 j cg c6 (os.take j) _ (unhide HRG) ((unhide HRC).below (unhide HW2)) (by omega))
          have hj6 : (j : Int) ≤ (c6 : Int) := by omega
          by_cases hjl : (j : Int) < (m : Int)
          · obtain ⟨g, rfl, hgl, hcell⟩ := (unhide HEC) j (by omega)
            have hcell2 := ((unhide HW2).cell (p := ⟨g, j, none⟩) hgl).trans hcell
            have hle : ¬ ((fe (j + 1) : Int) ≤ (K : Int)) := by have := (unhide HF1) (by omega); omega
            clear hcell
            go_wp2_with fail
            refine (unhide HSR).mono ?_
            rintro e w4 ⟨rfl, b4⟩
            have HB4 := hide ((unhide HB2).trans (b4.mono (unhide HB2).size))
            clear b4
            go_wp2
            go_ret
            exact ⟨rfl, unhide HB4⟩
          · go_wp2_with fail
            refine (unhide HSR).mono ?_
            rintro e w4 ⟨rfl, b4⟩
            have HB4 := hide ((unhide HB2).trans (b4.mono (unhide HB2).size))
            clear b4
            go_wp2
            go_ret
            exact ⟨rfl, unhide HB4⟩

end Go.Proofs.Ytemimppknlfghaa
