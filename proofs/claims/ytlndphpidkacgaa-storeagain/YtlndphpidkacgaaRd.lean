/- The walk of the reference's Names. -/
import Derived.Test.YtlndphpidkacgaaRc
import Derived.Deep.RegionLaw
namespace Go.Proofs.Ytlndphpidkacgaa
open Go.RowKit
set_option linter.unusedSimpArgs false
set_option linter.unusedVariables false

theorem names_take_succ (st : List AFile) (k : Nat) (f : AFile) (h : st[k]? = some f) : (st.map AFile.name).take (k + 1) = (st.map AFile.name).take k ++ [f.name] := by
  rw [List.take_add_one, List.getElem?_map, h]
  rfl

theorem lies_row {w : World} {base g n cap : Nat} {L : List ByteArray} (ho : w.ownsRow base 9 1 (.slice (some ⟨g, 0, none⟩) n cap) n (L.map .string)) (q : Nat) (hq : q ≤ n) (W : World) (hW : W.heap[g]? = w.heap[g]?) :
    Lies W (.slice (some ⟨g, 0, none⟩) q cap) q ((L.take q).map .string) ∧ Lies W (.slice (if cap = q then some ⟨g, 0, none⟩ else some ⟨g, q, none⟩) (n - q) (cap - q)) (n - q) ((L.drop q).map .string) := by
  have hl : L.length = n := by simpa using ho.1
  have hc := ho.cells (g := g) rfl
  have e : ∀ i, (⟨g, 0, none⟩ : Addr).add i = ⟨g, i, none⟩ := fun i => by unfold Addr.add; split <;> simp_all
  have e2 : ∀ i, (⟨g, q, none⟩ : Addr).add i = ⟨g, q + i, none⟩ := fun i => by unfold Addr.add; split <;> simp_all
  have hW' : ∀ i, W.cell? ⟨g, i, none⟩ = w.cell? ⟨g, i, none⟩ := fun i => World.cell?_of_block (a := ⟨g, i, none⟩) hW
  refine ⟨.inr ⟨_, _, rfl, fun j u hu => ?_⟩, ?_⟩
  · rw [e, hW']
    have hj : (L.map Value.string)[j]? = some u := by
      rw [List.map_take, List.getElem?_take] at hu
      split at hu
      · exact hu
      · cases hu
    have := hc j u hj
    rwa [e] at this
  · by_cases h : cap = q
    · rw [if_pos h]
      refine .inr ⟨_, _, rfl, fun j u hu => ?_⟩
      exfalso
      have hnc : n ≤ cap := by
        rcases ho.2 with ⟨he, _⟩ | ⟨g', cap', cur, he, _, _, hnc, _⟩
        · cases he
        · obtain ⟨_, rfl⟩ : g = g' ∧ cap = cap' := by simpa using he
          exact hnc
      rw [List.drop_eq_nil_of_le (by omega)] at hu
      cases hu
    · rw [if_neg h]
      refine .inr ⟨_, _, rfl, fun j u hu => ?_⟩
      rw [e2, hW']
      have hj : (L.map Value.string)[q + j]? = some u := by
        rw [List.map_drop, List.getElem?_drop] at hu
        exact hu
      have := hc (q + j) u hj
      rwa [e] at this

theorem ones (L : List ByteArray) : ∀ u ∈ L.map Value.string, u.oneCell' = true := fun u hu => by
  obtain ⟨_, _, rfl⟩ := List.mem_map.1 hu
  rfl

set_option maxRecDepth 100000 in
set_option maxHeartbeats 4000000 in
theorem dNames_any (g : Option Addr) (cap : Nat) (st : List AFile) (w : World) (hn : st.length ≤ 6)
    (hc : ∀ (j : Nat) (f : AFile), st[j]? = some f → ∃ B, g = some ⟨B, 0, none⟩ ∧ w.cell? ⟨B, j * 2, none⟩ = some (.string f.name)) :
    Calls Try.prog 24 #[.slice g st.length cap] w
      fun e w' => ∃ a c, e = .returned (.slice a st.length c) ∧ w'.ownsRow w.heap.size 9 1 (.slice a st.length c) st.length ((sNames st).map .string) ∧ Below w.heap.size w w' := by
  obtain ⟨i0, hi0, hz0, hz1, hz2⟩ := info_parts info9
  have HC := hide hc
  clear hc
  go_enter Try.func24, Try.ntmps24
  go_wp2
  go_loopw [3, 4] (fun v i wr => ∃ (k : Nat) (L : List ByteArray), k ≤ st.length ∧ i = .int .i64 k ∧ Hid (∃ a c, v = .slice a k c) ∧ Hid (Below w.heap.size w wr) ∧ Hid (wr.ownsRow w.heap.size 9 1 v k (L.map .string)) ∧ Hid (L.Perm ((st.map AFile.name).take k)) ∧ Hid (SortedB L)) (fun _ i _ => st.length - (intOf i).toNat)
  case atStart => exact ⟨0, [], Nat.zero_le _, rfl, ⟨none, 0, rfl⟩, Below.refl _ _, World.ownsRow_nil _ _ _ _, by simp [Hid], List.Pairwise.nil⟩
  case round =>
    obtain ⟨k, L, hk, rfl, ⟨va, vc, rfl⟩, HB, HO, HP, HS⟩ := hrel
    by_cases hlt : (k : Int) < (st.length : Int)
    · obtain ⟨f, hf⟩ : ∃ f, st[k]? = some f := ⟨_, List.getElem?_eq_getElem (by omega)⟩
      obtain ⟨B, rfl, hcell0⟩ := unhide HC k f hf
      have hBlt : B < w.heap.size := World.block_lt_of_cell? w _ hcell0
      have hcell := ((unhide HB).cell (p := ⟨B, k * 2, none⟩) hBlt).trans hcell0
      have HF := hide hf
      have hll : L.length = k := by have := (unhide HO).1; simpa using this
      have HL := hide hll
      clear hll
      have hwz := (unhide HB).size
      have hk0 : (0 : Int) ≤ (k : Int) := by omega
      clear hf hcell0
      obtain ⟨wo, rfl⟩ : ∃ wo : World, wo = wr := ⟨_, rfl⟩
      go_wp2
      go_loopw [5] (fun j wi => ∃ q : Nat, q ≤ k ∧ j = .int .i64 q ∧ Hid (SameW wo wi) ∧ Hid (∀ (j : Nat) (y : ByteArray), j < q → L[j]? = some y → Op.bytesLess y.toList f.name.toList = true)) (fun j _ => k - (intOf j).toNat)
      case atStart => exact ⟨0, Nat.zero_le _, rfl, SameW.refl _, fun j y hj => absurd hj (by omega)⟩
      case round =>
        obtain ⟨q, hq, rfl, HW, HJ⟩ := hrel
        have ci := ((unhide HW).cell ⟨B, k * 2, none⟩).trans hcell
        by_cases hqk : (q : Int) < (k : Int)
        · obtain ⟨y, hy⟩ : ∃ y, L[q]? = some y := ⟨_, List.getElem?_eq_getElem (by rw [unhide HL]; omega)⟩
          have hcy : ∃ g1, va = some ⟨g1, 0, none⟩ ∧ wo.cell? ⟨g1, q, none⟩ = some (.string y) := text_cell (ownsRow_base (unhide HO) (Nat.zero_le _)) q y hy
          obtain ⟨g1, rfl, cy0⟩ := hcy
          have cy := ((unhide HW).cell ⟨g1, q, none⟩).trans cy0
          have hq0 : (0 : Int) ≤ (q : Int) := by omega
          have HY := hide hy
          clear hy cy0
          cases hb : Op.bytesLess y.toList f.name.toList
          · have HBB := hide hb
            go_wp2_with fail
            go_quiet (fail)
            go_wp2_with fail
            obtain ⟨wx, hwx⟩ : ∃ wx, wx = wr.drewN nq := ⟨_, rfl⟩
            have HX : Hid (SameW wo wx) := by rw [hwx]; exact ⟨(unhide HW).os, (unhide HW).tape, (unhide HW).output, (unhide HW).heap⟩
            rw [← hwx]
            have cx := ((unhide HX).cell ⟨B, k * 2, none⟩).trans hcell
            have HN2 : Hid (∀ y, L[q]? = some y → Op.bytesLess y.toList f.name.toList = false) := fun y2 hy2 => by rw [unhide HY] at hy2; cases hy2; exact unhide HBB
            have HOx := hide ((unhide HX).owns (unhide HO))
            have hBx : B < wx.heap.size := World.block_lt_of_cell? wx _ cx
            have hwxz : w.heap.size ≤ wx.heap.size := by rw [(unhide HX).heap]; exact hwz
            have hvc : k ≤ vc := by
              rcases (unhide HO).2 with ⟨he, _⟩ | ⟨g', cap', cur, he, _, _, hnc, _⟩
              · cases he
              · obtain ⟨_, rfl⟩ : g1 = g' ∧ vc = cap' := by simpa using he
                exact hnc
            have hgx : g1 < wx.heap.size := ((unhide HOx).lt g1 rfl).2
            obtain ⟨A, hA, HL2⟩ : ∃ A : Addr, (if vc = q then some (⟨g1, 0, none⟩ : Addr) else some ⟨g1, q, none⟩) = some A ∧ Hid (∀ W, Below wx.heap.size wx W → Lies W (.slice (some A) (k - q) (vc - q)) (k - q) ((L.drop q).map .string)) := by
              by_cases h : vc = q
              · exact ⟨⟨g1, 0, none⟩, by simp [h], fun W hW => by have := (lies_row (unhide HOx) q hq W (hW.block g1 hgx)).2; rwa [if_pos h] at this⟩
              · exact ⟨⟨g1, q, none⟩, by simp [h], fun W hW => by have := (lies_row (unhide HOx) q hq W (hW.block g1 hgx)).2; rwa [if_neg h] at this⟩
            have HL1 : Hid (∀ W, Below wx.heap.size wx W → Lies W (.slice (some ⟨g1, 0, none⟩) q vc) q ((L.take q).map .string)) := fun W hW => (lies_row (unhide HOx) q hq W (hW.block g1 hgx)).1
            have HE1 : Hid (((L.take q).map Value.string).length = q * 1) := by have := unhide HL; show _ = _; simp; omega
            have HE2 : Hid (∀ u ∈ (L.take q).map Value.string, u.oneCell' = true) := ones _
            have HE3 : Hid (((L.drop q).map Value.string).length = (k - q) * 1) := by have := unhide HL; show _ = _; simp; omega
            have HE4 : Hid (∀ u ∈ (L.drop q).map Value.string, u.oneCell' = true) := ones _
            have hqv : q ≤ vc := by omega
            have hqv2 : (q : Int) ≤ (vc : Int) := by omega
            have hqk3 : (q : Int) ≤ (k : Int) := by omega
            have hq00 : (0 : Int) ≤ (q : Int) := by omega
            clear hwx
            go_region_law (first | (refine step_new (wx := wx) (by rfl) (.tmp 31) (.tmp 34) 37 (by rfl) (by first | with_reducible exact below_drew wx | with_reducible exact below_drew_alloc wx _ | with_reducible exact below_alloc_drew wx _ | with_reducible exact bA | with_reducible exact bA.alloc bA.size _ | with_reducible exact bB) 9 i0 _ 1 16 Try.underlying37 hi0 hz0 hz1 hz2 rfl (by omega) (.slice none 0 0) 0 [] (by simp [Act.eval, Act.put]) (World.ownsRow_nil _ _ _ _) (.slice (some ⟨g1, 0, none⟩) q vc) q ((L.take q).map .string) (by simp [Act.eval, Act.put]) ((unhide HL1) _ (by first | with_reducible exact below_drew wx | with_reducible exact below_drew_alloc wx _ | with_reducible exact below_alloc_drew wx _ | with_reducible exact bA | with_reducible exact bA.alloc bA.size _ | with_reducible exact bB)) (unhide HE1) (unhide HE2) (by unfold maxLen; omega) (by omega) ?_; intro aA cA wA hownA bA hgrowA; rw [Nat.zero_add, List.nil_append] at hownA; rw [Nat.zero_add]; have hcA := (bA.cell (p := ⟨B, k * 2, none⟩) hBx).trans cx; try (have hsA : wA.heap[wx.heap.size]? = some (.cells #[.string f.name] 9) := (by with_reducible exact src_after hgrowA)); clear hgrowA) | (refine step_new (wx := wx) (by rfl) (.tmp 35) (.tmp 41) 37 (by rfl) (by first | with_reducible exact below_drew wx | with_reducible exact below_drew_alloc wx _ | with_reducible exact below_alloc_drew wx _ | with_reducible exact bA | with_reducible exact bA.alloc bA.size _ | with_reducible exact bB) 9 i0 _ 1 16 Try.underlying37 hi0 hz0 hz1 hz2 rfl (by omega) (.slice aA q cA) q ((L.take q).map .string) (by simp [Act.eval, Act.put]) hownA (.slice (some ⟨wx.heap.size, 0, none⟩) 1 1) 1 [.string f.name] (by simp [Act.eval, Act.put]) (lies_block hsA 1 1) (by rfl) (by simp [Value.oneCell']) (by unfold maxLen; omega) (by omega) ?_; intro aB cB wB hownB bB hgrowB; clear hgrowB) | (refine step_new (wx := wx) (by rfl) (.tmp 35) (.tmp 41) 37 (by rfl) (by first | with_reducible exact below_drew wx | with_reducible exact below_drew_alloc wx _ | with_reducible exact below_alloc_drew wx _ | with_reducible exact bA | with_reducible exact bA.alloc bA.size _ | with_reducible exact bB) 9 i0 _ 1 16 Try.underlying37 hi0 hz0 hz1 hz2 rfl (by omega) (.slice aA q cA) q ((L.take q).map .string) (by simp [Act.eval, Act.put]) (hownA.alloc _) (.slice (some ⟨wA.heap.size, 0, none⟩) 1 1) 1 [.string f.name] (by simp [Act.eval, Act.put]) (lies_block (heap_alloc_new wA _) 1 1) (by rfl) (by simp [Value.oneCell']) (by unfold maxLen; omega) (by omega) ?_; intro aB cB wB hownB bB hgrowB; clear hgrowB) | (refine step_new (wx := wx) (by rfl) (.tmp 42) (.tmp 45) 37 (by rfl) (by first | with_reducible exact below_drew wx | with_reducible exact below_drew_alloc wx _ | with_reducible exact below_alloc_drew wx _ | with_reducible exact bA | with_reducible exact bA.alloc bA.size _ | with_reducible exact bB) 9 i0 _ 1 16 Try.underlying37 hi0 hz0 hz1 hz2 rfl (by omega) (.slice aB (q + 1) cB) (q + 1) ((L.take q).map .string ++ [.string f.name]) (by simp [Act.eval, Act.put]) hownB (.slice (some A) (k - q) (vc - q)) (k - q) ((L.drop q).map .string) (by simp [Act.eval, Act.put]) ((unhide HL2) _ bB) (unhide HE3) (unhide HE4) (by unfold maxLen; omega) (by omega) ?_; intro aC cC wC hownC bC hgrowC; clear hgrowC) | fail)
            all_goals
              have HBC := hide ((unhide HB).trans (((unhide HX).below w.heap.size).trans (bC.mono hwxz)))
              have HOC : Hid (wC.ownsRow w.heap.size 9 1 (.slice aC (q + 1 + (k - q)) cC) (q + 1 + (k - q)) ((L.take q ++ [f.name] ++ L.drop q).map .string)) := by
                have e : (L.take q ++ [f.name] ++ L.drop q).map Value.string = (L.take q).map Value.string ++ [.string f.name] ++ (L.drop q).map Value.string := by simp
                show wC.ownsRow _ _ _ _ _ _
                rw [e]
                exact ownsRow_base hownC hwxz
              clear bC bB bA hownA hownB hownC
              go_wp2
              go_roundw
              case rel =>
                have e : q + 1 + (k - q) = k + 1 := by omega
                rw [e] at HOC
                refine ⟨k + 1, L.take q ++ [f.name] ++ L.drop q, by omega, by go_num, ⟨aC, cC, by first | rfl | rw [e]⟩, unhide HBC, ?_, ?_, sorted_ins (unhide HS) (unhide HJ) (unhide HN2)⟩
                · first | exact unhide HOC | (rw [e]; exact unhide HOC)
                · rw [Hid, names_take_succ st k f (unhide HF)]; exact perm_ins (unhide HP)
              case measure => simp [intOf]; omega
          · have HBB := hide hb
            go_wp2_with fail
            go_quiet (fail)
            go_wp2
            go_roundw
            case rel => exact ⟨q + 1, by omega, by go_num, ⟨(unhide HW).os, (unhide HW).tape, (unhide HW).output, (unhide HW).heap⟩, fun j y' hj hy' => by
              by_cases hjq : j = q
              · subst hjq
                rw [unhide HY] at hy'
                cases hy'
                exact unhide HBB
              · exact unhide HJ j y' (by omega) hy'⟩
            case measure => simp [intOf]; omega
        · have hqk2 : q = k := by omega
          rcases (unhide HO).2 with ⟨hnil, hnk⟩ | ⟨g1, cap1, cur1, he, _⟩
          · obtain ⟨rfl, rfl⟩ : va = none ∧ vc = 0 := by
              simp at hnil
              exact ⟨hnil.1, hnil.2.2⟩
            clear hnil
            obtain ⟨rfl, rfl⟩ : k = 0 ∧ q = 0 := ⟨hnk, by omega⟩
            have hst1 : 0 < st.length := by have := hlt; simp at this; exact this
            have hst2 : ¬ st.length = 0 := by omega
            clear hqk hqk2
            go_wp2_with fail
            go_quiet (fail)
            go_wp2_with fail
            obtain ⟨wx, hwx⟩ : ∃ wx, wx = wr.drewN nq := ⟨_, rfl⟩
            have HX : Hid (SameW wo wx) := by rw [hwx]; exact ⟨(unhide HW).os, (unhide HW).tape, (unhide HW).output, (unhide HW).heap⟩
            rw [← hwx]
            have cx : wx.cell? ⟨B, 0, none⟩ = some (.string f.name) := ((unhide HX).cell ⟨B, 0, none⟩).trans (by simpa using hcell)
            have hBx : B < wx.heap.size := World.block_lt_of_cell? wx _ cx
            have hwxz : w.heap.size ≤ wx.heap.size := by rw [(unhide HX).heap]; exact hwz
            have hst0 : (0 : Int) < (st.length : Int) := by simpa using hlt
            have HL1 : Hid (∀ W, Below wx.heap.size wx W → Lies W (.slice none 0 0) 0 ([] : List Value)) := fun W _ => .inl ⟨rfl, rfl, rfl⟩
            have HL2 := HL1
            have HE1 : Hid (([] : List Value).length = 0 * 1) := rfl
            have HE2 : Hid (∀ u ∈ ([] : List Value), u.oneCell' = true) := fun u hu => by cases hu
            have HE3 := HE1
            have HE4 := HE2
            clear hwx
            go_region_law (first | (refine step_new (wx := wx) (by rfl) (.tmp 31) (.tmp 34) 37 (by rfl) (by first | with_reducible exact below_drew wx | with_reducible exact below_drew_alloc wx _ | with_reducible exact below_alloc_drew wx _ | with_reducible exact bA | with_reducible exact bA.alloc bA.size _ | with_reducible exact bB) 9 i0 _ 1 16 Try.underlying37 hi0 hz0 hz1 hz2 rfl (by omega) (.slice none 0 0) 0 [] (by simp [Act.eval, Act.put]) (World.ownsRow_nil _ _ _ _) (.slice none 0 0) 0 ([]) (by simp [Act.eval, Act.put]) ((unhide HL1) _ (by first | with_reducible exact below_drew wx | with_reducible exact below_drew_alloc wx _ | with_reducible exact below_alloc_drew wx _ | with_reducible exact bA | with_reducible exact bA.alloc bA.size _ | with_reducible exact bB)) (unhide HE1) (unhide HE2) (by unfold maxLen; omega) (by omega) ?_; intro aA cA wA hownA bA hgrowA; rw [Nat.zero_add, List.nil_append] at hownA; rw [Nat.zero_add]; have hcA := (bA.cell (p := ⟨B, 0, none⟩) hBx).trans cx; try (have hsA : wA.heap[wx.heap.size]? = some (.cells #[.string f.name] 9) := (by with_reducible exact src_after hgrowA)); clear hgrowA) | (refine step_new (wx := wx) (by rfl) (.tmp 35) (.tmp 41) 37 (by rfl) (by first | with_reducible exact below_drew wx | with_reducible exact below_drew_alloc wx _ | with_reducible exact below_alloc_drew wx _ | with_reducible exact bA | with_reducible exact bA.alloc bA.size _ | with_reducible exact bB) 9 i0 _ 1 16 Try.underlying37 hi0 hz0 hz1 hz2 rfl (by omega) (.slice aA 0 cA) 0 ([]) (by simp [Act.eval, Act.put]) hownA (.slice (some ⟨wx.heap.size, 0, none⟩) 1 1) 1 [.string f.name] (by simp [Act.eval, Act.put]) (lies_block hsA 1 1) (by rfl) (by simp [Value.oneCell']) (by unfold maxLen; omega) (by omega) ?_; intro aB cB wB hownB bB hgrowB; clear hgrowB) | (refine step_new (wx := wx) (by rfl) (.tmp 35) (.tmp 41) 37 (by rfl) (by first | with_reducible exact below_drew wx | with_reducible exact below_drew_alloc wx _ | with_reducible exact below_alloc_drew wx _ | with_reducible exact bA | with_reducible exact bA.alloc bA.size _ | with_reducible exact bB) 9 i0 _ 1 16 Try.underlying37 hi0 hz0 hz1 hz2 rfl (by omega) (.slice aA 0 cA) 0 ([]) (by simp [Act.eval, Act.put]) (hownA.alloc _) (.slice (some ⟨wA.heap.size, 0, none⟩) 1 1) 1 [.string f.name] (by simp [Act.eval, Act.put]) (lies_block (heap_alloc_new wA _) 1 1) (by rfl) (by simp [Value.oneCell']) (by unfold maxLen; omega) (by omega) ?_; intro aB cB wB hownB bB hgrowB; clear hgrowB) | (refine step_new (wx := wx) (by rfl) (.tmp 42) (.tmp 45) 37 (by rfl) (by first | with_reducible exact below_drew wx | with_reducible exact below_drew_alloc wx _ | with_reducible exact below_alloc_drew wx _ | with_reducible exact bA | with_reducible exact bA.alloc bA.size _ | with_reducible exact bB) 9 i0 _ 1 16 Try.underlying37 hi0 hz0 hz1 hz2 rfl (by omega) (.slice aB (0 + 1) cB) (0 + 1) ([] ++ [.string f.name]) (by simp [Act.eval, Act.put]) hownB (.slice none 0 0) 0 ([]) (by simp [Act.eval, Act.put]) ((unhide HL2) _ bB) (unhide HE3) (unhide HE4) (by unfold maxLen; omega) (by omega) ?_; intro aC cC wC hownC bC hgrowC; clear hgrowC) | fail)
            all_goals
              have HBC := hide ((unhide HB).trans (((unhide HX).below w.heap.size).trans (bC.mono hwxz)))
              have HOC : Hid (wC.ownsRow w.heap.size 9 1 (.slice aC 1 cC) 1 ([f.name].map .string)) := ownsRow_base hownC hwxz
              clear bC bB bA hownA hownB hownC
              go_wp2
              go_roundw
              case rel => exact ⟨1, [f.name], by omega, by go_num, ⟨aC, cC, rfl⟩, unhide HBC, unhide HOC, by rw [Hid, show (1 : Nat) = 0 + 1 from rfl, names_take_succ st 0 f (unhide HF)]; simp, List.pairwise_singleton _ _⟩
              case measure => simp [intOf]; omega
          · obtain ⟨rfl, rfl⟩ : va = some ⟨g1, 0, none⟩ ∧ vc = cap1 := by simpa using he
            clear he
            subst hqk2
            go_wp2_with fail
            go_quiet (fail)
            go_wp2_with fail
            obtain ⟨wx, hwx⟩ : ∃ wx, wx = wr.drewN nq := ⟨_, rfl⟩
            have HX : Hid (SameW wo wx) := by rw [hwx]; exact ⟨(unhide HW).os, (unhide HW).tape, (unhide HW).output, (unhide HW).heap⟩
            rw [← hwx]
            have cx := ((unhide HX).cell ⟨B, q * 2, none⟩).trans hcell
            have HN2 : Hid (∀ y, L[q]? = some y → Op.bytesLess y.toList f.name.toList = false) := fun y2 hy2 => by rw [List.getElem?_eq_none (by rw [unhide HL]; omega)] at hy2; cases hy2
            have HOx := hide ((unhide HX).owns (unhide HO))
            have hBx : B < wx.heap.size := World.block_lt_of_cell? wx _ cx
            have hwxz : w.heap.size ≤ wx.heap.size := by rw [(unhide HX).heap]; exact hwz
            have hvc : q ≤ vc := by
              rcases (unhide HO).2 with ⟨he, _⟩ | ⟨g', cap', cur, he, _, _, hnc, _⟩
              · cases he
              · obtain ⟨_, rfl⟩ : g1 = g' ∧ vc = cap' := by simpa using he
                exact hnc
            have hgx : g1 < wx.heap.size := ((unhide HOx).lt g1 rfl).2
            obtain ⟨A, hA, HL2⟩ : ∃ A : Addr, (if vc = q then some (⟨g1, 0, none⟩ : Addr) else some ⟨g1, q, none⟩) = some A ∧ Hid (∀ W, Below wx.heap.size wx W → Lies W (.slice (some A) (q - q) (vc - q)) (q - q) ((L.drop q).map .string)) := by
              by_cases h : vc = q
              · exact ⟨⟨g1, 0, none⟩, by simp [h], fun W hW => by have := (lies_row (unhide HOx) q hq W (hW.block g1 hgx)).2; rwa [if_pos h] at this⟩
              · exact ⟨⟨g1, q, none⟩, by simp [h], fun W hW => by have := (lies_row (unhide HOx) q hq W (hW.block g1 hgx)).2; rwa [if_neg h] at this⟩
            have HL1 : Hid (∀ W, Below wx.heap.size wx W → Lies W (.slice (some ⟨g1, 0, none⟩) q vc) q ((L.take q).map .string)) := fun W hW => (lies_row (unhide HOx) q hq W (hW.block g1 hgx)).1
            have HE1 : Hid (((L.take q).map Value.string).length = q * 1) := by have := unhide HL; show _ = _; simp; omega
            have HE2 : Hid (∀ u ∈ (L.take q).map Value.string, u.oneCell' = true) := ones _
            have HE3 : Hid (((L.drop q).map Value.string).length = (q - q) * 1) := by have := unhide HL; show _ = _; simp; omega
            have HE4 : Hid (∀ u ∈ (L.drop q).map Value.string, u.oneCell' = true) := ones _
            have hqv : q ≤ vc := by omega
            have hqv2 : (q : Int) ≤ (vc : Int) := by omega
            have hqk3 : (q : Int) ≤ (q : Int) := by omega
            have hq00 : (0 : Int) ≤ (q : Int) := by omega
            clear hwx
            go_region_law (first | (refine step_new (wx := wx) (by rfl) (.tmp 31) (.tmp 34) 37 (by rfl) (by first | with_reducible exact below_drew wx | with_reducible exact below_drew_alloc wx _ | with_reducible exact below_alloc_drew wx _ | with_reducible exact bA | with_reducible exact bA.alloc bA.size _ | with_reducible exact bB) 9 i0 _ 1 16 Try.underlying37 hi0 hz0 hz1 hz2 rfl (by omega) (.slice none 0 0) 0 [] (by simp [Act.eval, Act.put]) (World.ownsRow_nil _ _ _ _) (.slice (some ⟨g1, 0, none⟩) q vc) q ((L.take q).map .string) (by simp [Act.eval, Act.put]) ((unhide HL1) _ (by first | with_reducible exact below_drew wx | with_reducible exact below_drew_alloc wx _ | with_reducible exact below_alloc_drew wx _ | with_reducible exact bA | with_reducible exact bA.alloc bA.size _ | with_reducible exact bB)) (unhide HE1) (unhide HE2) (by unfold maxLen; omega) (by omega) ?_; intro aA cA wA hownA bA hgrowA; rw [Nat.zero_add, List.nil_append] at hownA; rw [Nat.zero_add]; have hcA := (bA.cell (p := ⟨B, q * 2, none⟩) hBx).trans cx; try (have hsA : wA.heap[wx.heap.size]? = some (.cells #[.string f.name] 9) := (by with_reducible exact src_after hgrowA)); clear hgrowA) | (refine step_new (wx := wx) (by rfl) (.tmp 35) (.tmp 41) 37 (by rfl) (by first | with_reducible exact below_drew wx | with_reducible exact below_drew_alloc wx _ | with_reducible exact below_alloc_drew wx _ | with_reducible exact bA | with_reducible exact bA.alloc bA.size _ | with_reducible exact bB) 9 i0 _ 1 16 Try.underlying37 hi0 hz0 hz1 hz2 rfl (by omega) (.slice aA q cA) q ((L.take q).map .string) (by simp [Act.eval, Act.put]) hownA (.slice (some ⟨wx.heap.size, 0, none⟩) 1 1) 1 [.string f.name] (by simp [Act.eval, Act.put]) (lies_block hsA 1 1) (by rfl) (by simp [Value.oneCell']) (by unfold maxLen; omega) (by omega) ?_; intro aB cB wB hownB bB hgrowB; clear hgrowB) | (refine step_new (wx := wx) (by rfl) (.tmp 35) (.tmp 41) 37 (by rfl) (by first | with_reducible exact below_drew wx | with_reducible exact below_drew_alloc wx _ | with_reducible exact below_alloc_drew wx _ | with_reducible exact bA | with_reducible exact bA.alloc bA.size _ | with_reducible exact bB) 9 i0 _ 1 16 Try.underlying37 hi0 hz0 hz1 hz2 rfl (by omega) (.slice aA q cA) q ((L.take q).map .string) (by simp [Act.eval, Act.put]) (hownA.alloc _) (.slice (some ⟨wA.heap.size, 0, none⟩) 1 1) 1 [.string f.name] (by simp [Act.eval, Act.put]) (lies_block (heap_alloc_new wA _) 1 1) (by rfl) (by simp [Value.oneCell']) (by unfold maxLen; omega) (by omega) ?_; intro aB cB wB hownB bB hgrowB; clear hgrowB) | (refine step_new (wx := wx) (by rfl) (.tmp 42) (.tmp 45) 37 (by rfl) (by first | with_reducible exact below_drew wx | with_reducible exact below_drew_alloc wx _ | with_reducible exact below_alloc_drew wx _ | with_reducible exact bA | with_reducible exact bA.alloc bA.size _ | with_reducible exact bB) 9 i0 _ 1 16 Try.underlying37 hi0 hz0 hz1 hz2 rfl (by omega) (.slice aB (q + 1) cB) (q + 1) ((L.take q).map .string ++ [.string f.name]) (by simp [Act.eval, Act.put]) hownB (.slice (some A) (q - q) (vc - q)) (q - q) ((L.drop q).map .string) (by simp [Act.eval, Act.put]) ((unhide HL2) _ bB) (unhide HE3) (unhide HE4) (by unfold maxLen; omega) (by omega) ?_; intro aC cC wC hownC bC hgrowC; clear hgrowC) | fail)
            all_goals
              have HBC := hide ((unhide HB).trans (((unhide HX).below w.heap.size).trans (bC.mono hwxz)))
              have HOC : Hid (wC.ownsRow w.heap.size 9 1 (.slice aC (q + 1 + (q - q)) cC) (q + 1 + (q - q)) ((L.take q ++ [f.name] ++ L.drop q).map .string)) := by
                have e : (L.take q ++ [f.name] ++ L.drop q).map Value.string = (L.take q).map Value.string ++ [.string f.name] ++ (L.drop q).map Value.string := by simp
                show wC.ownsRow _ _ _ _ _ _
                rw [e]
                exact ownsRow_base hownC hwxz
              clear bC bB bA hownA hownB hownC
              go_wp2
              go_roundw
              case rel =>
                have e : q + 1 + (q - q) = q + 1 := by omega
                rw [e] at HOC
                refine ⟨q + 1, L.take q ++ [f.name] ++ L.drop q, by omega, by go_num, ⟨aC, cC, by first | rfl | rw [e]⟩, unhide HBC, ?_, ?_, sorted_ins (unhide HS) (unhide HJ) (unhide HN2)⟩
                · first | exact unhide HOC | (rw [e]; exact unhide HOC)
                · rw [Hid, names_take_succ st q f (unhide HF)]; exact perm_ins (unhide HP)
              case measure => simp [intOf]; omega
    · have hkk : k = st.length := by omega
      subst hkk
      go_wp2
      go_ret
      refine ⟨_, _, rfl, ?_, unhide HB⟩
      have e : L = sNames st := by
        have hp := unhide HP
        rw [List.take_of_length_le (by simp)] at hp
        exact sorted_unique hp (unhide HS)
      rw [← e]
      exact unhide HO

end Go.Proofs.Ytlndphpidkacgaa
