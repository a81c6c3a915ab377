/- slices.Delete at packets. -/
import Derived.Test.YtlndphpidkacgabPe
namespace Go.Proofs.Ytlndphpidkacgab
open Go.RowKit
set_option linter.unusedSimpArgs false
set_option linter.unusedVariables false

def zeroCellsP : List Value := [.bool false, .int .i64 0, .int .i64 0, .int .i64 0, .string ⟨#[]⟩, .string ⟨#[]⟩, .string ⟨#[]⟩, .int .i64 0, .string ⟨#[]⟩]

theorem run_clearP (w : World) (ty : TypeId) (b o c : Nat) (hc : ∀ j, j < 9 → (w.cell? ⟨b, o + j, none⟩).isSome = true) (hf : ∀ j, j < 9 → w.frozen? ⟨b, o + j, none⟩ = false) :
    (Builtin.clear_ #[26] ty #[.slice (some ⟨b, o, none⟩) 1 c]).run Try.prog w = .ok (.tuple #[]) (w.setCells b o zeroCellsP) := by
  have hz : (Builtin.zeroCells (Value.cells (.agg #[.bool false, .int .i64 0, .int .i64 0, .int .i64 0, .string ⟨#[]⟩, .string ⟨#[]⟩, .string ⟨#[]⟩, .int .i64 0, .string ⟨#[]⟩])) 1).toList = zeroCellsP := by kernel_rfl
  have hst := run_storeCells_cells (P := Try.prog) b o zeroCellsP 0 w (by simpa [zeroCellsP] using hc) (by simpa [zeroCellsP] using hf) (by intro v hv; simp [zeroCellsP] at hv; rcases hv with rfl | rfl | rfl | rfl | rfl | rfl | rfl | rfl | rfl <;> rfl)
  simp only [Nat.add_zero] at hst
  have hv : ∀ w, (zeroValue 33).run Try.prog w = .ok (.agg #[.bool false, .int .i64 0, .int .i64 0, .int .i64 0, .string ⟨#[]⟩, .string ⟨#[]⟩, .string ⟨#[]⟩, .int .i64 0, .string ⟨#[]⟩]) w := fun w => by have := Try.zeroValue33 w; exact this
  simp [Builtin.clear_, run_underlying Try.underlying26, hv, hz, hst]

/-- The world behind: what stood behind is one place nearer; the last place is empty. -/
def delWorldP (w : World) (g n i : Nat) (news : List Value) : World := (w.setCells g (i * 9) news).setCells g ((n - 1) * 9) zeroCellsP

set_option maxRecDepth 1000000 in
set_option maxHeartbeats 2000000 in
theorem DeleteP_any (g n cap i : Nat) (news : List Value) (w : World) (hi : i < n) (hnc : n ≤ cap) (hcm : cap ≤ maxLen) (hn : n ≤ 1000)
    (hl : news.length = (n - (i + 1)) * 9) (hsrc : ∀ t u, news[t]? = some u → w.cell? ⟨g, (i + 1) * 9 + t, none⟩ = some u) (hone : ∀ u, u ∈ news → u.oneCell' = true)
    (hrow : ∀ o, o < n * 9 → (w.cell? ⟨g, o, none⟩).isSome = true ∧ w.frozen? ⟨g, o, none⟩ = false) :
    Calls Try.prog 20 #[.slice (some ⟨g, 0, none⟩) n cap, .int .i64 (i : Int), .int .i64 ((i : Int) + 1)] w
      fun e w' => e = .returned (.slice (some ⟨g, 0, none⟩) (n - 1) cap) ∧ w' = delWorldP w.drew g n i news := by
  obtain ⟨i0, hi0, hz0, hz1, hz2⟩ := info_parts infoPP
  unfold maxLen at hcm
  have h1 : ¬ ((i : Int) = (i : Int) + 1) := by omega
  have h2 : ((i : Int) == (i : Int) + 1) = false := by simp; omega
  obtain ⟨A, hA, hsrc2⟩ : ∃ A : Addr, (if cap = i + 1 then some (⟨g, 0, none⟩ : Addr) else some ⟨g, (i + 1) * 9, none⟩) = some A ∧ Hid (∀ t u, news[t]? = some u → w.drew.cell? (A.add t) = some u) := by
    by_cases h : cap = i + 1
    · refine ⟨⟨g, 0, none⟩, by simp [h], fun t u hu => ?_⟩
      have h0 : news.length = 0 := by rw [hl]; omega
      rw [List.length_eq_zero_iff.1 h0] at hu
      simp at hu
    · refine ⟨⟨g, (i + 1) * 9, none⟩, by simp [h], fun t u hu => ?_⟩
      have e : (⟨g, (i + 1) * 9, none⟩ : Addr).add t = ⟨g, (i + 1) * 9 + t, none⟩ := by unfold Addr.add; split <;> simp_all
      rw [e]
      exact hsrc t u hu
  have s1 : Hid (news.length = (n - (i + 1)) * 9) := hl
  have s2 : Hid (∀ u ∈ news, u.oneCell' = true) := fun u hu => hone u hu
  have s3 : Hid (∀ t, t < news.length → (w.drew.cell? ⟨g, 0 + i * 9 + t, none⟩).isSome = true ∧ w.drew.frozen? ⟨g, 0 + i * 9 + t, none⟩ = false) := by
    intro t ht
    rw [hl] at ht
    rw [Nat.zero_add]
    exact hrow _ (by omega)
  obtain ⟨W1, hW1⟩ : ∃ W1, W1 = w.drew.setCells g (0 + i * 9) news := ⟨_, rfl⟩
  have hcl : ∀ ty, (Builtin.clear_ #[26] ty #[.slice (some ⟨g, (i + (n - (i + 1))) * 9, none⟩) (n - (i + (n - (i + 1)))) (cap - (i + (n - (i + 1))))]).run Try.prog W1 = .ok (.tuple #[]) (W1.setCells g ((n - 1) * 9) zeroCellsP) := by
    intro ty
    have e1 : i + (n - (i + 1)) = n - 1 := by omega
    have e2 : n - (n - 1) = 1 := by omega
    rw [e1, e2]
    refine run_clearP W1 ty g ((n - 1) * 9) _ (fun j hj => ?_) (fun j hj => ?_)
    · rw [hW1]
      exact World.isSome_setCells g _ _ _ _ (hrow _ (by omega)).1
    · rw [hW1, World.frozen?_setCells]
      exact (hrow _ (by omega)).2
  have HW : Hid (W1 = w.drew.setCells g (0 + i * 9) news) := hW1
  have HD : Hid (W1.setCells g ((n - 1) * 9) zeroCellsP = delWorldP w.drew g n i news) := by rw [hW1]; unfold delWorldP; rw [Nat.zero_add]; exact rfl
  clear hW1 hl hsrc hone hrow
  have hic : i ≤ cap := by omega
  have hjc : i + 1 ≤ cap := by omega
  have hb1 : (0 : Int) ≤ (i : Int) + 1 := by omega
  have hb2 : (i : Int) + 1 ≤ (n : Int) := by omega
  go_enter Try.func20, Try.ntmps20
  go_wp2_with fail
  go_region_law (refine step_append_room rfl (.tmp 22) (.tmp 25) 26 rfl 33 i0 9 Try.underlying26 hi0 hz1 g 0 i cap (by simp [Act.eval, Act.put]) A (n - (i + 1)) (cap - (i + 1)) news (by simp [Act.eval, Act.put]) s1.out hsrc2.out s2.out (by omega) s3.out ?_; rw [← HW.out])
  go_wp2
  go_ret
  refine ⟨?_, HD.out⟩
  rw [show n - 1 = i + (n - (i + 1)) by omega]
  rfl



set_option maxHeartbeats 4000000 in
/-- What Take calls, and what it is worth. -/
theorem DeleteP_rep {t : TypeId} {N : Nat} {w : World} {P g n cap : Nat} {l1 l2 : List APkt} {f : APkt} (hr : PRep t N w P (.slice (some ⟨g, 0, none⟩) n cap) (l1 ++ f :: l2)) (hn : n = (l1 ++ f :: l2).length) :
    Calls Try.prog 20 #[.slice (some ⟨g, 0, none⟩) n cap, .int .i64 (l1.length : Int), .int .i64 ((l1.length : Int) + 1)] w
      fun e w' => e = .returned (.slice (some ⟨g, 0, none⟩) (n - 1) cap) ∧ Kept [g] w w' ∧ g ≠ P ∧ Can w' P 0 (.slice (some ⟨g, 0, none⟩) n cap) ∧
        PTurn t N w P (.slice (some ⟨g, 0, none⟩) n cap) (w'.setCell ⟨P, 0, none⟩ (.slice (some ⟨g, 0, none⟩) (n - 1) cap)) (l1 ++ l2) := by
  have hl : n ≤ 1000 := by rw [hn]; have := hr.few; omega
  have hn1 : n = l1.length + l2.length + 1 := by rw [hn]; simp; omega
  obtain ⟨hlen, h2⟩ := hr.row
  rcases h2 with ⟨e, _⟩ | ⟨g', cap', cur, he, hNg, hh, hnc, hcm, hcs, htk⟩
  · cases e
  obtain ⟨rfl, _, rfl⟩ : g = g' ∧ n = (l1 ++ f :: l2).length ∧ cap = cap' := by simpa using he
  rw [← hn] at hnc htk
  have hcell : ∀ o, w.cell? ⟨g, o, none⟩ = cur[o]? := fun o => by simp [World.cell?, hh]
  have hfz : ∀ o, w.frozen? ⟨g, o, none⟩ = false := fun o => by simp [World.frozen?, hh]
  have hflat : (l1 ++ f :: l2).flatMap pcells = l1.flatMap pcells ++ (pcells f ++ l2.flatMap pcells) := by simp
  have hfl : (pcells f).length = 9 := rfl
  have hgP : g ≠ P := fun e => hr.nd (by rw [e]; rfl)
  have hsz : n * 9 ≤ cur.size := by rw [hcs]; omega
  have hget : ∀ o, o < n * 9 → cur[o]? = ((l1 ++ f :: l2).flatMap pcells)[o]? := fun o ho => by
    rw [← htk, List.getElem?_take, if_pos ho]; simp
  have hcon := DeleteP_any g n cap l1.length (l2.flatMap pcells) w (by omega) hnc hcm hl (by rw [pflat_len]; omega)
    (fun t u hu => by
      have ht : t < l2.length * 9 := by have := (List.getElem?_eq_some_iff.1 hu).1; rwa [pflat_len] at this
      rw [hcell, hget _ (by omega), hflat, List.getElem?_append_right (by rw [pflat_len]; omega), pflat_len, List.getElem?_append_right (by rw [hfl]; omega), hfl]
      rw [show (l1.length + 1) * 9 + t - l1.length * 9 - 9 = t by omega]
      exact hu) (pflat_one l2)
    (fun o ho => ⟨by rw [hcell, Array.getElem?_eq_getElem (by omega)]; rfl, hfz o⟩)
  refine hcon.mono ?_
  rintro e w' ⟨rfl, hw'⟩
  have hlz : zeroCellsP.length = 9 := rfl
  unfold delWorldP at hw'
  generalize zeroCellsP = zs at hlz hw'
  obtain ⟨D, hD⟩ : ∃ D, D = l2.flatMap pcells := ⟨_, rfl⟩
  have hDl : D.length = l2.length * 9 := by rw [hD, pflat_len]
  rw [← hD] at hw'
  subst hw'
  have hk : Kept [g] w ((w.drew.setCells g (l1.length * 9) D).setCells g ((n - 1) * 9) zs) := by
    have h0 : Kept [g] w w.drew := ⟨rfl, rfl, rfl, Nat.le_refl _, fun _ _ _ => rfl⟩
    exact (h0.trans (kept_setCells g _ _ _) (fun x hx => .inl hx)).trans (kept_setCells g _ _ _) (fun x hx => .inl hx)
  have hP : P < w.heap.size := hr.lt
  have hcanP : Can ((w.drew.setCells g (l1.length * 9) D).setCells g ((n - 1) * 9) zs) P 0 (.slice (some ⟨g, 0, none⟩) n cap) := ⟨by rw [hk.cell hP (by simpa using Ne.symm hgP)]; exact hr.can.1, by rw [hk.frozen hP (by simpa using Ne.symm hgP)]; exact hr.can.2⟩
  have hrow : ((w.drew.setCells g (l1.length * 9) D).setCells g ((n - 1) * 9) zs).ownsRow N 33 9 (.slice (some ⟨g, 0, none⟩) (n - 1) cap) (l1 ++ l2).length ((l1 ++ l2).flatMap pcells) := by
    have hh1 : ((w.drew.setCells g (l1.length * 9) D).setCells g ((n - 1) * 9) zs).heap[g]? = some (.cells (putList (putList cur (l1.length * 9) D) ((n - 1) * 9) zs) 33 (0, 0)) :=
      heap_setCells g 33 (0, 0) _ _ _ _ (heap_setCells g 33 (0, 0) _ _ _ _ hh)
    have hm : (l1 ++ l2).length = n - 1 := by simp; omega
    rw [hm]
    refine ⟨by rw [pflat_len, hm], .inr ⟨g, cap, _, rfl, hNg, hh1, by omega, hcm, by rw [putList_size, putList_size]; exact hcs, ?_⟩⟩
    have e1 := putList_toList D (l1.length * 9) cur (by rw [hDl]; omega)
    have e2 := putList_toList zs ((n - 1) * 9) (putList cur (l1.length * 9) D) (by rw [putList_size, hlz]; omega)
    have e3 : cur.toList.take (l1.length * 9) = l1.flatMap pcells := by
      have : cur.toList.take (l1.length * 9) = (cur.toList.take (n * 9)).take (l1.length * 9) := by rw [List.take_take]; congr 1; omega
      rw [this, htk, hflat, List.take_left' (pflat_len l1)]
    rw [e2, List.append_assoc, List.take_append_of_le_length (by rw [List.length_take, Array.length_toList, putList_size]; omega), List.take_take, Nat.min_self, e1, e3,
      List.take_append_of_le_length (by rw [List.length_append, pflat_len, hDl]; omega), List.take_of_length_le (by rw [List.length_append, pflat_len, hDl]; omega), hD]
    simp
  refine ⟨rfl, hk, hgP, hcanP, .slice (some ⟨g, 0, none⟩) (n - 1) cap, ⟨hr.new, ?_, ?_, ?_, ?_, ?_⟩, ?_, ?_⟩
  · rw [heap_setCell_same (c := #[.slice (some ⟨g, 0, none⟩) n cap]) (e := t) (fr := (0, 0))]
    · simp
    · rw [hk.block P hP (by simpa using Ne.symm hgP)]; exact hr.blk
  · exact ownsRow_same hrow fun k hk2 => by
      have : k = g := by simpa [Value.ownBlock] using hk2.symm
      rw [this]
      exact Below.heap_setCell _ _ _ _ hgP
  · intro e
    simp [Value.ownBlock] at e
    exact hgP e
  · have := hr.few; simp at this ⊢; omega
  · intro x hx
    exact hr.small x (by simp at hx ⊢; rcases hx with h | h; exact .inl h; exact .inr (.inr h))
  · have k1 : Kept (powns P (.slice (some ⟨g, 0, none⟩) n cap)) w ((w.drew.setCells g (l1.length * 9) D).setCells g ((n - 1) * 9) zs) := ⟨hk.os, hk.tape, hk.output, hk.size, fun k h1 h2 => hk.block k h1 (fun h3 => h2 (List.mem_cons_of_mem _ (by simpa [Value.ownBlock] using h3)))⟩
    exact k1.trans (kept_setCell _ _ _ _ _ List.mem_cons_self) (fun x hx => .inl hx)
  · intro k hk2
    exact .inl hk2

end Go.Proofs.Ytlndphpidkacgab
