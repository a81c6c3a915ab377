/- The walk of slices.Delete at files. -/
import Derived.Test.YtlndphpidkacgaaWf
import Derived.Deep.RegionLaw
import Derived.Lib.SliceRun
import Derived.Deep.MidRow
namespace Go.Proofs.Ytlndphpidkacgaa
open Go.RowKit
set_option linter.unusedSimpArgs false
set_option linter.unusedVariables false

def zeroFile : List Value := [.string ⟨#[]⟩, .slice none 0 0]

theorem run_clear_file (w : World) (ty : TypeId) (b o c : Nat) (hc : ∀ j, j < 2 → (w.cell? ⟨b, o + j, none⟩).isSome = true) (hf : ∀ j, j < 2 → w.frozen? ⟨b, o + j, none⟩ = false) :
    (Builtin.clear_ #[93] ty #[.slice (some ⟨b, o, none⟩) 1 c]).run Try.prog w = .ok (.tuple #[]) (w.setCells b o zeroFile) := by
  have hz : (Builtin.zeroCells (Value.cells (.agg #[.string ⟨#[]⟩, .slice none 0 0])) 1).toList = zeroFile := by kernel_rfl
  have hst := run_storeCells_cells (P := Try.prog) b o zeroFile 0 w (by simpa [zeroFile] using hc) (by simpa [zeroFile] using hf) (by intro v hv; simp [zeroFile] at hv; rcases hv with rfl | rfl <;> rfl)
  simp only [Nat.add_zero] at hst
  have hv : ∀ w, (zeroValue 101).run Try.prog w = .ok (.agg #[.string ⟨#[]⟩, .slice none 0 0]) w := fun w => by have := Try.zeroValue101 w; exact this
  simp [Builtin.clear_, run_underlying Try.underlying93, hv, hz, hst]

/-- The world behind: what stood behind is one place nearer; the last place is empty. -/
def delWorld (w : World) (g n i : Nat) (news : List Value) : World := (w.setCells g (i * 2) news).setCells g ((n - 1) * 2) zeroFile

set_option maxRecDepth 1000000 in
set_option maxHeartbeats 2000000 in
theorem Delete_any (g n cap i : Nat) (news : List Value) (w : World) (hi : i < n) (hnc : n ≤ cap) (hcm : cap ≤ maxLen) (hn : n ≤ 1000)
    (hl : news.length = (n - (i + 1)) * 2) (hsrc : ∀ t u, news[t]? = some u → w.cell? ⟨g, (i + 1) * 2 + t, none⟩ = some u) (hone : ∀ u, u ∈ news → u.oneCell' = true)
    (hrow : ∀ o, o < n * 2 → (w.cell? ⟨g, o, none⟩).isSome = true ∧ w.frozen? ⟨g, o, none⟩ = false) :
    Calls Try.prog 61 #[.slice (some ⟨g, 0, none⟩) n cap, .int .i64 (i : Int), .int .i64 ((i : Int) + 1)] w
      fun e w' => e = .returned (.slice (some ⟨g, 0, none⟩) (n - 1) cap) ∧ w' = delWorld w.drew g n i news := by
  obtain ⟨i0, hi0, hz0, hz1, hz2⟩ := info_parts info101
  unfold maxLen at hcm
  have h1 : ¬ ((i : Int) = (i : Int) + 1) := by omega
  have h2 : ((i : Int) == (i : Int) + 1) = false := by simp; omega
  obtain ⟨A, hA, hsrc2⟩ : ∃ A : Addr, (if cap = i + 1 then some (⟨g, 0, none⟩ : Addr) else some ⟨g, (i + 1) * 2, none⟩) = some A ∧ Hid (∀ t u, news[t]? = some u → w.drew.cell? (A.add t) = some u) := by
    by_cases h : cap = i + 1
    · refine ⟨⟨g, 0, none⟩, by simp [h], fun t u hu => ?_⟩
      have h0 : news.length = 0 := by rw [hl]; omega
      rw [List.length_eq_zero_iff.1 h0] at hu
      simp at hu
    · refine ⟨⟨g, (i + 1) * 2, none⟩, by simp [h], fun t u hu => ?_⟩
      have e : (⟨g, (i + 1) * 2, none⟩ : Addr).add t = ⟨g, (i + 1) * 2 + t, none⟩ := by unfold Addr.add; split <;> simp_all
      rw [e]
      exact hsrc t u hu
  have s1 : Hid (news.length = (n - (i + 1)) * 2) := hl
  have s2 : Hid (∀ u ∈ news, u.oneCell' = true) := fun u hu => hone u hu
  have s3 : Hid (∀ t, t < news.length → (w.drew.cell? ⟨g, 0 + i * 2 + t, none⟩).isSome = true ∧ w.drew.frozen? ⟨g, 0 + i * 2 + t, none⟩ = false) := by
    intro t ht
    rw [hl] at ht
    rw [Nat.zero_add]
    exact hrow _ (by omega)
  obtain ⟨W1, hW1⟩ : ∃ W1, W1 = w.drew.setCells g (0 + i * 2) news := ⟨_, rfl⟩
  have hcl : ∀ ty, (Builtin.clear_ #[93] ty #[.slice (some ⟨g, (i + (n - (i + 1))) * 2, none⟩) (n - (i + (n - (i + 1)))) (cap - (i + (n - (i + 1))))]).run Try.prog W1 = .ok (.tuple #[]) (W1.setCells g ((n - 1) * 2) zeroFile) := by
    intro ty
    have e1 : i + (n - (i + 1)) = n - 1 := by omega
    have e2 : n - (n - 1) = 1 := by omega
    rw [e1, e2]
    refine run_clear_file W1 ty g ((n - 1) * 2) _ (fun j hj => ?_) (fun j hj => ?_)
    · rw [hW1]
      exact World.isSome_setCells g _ _ _ _ (hrow _ (by omega)).1
    · rw [hW1, World.frozen?_setCells]
      exact (hrow _ (by omega)).2
  have HW : Hid (W1 = w.drew.setCells g (0 + i * 2) news) := hW1
  have HD : Hid (W1.setCells g ((n - 1) * 2) zeroFile = delWorld w.drew g n i news) := by rw [hW1]; unfold delWorld; rw [Nat.zero_add]; exact rfl
  clear hW1 hl hsrc hone hrow
  have hic : i ≤ cap := by omega
  have hjc : i + 1 ≤ cap := by omega
  have hb1 : (0 : Int) ≤ (i : Int) + 1 := by omega
  have hb2 : (i : Int) + 1 ≤ (n : Int) := by omega
  go_enter Try.func61, Try.ntmps61
  go_wp2_with fail
  go_region_law (refine step_append_room rfl (.tmp 22) (.tmp 25) 93 rfl 101 i0 2 Try.underlying93 hi0 hz1 g 0 i cap (by simp [Act.eval, Act.put]) A (n - (i + 1)) (cap - (i + 1)) news (by simp [Act.eval, Act.put]) s1.out hsrc2.out s2.out (by omega) s3.out ?_; rw [← HW.out])
  go_wp2
  go_ret
  refine ⟨?_, HD.out⟩
  rw [show n - 1 = i + (n - (i + 1)) by omega]
  rfl


def putList (c : Array Value) : Nat → List Value → Array Value
  | _, [] => c
  | o, v :: r => putList (c.setIfInBounds o v) (o + 1) r

theorem heap_setCells (b : Nat) (e : TypeId) (fr : Nat × Nat) : ∀ (vs : List Value) (o : Nat) (w : World) (c : Array Value), w.heap[b]? = some (.cells c e fr) → (w.setCells b o vs).heap[b]? = some (.cells (putList c o vs) e fr)
  | [], _, _, _, h => h
  | v :: r, o, w, c, h => heap_setCells b e fr r (o + 1) _ _ (heap_setCell_same h v)

theorem kept_setCells (b : Nat) : ∀ (vs : List Value) (o : Nat) (w : World), Kept [b] w (w.setCells b o vs)
  | [], _, w => Kept.refl _ _
  | v :: r, o, w => (kept_setCell [b] w b o v (by simp)).trans (kept_setCells b r (o + 1) _) (fun x hx => .inl hx)

theorem putList_size : ∀ (vs : List Value) (o : Nat) (c : Array Value), (putList c o vs).size = c.size
  | [], _, _ => rfl
  | v :: r, o, c => by rw [putList, putList_size r]; simp

theorem putList_toList : ∀ (vs : List Value) (o : Nat) (c : Array Value), o + vs.length ≤ c.size → (putList c o vs).toList = c.toList.take o ++ vs ++ c.toList.drop (o + vs.length)
  | [], o, c, h => by simp [putList]
  | v :: r, o, c, h => by
    simp at h
    rw [putList, putList_toList r (o + 1) _ (by simp; omega), Array.toList_setIfInBounds]
    have ho : o < c.toList.length := by simp; omega
    have e1 : (c.toList.set o v).take (o + 1) = c.toList.take o ++ [v] := by
      rw [List.take_set, List.take_add_one, List.getElem?_eq_getElem ho]
      have : (c.toList.take o).length = o := by simp; omega
      simp
      rw [List.set_append_right _ _ (by omega), this]
      simp
    have e2 : (c.toList.set o v).drop (o + 1 + r.length) = c.toList.drop (o + (v :: r).length) := by
      rw [List.drop_set_of_lt (by omega)]
      simp
      congr 1
      omega
    rw [e1, e2]
    simp

theorem flat_one {l : List FV} (h : ∀ f, f ∈ l → f.tv.oneCell' = true) : ∀ u, u ∈ l.flatMap FV.cells → u.oneCell' = true := by
  intro u hu
  obtain ⟨f, hf, hu⟩ := List.mem_flatMap.1 hu
  simp [FV.cells] at hu
  rcases hu with rfl | rfl
  · rfl
  · exact h f hf

/-- What Do's branch of CRemove calls, and what it is worth. -/
theorem Delete_rep (B g n cap : Nat) (l1 l2 : List FV) (f : FV) (w : World) (hr : Rep w B (.slice (some ⟨g, 0, none⟩) n cap) (l1 ++ f :: l2)) (hn : n = (l1 ++ f :: l2).length) (hl : n ≤ 1000) :
    Calls Try.prog 61 #[.slice (some ⟨g, 0, none⟩) n cap, .int .i64 (l1.length : Int), .int .i64 ((l1.length : Int) + 1)] w
      fun e w' => e = .returned (.slice (some ⟨g, 0, none⟩) (n - 1) cap) ∧ Can w' B 0 (.slice (some ⟨g, 0, none⟩) n cap) ∧ w.heap.size ≤ w'.heap.size ∧
        Turned w B (owns B (.slice (some ⟨g, 0, none⟩) n cap) (l1 ++ f :: l2)) (w'.setCell ⟨B, 0, none⟩ (.slice (some ⟨g, 0, none⟩) (n - 1) cap)) ((l1 ++ l2).map FV.abs) := by
  have hn1 : n = l1.length + l2.length + 1 := by rw [hn]; simp; omega
  obtain ⟨hlen, h2⟩ := hr.row
  rcases h2 with ⟨e, _⟩ | ⟨g', cap', cur, he, _, hh, hnc, hcm, hcs, htk⟩
  · cases e
  obtain ⟨rfl, _, rfl⟩ : g = g' ∧ n = (l1 ++ f :: l2).length ∧ cap = cap' := by simpa using he
  rw [← hn] at hnc htk
  have hcell : ∀ o, w.cell? ⟨g, o, none⟩ = cur[o]? := fun o => by simp [World.cell?, hh]
  have hfz : ∀ o, w.frozen? ⟨g, o, none⟩ = false := fun o => by simp [World.frozen?, hh]
  have hflat : (l1 ++ f :: l2).flatMap FV.cells = l1.flatMap FV.cells ++ (f.cells ++ l2.flatMap FV.cells) := by simp
  have hfl : f.cells.length = 2 := rfl
  have hgB : g ≠ B := fun e => (nd_parts hr.nd).1 (by rw [e]; rfl)
  have hsz : n * 2 ≤ cur.size := by rw [hcs]; omega
  have hget : ∀ o, o < n * 2 → cur[o]? = ((l1 ++ f :: l2).flatMap FV.cells)[o]? := fun o ho => by
    rw [← htk, List.getElem?_take, if_pos ho]; simp
  have h3 : ∀ u, u ∈ l2.flatMap FV.cells → u.oneCell' = true := flat_one fun y hy => by
    obtain ⟨a, c, hv⟩ := row_form (hr.texts y (by simp [hy]))
    rw [hv]; rfl
  have hcon := Delete_any g n cap l1.length (l2.flatMap FV.cells) w (by omega) hnc hcm hl (by rw [flat_len]; omega)
    (fun t u hu => by
      have ht : t < l2.length * 2 := by have := (List.getElem?_eq_some_iff.1 hu).1; rwa [flat_len] at this
      rw [hcell, hget _ (by omega), hflat, List.getElem?_append_right (by rw [flat_len]; omega), flat_len, List.getElem?_append_right (by rw [hfl]; omega), hfl]
      rw [show (l1.length + 1) * 2 + t - l1.length * 2 - 2 = t by omega]
      exact hu) h3
    (fun o ho => ⟨by rw [hcell, Array.getElem?_eq_getElem (by omega)]; rfl, hfz o⟩)
  refine hcon.mono ?_
  rintro e w' ⟨rfl, rfl⟩
  have hk : Kept [g] w (delWorld w.drew g n l1.length (l2.flatMap FV.cells)) := by
    have h0 : Kept [g] w w.drew := ⟨rfl, rfl, rfl, Nat.le_refl _, fun _ _ _ => rfl⟩
    exact (h0.trans (kept_setCells g _ _ _) (fun x hx => .inl hx)).trans (kept_setCells g _ _ _) (fun x hx => .inl hx)
  have hB : B < w.heap.size := hr.lt (mem_owns.2 (.inl rfl))
  have hlz : zeroFile.length = 2 := rfl
  refine ⟨rfl, ⟨?_, ?_⟩, hk.size, hr.erase hk (by simp; omega) ?_⟩
  · rw [hk.cell hB (by simpa using Ne.symm hgB)]; exact hr.cellB
  · rw [hk.frozen hB (by simpa using Ne.symm hgB)]; exact hr.frozenB
  · have hh1 : (delWorld w.drew g n l1.length (l2.flatMap FV.cells)).heap[g]? = some (.cells (putList (putList cur (l1.length * 2) (l2.flatMap FV.cells)) ((n - 1) * 2) zeroFile) 101 (0, 0)) :=
      heap_setCells g 101 (0, 0) _ _ _ _ (heap_setCells g 101 (0, 0) _ _ _ _ hh)
    have hm : (l1 ++ l2).length = n - 1 := by simp; omega
    refine ⟨by rw [flat_len, hm], .inr ⟨g, cap, _, rfl, Nat.zero_le _, hh1, by omega, hcm, by rw [putList_size, putList_size]; exact hcs, ?_⟩⟩
    have e1 := putList_toList (l2.flatMap FV.cells) (l1.length * 2) cur (by rw [flat_len]; omega)
    have e2 := putList_toList zeroFile ((n - 1) * 2) (putList cur (l1.length * 2) (l2.flatMap FV.cells)) (by rw [putList_size, hlz]; omega)
    have e3 : cur.toList.take (l1.length * 2) = l1.flatMap FV.cells := by
      have : cur.toList.take (l1.length * 2) = (cur.toList.take (n * 2)).take (l1.length * 2) := by rw [List.take_take]; congr 1; omega
      rw [this, htk, hflat, List.take_left' (flat_len l1)]
    rw [e2, List.append_assoc, List.take_append_of_le_length (by rw [List.length_take, Array.length_toList, putList_size]; omega), List.take_take, Nat.min_self, e1, e3,
      List.take_append_of_le_length (by rw [List.length_append, flat_len, flat_len]; omega), List.take_of_length_le (by rw [List.length_append, flat_len, flat_len]; omega)]
    simp

end Go.Proofs.Ytlndphpidkacgaa
