/- slices.Sort over a row of the call's own; Names. -/
import Derived.Test.YtlndphpidkacgaaWg
namespace Go.Proofs.Ytlndphpidkacgaa
open Go.RowKit
set_option linter.unusedSimpArgs false
set_option linter.unusedVariables false

/-- A list of texts, rising. -/
def sortB (xs : List ByteArray) : List ByteArray := ((xs.map fun x => x.data.toList).mergeSort fun x y => decide (x ≤ y)).map fun l => ⟨l.toArray⟩
/-- The names, rising. -/
def sNames (st : List AFile) : List ByteArray := sortB (st.map AFile.name)

theorem sortB_length (xs : List ByteArray) : (sortB xs).length = xs.length := by
  simp [sortB, (List.mergeSort_perm _ _).length_eq]

theorem put_toList (g : Nat) (L : List (List UInt8)) (c : Array Value) (h : L.length ≤ c.size) : (Sort.putCells encStr 0 L.toArray c).toList.take L.length = L.map encStr := by
  apply List.ext_getElem?
  intro i
  rw [List.getElem?_take]
  by_cases hi : i < L.length
  · rw [if_pos hi]
    simp only [Array.getElem?_toList, Sort.putCells, Array.getElem?_mapIdx]
    rw [Array.getElem?_eq_getElem (by omega)]
    simp [hi]
  · rw [if_neg hi, List.getElem?_eq_none (by simp; omega)]

theorem Sort_own (N g cap : Nat) (xs : List ByteArray) (w : World) (hown : w.ownsRow N 9 1 (.slice (some ⟨g, 0, none⟩) xs.length cap) xs.length (xs.map .string)) (hl : xs.length ≤ 1000) :
    Calls Try.prog 66 #[.slice (some ⟨g, 0, none⟩) xs.length cap] w
      fun e w' => e = .returned (.tuple #[]) ∧ w'.ownsRow N 9 1 (.slice (some ⟨g, 0, none⟩) xs.length cap) xs.length ((sortB xs).map .string) ∧ Kept [g] w w' := by
  obtain ⟨hlen, h2⟩ := hown
  rcases h2 with ⟨e, _⟩ | ⟨g', cap', cur, he, hN, hh, hnc, hcm, hcs, htk⟩
  · cases e
  obtain ⟨rfl, rfl⟩ : g = g' ∧ cap = cap' := by simpa using he
  have hG : g < w.heap.size := (Array.getElem?_eq_some_iff.1 hh).1
  have hcs' : cur.size = cap := by simpa using hcs
  have hL : (xs.map fun x => x.data.toList).length = xs.length := by simp
  have hcon := Try.slices_Sort_string g 0 cap (xs.map fun x => x.data.toList) w (fun j hj => by
    have hj' : j < xs.length := by simpa using hj
    refine ⟨?_, by simp [World.frozen?, hh]⟩
    have : cur.toList[j]? = some (.string xs[j]) := by
      have h1 : (cur.toList.take (xs.length * 1))[j]? = (xs.map Value.string)[j]? := by rw [htk]
      rw [List.getElem?_take, if_pos (by omega)] at h1
      rw [h1]; simp [hj']
    simp [World.cell?, hh]
    rw [show cur[j]? = some (.string xs[j]) by simpa using this]
    simp [hj']) hG (by rw [hL]; omega)
  rw [hL] at hcon
  refine hcon.mono ?_
  rintro e w' ⟨rfl, q, os, rfl⟩
  have hls : ((xs.map fun x => x.data.toList).mergeSort fun x y => decide (x ≤ y)).length = xs.length := by simp [(List.mergeSort_perm _ _).length_eq]
  have hsz : (Sort.putRow encStr (Sort.ahead w q) g 0 ((xs.map fun x => x.data.toList).mergeSort fun x y => decide (x ≤ y)).toArray).heap.size = w.heap.size := by
    simp [Sort.putRow, Sort.mapBlock, Sort.ahead]
  have hblk : ∀ k, k < w.heap.size → (Sort.grow (Sort.putRow encStr (Sort.ahead w q) g 0 ((xs.map fun x => x.data.toList).mergeSort fun x y => decide (x ≤ y)).toArray) os).heap[k]? =
      if g = k then (w.heap[k]?).map (Sort.onCells (Sort.putCells encStr 0 ((xs.map fun x => x.data.toList).mergeSort fun x y => decide (x ≤ y)).toArray)) else w.heap[k]? := fun k hk => by
    rw [Sort.heap_grow_old _ _ (by rw [hsz]; exact hk)]
    simp only [Sort.putRow, Sort.mapBlock, Sort.ahead, Array.getElem?_modify]
  refine ⟨rfl, ⟨by simp [sortB_length], .inr ⟨g, cap, Sort.putCells encStr 0 ((xs.map fun x => x.data.toList).mergeSort fun x y => decide (x ≤ y)).toArray cur, rfl, hN, ?_, hnc, hcm, ?_, ?_⟩⟩, ?_⟩
  · rw [hblk g hG, if_pos rfl, hh]; rfl
  · simp [Sort.putCells, hcs']
  · have := put_toList g ((xs.map fun x => x.data.toList).mergeSort fun x y => decide (x ≤ y)) cur (by rw [hls]; omega)
    rw [hls] at this
    rw [Nat.mul_one, this]
    simp [sortB]
  · exact ⟨rfl, rfl, rfl, by rw [Sort.size_grow, hsz]; omega, fun k hk hn => by rw [hblk k hk, if_neg (by simpa using Ne.symm (by simpa using hn : k ≠ g))]⟩


theorem info9 : (Try.prog.info? 9).map (fun i => (i.zero, i.size, i.bytes)) = some (some (.string ⟨#[]⟩), 1, 16) := by kernel_rfl

theorem take_snoc_map (fs : List FV) (k : Nat) (x : FV) (hx : fs[k]? = some x) : ((fs.map FV.name).take (k + 1)).map Value.string = ((fs.map FV.name).take k).map Value.string ++ [.string x.name] := by
  rw [List.take_add_one, List.getElem?_map, hx]
  simp

set_option maxRecDepth 100000 in
set_option maxHeartbeats 2000000 in
theorem Names_any (B : Nat) (own : List Nat) (st : List AFile) (w : World) (hr : St w B own st) (hl : st.length ≤ 1000) (hs : ∀ f, f ∈ st → f.name.size ≤ 1000) :
    Calls Try.prog 23 #[.pointer (some ⟨B, 0, none⟩)] w
      fun e w' => ∃ g cap, e = .returned (.slice (some ⟨g, 0, none⟩) st.length cap) ∧ w'.ownsRow w.heap.size 9 1 (.slice (some ⟨g, 0, none⟩) st.length cap) st.length ((sNames st).map .string) ∧ Below w.heap.size w w' := by
  obtain ⟨i0, hi0, hz0, hz1, hz2⟩ := info_parts info9
  obtain ⟨v, fs, hr, rfl, rfl⟩ := hr
  have hnm : (fs.map FV.abs).map AFile.name = fs.map FV.name := by simp [FV.abs, Function.comp_def]
  have hlen : fs.length ≤ 1000 := by simpa using hl
  rw [List.length_map]
  have hs2 : Hid (∀ (k : Nat) (x : FV), fs[k]? = some x → x.name.size ≤ 1000) := fun k x hx => hs x.abs (List.mem_map.2 ⟨x, List.mem_of_getElem? hx, rfl⟩)
  have hB : B < w.heap.size := hr.lt (mem_owns.2 (.inl rfl))
  have hc := hr.cellB
  obtain ⟨a, cap, rfl⟩ := row_form hr.row
  have HR := hide hr
  have HN := hide hnm
  clear hr hs hl hnm
  go_enter Try.func23, Try.ntmps23
  go_wp2_with (refine wpList_make_own _ rfl _ _ 37 rfl w.heap.size 9 i0 _ 1 Try.underlying37 hi0 hz0 hz1 .i64 .i64 (fs.length : Int) fs.length rfl rfl rfl (by rw [hz2]; omega) (by unfold maxLen; omega) (Nat.le_refl _) ?_)
  intro w0 hown0 hgr0
  have b0 : Below w.heap.size w w0 := (Below.refl _ _).grown hgr0 (Nat.le_refl _) (by simp)
  have hc0 := (b0.cell (p := ⟨B, 0, none⟩) hB).trans hc
  have HO0 := hide hown0
  have HB0 := hide b0
  clear hc hown0 b0 hgr0
  go_wp2
  go_loopw [3, 5, 17] (fun nv _ i wr => ∃ k : Nat, k ≤ fs.length ∧ i = .int .i64 k ∧ Hid (Below w.heap.size w wr) ∧ Hid (∃ g c, nv = .slice (some ⟨g, 0, none⟩) k c) ∧ Hid (wr.ownsRow w.heap.size 9 1 nv k (((fs.map FV.name).take k).map .string))) (fun _ _ i _ => fs.length - (intOf i).toNat)
  case atStart => exact ⟨0, Nat.zero_le _, rfl, unhide HB0, ⟨_, _, rfl⟩, (by simpa using unhide HO0 : w0.ownsRow w.heap.size 9 1 (Value.slice (some ⟨w.heap.size, 0, none⟩) 0 fs.length) 0 (((fs.map FV.name).take 0).map .string))⟩
  case round =>
    obtain ⟨k, hk, rfl, HB, ⟨g1, c1, rfl⟩, HO⟩ := hrel
    by_cases hlt : k < fs.length
    · obtain ⟨x, hx⟩ : ∃ x, fs[k]? = some x := ⟨_, List.getElem?_eq_getElem hlt⟩
      have hrw := (unhide HR).below (unhide HB)
      rcases hrw.row.2 with ⟨he, h0⟩ | ⟨g, cap', cur, he, _⟩
      · omega
      obtain ⟨rfl, rfl⟩ : a = some ⟨g, 0, none⟩ ∧ cap = cap' := by simpa using he
      obtain ⟨hx0, hx1⟩ := hrw.file k x hx
      have hgz : g < wr.heap.size := World.block_lt_of_cell? wr _ hx0
      obtain ⟨ta, tc, htv⟩ := row_form (hrw.texts x (List.mem_of_getElem? hx))
      rw [htv] at hx1
      have hxs := unhide hs2 k x hx
      have HX := hide hx
      have hwz := (unhide HB).size
      clear hx hrw he htv
      generalize x.text.size = ts at hx1
      have HL : Hid (∀ (wx : World) (o : Obj), Below (wr.heap.size + 1) (wr.alloc o) wx → wx.ownsRow w.heap.size 9 1 (.slice (some ⟨g1, 0, none⟩) k c1) k (((fs.map FV.name).take k).map .string)) := fun wx o hb =>
        ownsRow_same ((unhide HO).alloc o) (fun j hj => hb.block j (by have := (((unhide HO).alloc o).lt j hj).2; simpa using this))
      go_wp2_with (first
        | (at_builtin; refine wpList_append_lies _ rfl _ _ 37 rfl w.heap.size 9 i0 _ 1 16 Try.underlying37 hi0 hz0 hz1 hz2 rfl (by omega) (.slice (some ⟨g1, 0, none⟩) k c1) k (((fs.map FV.name).take k).map .string) rfl ((HL.out w1 _ b1').alloc _)
            ⟨w1.heap.size, 0, none⟩ 1 1 [.string x.name] rfl rfl (World.news_of_block (cs := #[.string x.name]) (t := 9) (fr := (0, 0)) (heap_alloc_new w1 _)) (by simp [Value.oneCell'])
            (by omega) (by unfold maxLen; omega) (by omega) (by have := b1.size; simp at this ⊢; omega) (w1.heap.size + 1) (by simp) ?_; intro g2 c2 w2 hown2 hgrow hat hlt2)
        | (go_at_call 65; refine (Clone_any x.name _ hxs).mono ?_; rintro e w1 ⟨rfl, b1⟩; have b1' := b1; rw [al_size] at b1'))
      go_roundw
      case rel =>
        have hb1 : Below w.heap.size w w1 := (((unhide HB).alloc hwz _).trans (b1.mono (by simp; omega)))
        have hz1 : w.heap.size ≤ w1.heap.size := hb1.size
        refine ⟨k + 1, by omega, by go_num, ?_, ⟨_, _, rfl⟩, ?_⟩
        · refine (hb1.alloc hz1 _).grown hgrow (by simp; omega) ?_
          intro j hj
          exact ((unhide HO).lt j hj).1
        · show w2.ownsRow _ _ _ _ _ _
          rw [take_snoc_map fs k x (unhide HX)]
          exact hown2
      case measure => simp [intOf]; omega
    · have hkk : k = fs.length := by omega
      subst hkk
      have hfull : (fs.map FV.name).take fs.length = fs.map FV.name := by rw [List.take_of_length_le (by simp)]
      have hown := unhide HO
      rw [hfull] at hown
      have hcon := Sort_own w.heap.size g1 c1 (fs.map FV.name) wr (by simpa using hown) (by simpa using hlen)
      rw [List.length_map] at hcon
      have hg1 := (hown.lt g1 rfl)
      clear hown hfull
      go_wp2_with (go_at_call 66; refine hcon.mono ?_; rintro e w1 ⟨rfl, hs1, hk1⟩)
      go_ret
      refine ⟨g1, c1, rfl, ?_, (unhide HB).trans (hk1.below (unhide HB).size (by simpa using hg1.1))⟩
      rw [sNames, unhide HN]
      exact hs1

end Go.Proofs.Ytlndphpidkacgaa
