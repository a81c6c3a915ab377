/- The walks of strings.Clone, create. -/
import Derived.Test.YtlndphpidkacgaaWc
import Derived.Test.YtlndphpidkacgaaRep2
import Derived.Test.YtlndphpidkacgaaShelf
import Derived.Deep.RegionHeld3
import Derived.Deep.AppendLies
import Derived.Deep.RegionLaw
namespace Go.Proofs.Ytlndphpidkacgaa
open Go.RowKit
set_option linter.unusedSimpArgs false
set_option linter.unusedVariables false

set_option maxHeartbeats 400000 in
theorem Clone_any (s : ByteArray) (w : World) (hs : s.size ≤ 1000) :
    Calls Try.prog 65 #[.string s] w fun e w' => e = .returned (.string s) ∧ Below w.heap.size w w' := by
  have hcon := Try.stringslite_Clone s w (by omega)
  go_enter Try.func65, Try.ntmps65
  go_wp2_with (go_at_call 81; refine hcon.mono ?_; rintro e w' ⟨rfl, hb'⟩)
  go_ret
  exact ⟨rfl, hb'⟩

theorem info101 : (Try.prog.info? 101).map (fun i => (i.zero, i.size, i.bytes)) = some (some (.agg #[.string ⟨#[]⟩, .slice none 0 0]), 2, 40) := by kernel_rfl

/-- There is one called so. -/
theorem create_there (name : ByteArray) (B : Nat) (own : List Nat) (st : List AFile) (w : World) (hr : St w B own st) (hl : st.length ≤ 1000) (h0 : 0 ≤ fInt name st) :
    Calls Try.prog 58 #[.pointer (some ⟨B, 0, none⟩), .string name] w fun e w' => e = .returned (.int .i64 5) ∧ Below w.heap.size w w' := by
  have hcon := find_any name B own st w hr hl
  generalize fInt name st = res at hcon h0
  go_enter Try.func58, Try.ntmps58
  go_wp2_with (go_at_call 60; refine hcon.mono ?_; rintro e w' ⟨rfl, hb'⟩)
  go_ret
  exact ⟨rfl, hb'⟩

/-- No room. -/
theorem create_full (name : ByteArray) (B : Nat) (own : List Nat) (st : List AFile) (w : World) (hr : St w B own st) (hl : st.length ≤ 1000) (h0 : fInt name st < 0) (h6 : 6 ≤ st.length) :
    Calls Try.prog 58 #[.pointer (some ⟨B, 0, none⟩), .string name] w fun e w' => e = .returned (.int .i64 7) ∧ Below w.heap.size w w' := by
  have hcon := find_any name B own st w hr hl
  obtain ⟨v, fs, hr, rfl, rfl⟩ := hr
  have hc := hr.cellB
  have hB : B < w.heap.size := hr.lt (mem_owns.2 (.inl rfl))
  have hlen : fs.length ≤ 1000 := by simpa using hl
  have h6' : (6 : Int) ≤ (fs.length : Int) := by simp at h6; omega
  obtain ⟨a, cap, rfl⟩ := row_form hr.row
  generalize fInt name (fs.map FV.abs) = res at hcon h0
  clear hr h6 hl
  go_enter Try.func58, Try.ntmps58
  go_wp2_with fail
  refine hcon.mono ?_
  rintro e w1 ⟨rfl, b1⟩
  have hc1 := (b1.cell (p := ⟨B, 0, none⟩) hB).trans hc
  clear hc
  go_wp2
  go_ret
  exact ⟨rfl, b1⟩

set_option maxRecDepth 100000 in
set_option maxHeartbeats 2000000 in
theorem create_new (name : ByteArray) (B : Nat) (own : List Nat) (st : List AFile) (w : World) (hr : St w B own st) (h0 : fInt name st < 0) (h6 : st.length < 6) (hs : name.size ≤ 1000) :
    Calls Try.prog 58 #[.pointer (some ⟨B, 0, none⟩), .string name] w fun e w' => e = .returned (.int .i64 0) ∧ Turned w B own w' (st ++ [⟨name, ByteArray.empty⟩]) := by
  obtain ⟨i0, hi0, hz0, hz1, hz2⟩ := info_parts info101
  have hcon := find_any name B own st w hr (by omega)
  obtain ⟨v, fs, hr, rfl, rfl⟩ := hr
  have hc := hr.cellB
  have hB : B < w.heap.size := hr.lt (mem_owns.2 (.inl rfl))
  have h6' : (fs.length : Int) < 6 := by simp at h6; omega
  have hlen : fs.length < 6 := by simpa using h6
  obtain ⟨a, cap, rfl⟩ := row_form hr.row
  have nB := (nd_parts hr.nd).1
  have HR := hide hr
  generalize fInt name (fs.map FV.abs) = res at hcon h0
  clear hr h6
  go_enter Try.func58, Try.ntmps58
  go_wp2_with fail
  refine hcon.mono ?_
  rintro e w0 ⟨rfl, b0⟩
  have hr0 := (unhide HR).below b0
  have HR0 := hide hr0
  have HB0 := hide b0
  have hc1 := (b0.cell (p := ⟨B, 0, none⟩) hB).trans hc
  have hB0 : B < w0.heap.size := hr0.lt (mem_owns.2 (.inl rfl))
  clear hc hcon hr0
  go_wp2_with fail
  have HO : Hid (∀ wx, Below w0.drew.heap.size w0.drew wx → wx.ownsRow 0 101 2 (.slice a fs.length cap) fs.length (fs.flatMap FV.cells)) := fun wx hb => ((unhide HR0).below (w' := wx) ⟨hb.os, hb.tape, hb.output, hb.size, hb.block⟩).row
  have hf1 : w0.frozen? ⟨B, 0, none⟩ = false := (unhide HR0).frozenB
  have HF : Hid (∀ wx, Below w0.drew.heap.size w0.drew wx → Can wx B 0 (.slice a fs.length cap)) := fun wx hb => Can.below (w := w0.drew) ⟨hc1, hf1⟩ hb hB0
  go_region_law (first
      | (go_simp; go_at_call 65; refine (Clone_any name _ hs).mono ?_; rintro e w1 ⟨rfl, b1⟩; have hc2 := (HF.out w1 b1); have hc3 := hc2.1; have hf3 := hc2.2; have hzB : B < w1.heap.size := hc2.lt; clear hc2)
      | (refine step_append_lies _ (by rfl) _ _ _ (by rfl) 0 101 i0 _ 2 40 Try.underlying93 hi0 hz0 hz1 hz2 rfl (by omega) (.slice a fs.length cap) fs.length (fs.flatMap FV.cells) (by rfl) ((HO.out w1 b1).alloc _)
          ⟨w1.heap.size, 0, none⟩ 1 1 [.string name, .slice none 0 0] (by rfl) (by rfl) (World.news_of_block (cs := #[.string name, .slice none 0 0]) (t := 101) (fr := (0, 0)) (heap_alloc_new w1 _)) (by simp [Value.oneCell'])
          (by omega) (by unfold maxLen; omega) (by omega) (Nat.zero_le _) (w1.heap.size + 1) (by simp) ?_; intro g cap' w2 hown2 hgrow hat hlt; have hc2 := ((HF.out w1 b1).alloc _).grown hgrow nB; have hc3 := hc2.1; have hf3 := hc2.2))
  all_goals
    have hz : w.heap.size ≤ w1.heap.size := Nat.le_trans (unhide HB0).size b1.size
    have hbw : Below w.heap.size w (w1.alloc (Obj.cells #[Value.string name, Value.slice none 0 0] 101)) := ((unhide HB0).drew.trans (b1.mono (unhide HB0).size)).alloc hz _
    have hT := ((unhide HR).below hbw).push hgrow rfl hown2 (by rw [al_size]; exact hat)
    have HT := hide (hT.before hbw)
    clear hT hbw hz hown2 hgrow hat hlt hc2 hc3 hf3
    go_wp2
    go_ret
    exact ⟨rfl, unhide HT⟩

end Go.Proofs.Ytlndphpidkacgaa
