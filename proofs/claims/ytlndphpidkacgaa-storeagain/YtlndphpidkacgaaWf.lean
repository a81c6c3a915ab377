/- The walks of rename. -/
import Derived.Test.YtlndphpidkacgaaWe
namespace Go.Proofs.Ytlndphpidkacgaa
open Go.RowKit
set_option linter.unusedSimpArgs false
set_option linter.unusedVariables false

theorem rename_there (at_ : Int) (to : ByteArray) (B : Nat) (own : List Nat) (st : List AFile) (w : World) (hr : St w B own st) (hl : st.length ≤ 1000) (h0 : 0 ≤ fInt to st) :
    Calls Try.prog 62 #[.pointer (some ⟨B, 0, none⟩), .int .i64 at_, .string to] w fun e w' => e = .returned (.int .i64 5) ∧ Below w.heap.size w w' := by
  have hcon := find_any to B own st w hr hl
  generalize fInt to st = res at hcon h0
  go_enter Try.func62, Try.ntmps62
  go_wp2_with (go_at_call 60; refine hcon.mono ?_; rintro e w' ⟨rfl, hb'⟩)
  go_ret
  exact ⟨rfl, hb'⟩

theorem Rep.can {w : World} {B g n cap : Nat} {fs : List FV} (hr : Rep w B (.slice (some ⟨g, 0, none⟩) n cap) fs) (j : Nat) (f : FV) (hf : fs[j]? = some f) : Can w g (j * 2) (.string f.name) ∧ Can w g (j * 2 + 1) f.tv := by
  have hz : ∀ o, w.frozen? ⟨g, o, none⟩ = false := fun o => by
    rcases hr.row.2 with ⟨e, _⟩ | ⟨g', cap', cur, he, _, hh, _⟩
    · cases e
    · obtain ⟨rfl, _⟩ : g = g' ∧ _ := by simpa using he
      simp [World.frozen?, hh]
  obtain ⟨h1, h2⟩ := hr.file j f hf
  exact ⟨⟨h1, hz _⟩, ⟨h2, hz _⟩⟩

set_option maxRecDepth 100000 in
set_option maxHeartbeats 2000000 in
theorem rename_new (to : ByteArray) (B g n cap : Nat) (l1 l2 : List FV) (f : FV) (w : World) (hr : Rep w B (.slice (some ⟨g, 0, none⟩) n cap) (l1 ++ f :: l2)) (hn : n = (l1 ++ f :: l2).length) (hl : n ≤ 1000)
    (h0 : fInt to ((l1 ++ f :: l2).map FV.abs) < 0) (hs : to.size ≤ 1000) :
    Calls Try.prog 62 #[.pointer (some ⟨B, 0, none⟩), .int .i64 (l1.length : Int), .string to] w
      fun e w' => e = .returned (.int .i64 0) ∧ Turned w B (owns B (.slice (some ⟨g, 0, none⟩) n cap) (l1 ++ f :: l2)) w' (((l1 ++ f :: l2).map FV.abs).set l1.length ⟨to, f.text⟩) := by
  have hcon := find_any to B _ _ w ⟨_, _, hr, rfl, rfl⟩ (by simp at hn ⊢; omega)
  have hcB : Can w B 0 (.slice (some ⟨g, 0, none⟩) n cap) := ⟨hr.cellB, hr.frozenB⟩
  have hcF := (hr.can l1.length f mid_get).1
  have HR := hide hr
  have hln : (l1.length : Int) < (n : Int) := by rw [hn]; simp; omega
  have hl0 : (0 : Int) ≤ (l1.length : Int) := by omega
  generalize fInt to ((l1 ++ f :: l2).map FV.abs) = res at hcon h0
  have HCB := hide hcB
  have HCF := hide hcF
  have HN := hide hn
  clear hr hcB hcF hn
  go_enter Try.func62, Try.ntmps62
  go_wp2_with fail
  refine hcon.mono ?_
  rintro e w0 ⟨rfl, b0⟩
  have hb0 := (unhide HCB).below b0 (unhide HCB).lt
  have hf0 := (unhide HCF).below b0 (unhide HCF).lt
  have HR0 := hide ((unhide HR).below b0)
  have HB0 := hide b0
  have hc1 := hb0.1
  have hc2 := hf0.1
  have hc3 := hf0.2
  have HF : Hid (∀ wx, Below w0.drew.heap.size w0.drew wx → Can wx B 0 (.slice (some ⟨g, 0, none⟩) n cap) ∧ Can wx g (l1.length * 2) (.string f.name)) := fun wx hb => ⟨Can.below (w := w0.drew) hb0 hb hb0.lt, Can.below (w := w0.drew) hf0 hb hf0.lt⟩
  clear hcon b0 hb0 hf0
  go_wp2_with fail
  go_region_law (go_simp; go_at_call 65; refine (Clone_any to _ hs).mono ?_; rintro e w1 ⟨rfl, b1⟩; have hq := (HF.out w1 b1); have hq1 := hq.1.1; have hq2 := hq.2.1; have hq3 := hq.2.2; clear hq)
  all_goals
    have hz : w.heap.size ≤ w1.heap.size := Nat.le_trans (unhide HB0).size b1.size
    have hbw : Below w.heap.size w w1 := (unhide HB0).drew.trans (b1.mono (unhide HB0).size)
    have hr1 := (unhide HR).below hbw
    have hT := hr1.setFile (f' := ⟨to, f.tv, f.text⟩) 0 (by omega) (.string to) (by simp [FV.cells]) (w1 := w1) ⟨rfl, rfl, rfl, Nat.le_refl _, fun _ _ _ => rfl⟩ (hr1.texts f (by simp)) (.inl rfl)
    rw [setAbs l1 l2 f] at hT
    have HT := hide (hT.before hbw)
    clear hT hbw hz hr1
    go_wp2
    go_ret
    exact ⟨rfl, unhide HT⟩

end Go.Proofs.Ytlndphpidkacgaa
