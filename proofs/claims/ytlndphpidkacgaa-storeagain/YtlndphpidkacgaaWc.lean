/- The walks of find: the closure, slices.IndexFunc, find. -/
import Derived.Test.YtlndphpidkacgaaWb
import Derived.Test.YtlndphpidkacgaaRep
namespace Go.Proofs.Ytlndphpidkacgaa
open Go.RowKit
set_option linter.unusedSimpArgs false
set_option linter.unusedVariables false

set_option maxHeartbeats 400000 in
theorem pred41 (nm name : ByteArray) (tv : Value) (Bn : Nat) (w : World) (hn : w.cell? ⟨Bn, 0, none⟩ = some (.string name)) (hB : Bn < w.heap.size) :
    Calls Try.prog 80 #[.agg #[.string nm, tv], .pointer (some ⟨Bn, 0, none⟩)] w fun e w' => e = .returned (.bool (nm.toList == name.toList)) ∧ Below w.heap.size w w' := by
  have hne : ¬ w.heap.size = Bn := by omega
  have hne2 : ¬ Bn = w.heap.size := by omega
  go_enter Try.func80, Try.ntmps80
  go_wp2
  go_ret
  exact ⟨rfl, (Below.refl _ _).alloc (Nat.le_refl _) _⟩

theorem abs_get {fs : List FV} {j : Nat} {f : AFile} (h : (fs.map FV.abs)[j]? = some f) : ∃ x, fs[j]? = some x ∧ x.abs = f := by
  rw [List.getElem?_map] at h
  cases hx : fs[j]? with
  | none => simp [hx] at h
  | some x => simp [hx] at h; exact ⟨x, rfl, h⟩

set_option maxHeartbeats 1000000 in
theorem idx40 (name : ByteArray) (Bn B : Nat) (v : Value) (fs : List FV) (w : World) (hr : Rep w B v fs) (hn : w.cell? ⟨Bn, 0, none⟩ = some (.string name)) (hl : fs.length ≤ 1000) :
    Calls Try.prog 79 #[v, .func (.func 80) #[] #[.pointer (some ⟨Bn, 0, none⟩)]] w
      fun e w' => e = .returned (.int .i64 (fInt name (fs.map FV.abs))) ∧ Below w.heap.size w w' := by
  have hBn : Bn < w.heap.size := World.block_lt_of_cell? w _ hn
  obtain ⟨a, cap, rfl⟩ := row_form hr.row
  obtain ⟨res, HR⟩ : ∃ res, Hid (fInt name (fs.map FV.abs) = res) := ⟨_, rfl⟩
  rw [HR.out]
  have HRep := hide hr
  have HN := hide hn
  clear hr hn
  go_enter Try.func79, Try.ntmps79
  go_wp2
  go_loopw [5, 8] (fun _ i wr => ∃ k : Nat, k ≤ fs.length ∧ i = .int .i64 k ∧ Hid (Below w.heap.size w wr) ∧ Hid (∀ (j : Nat) (f : FV), j < k → fs[j]? = some f → (f.name.toList == name.toList) = false)) (fun _ i _ => fs.length - (intOf i).toNat)
  case atStart => exact ⟨0, Nat.zero_le _, rfl, Below.refl _ _, fun j f hj => absurd hj (Nat.not_lt_zero _)⟩
  case round =>
    obtain ⟨k, hk, rfl, HB, HA⟩ := hrel
    by_cases hlt : k < fs.length
    · obtain ⟨x, hx⟩ : ∃ x, fs[k]? = some x := ⟨_, List.getElem?_eq_getElem hlt⟩
      have hrw := (unhide HRep).below (unhide HB)
      have hnw := ((unhide HB).cell (p := ⟨Bn, 0, none⟩) hBn).trans (unhide HN)
      have hBw : Bn < wr.heap.size := Nat.lt_of_lt_of_le hBn (unhide HB).size
      rcases hrw.row.2 with ⟨he, h0⟩ | ⟨g, cap', cur, he, _⟩
      · omega
      obtain ⟨rfl, rfl⟩ : a = some ⟨g, 0, none⟩ ∧ cap = cap' := by simpa using he
      obtain ⟨hc0, hc1⟩ := hrw.file k x hx
      have hp := pred41 x.name name x.tv Bn wr hnw hBw
      have HX := hide hx
      clear hx hrw hnw hBw he
      generalize x.tv = tv at hc1 hp
      cases hq : (x.name.toList == name.toList)
      · rw [hq] at hp
        have HQ := hide hq
        clear hq
        go_wp2_with (go_at_call 80; refine hp.mono ?_; rintro e w' ⟨rfl, hb'⟩)
        go_roundw
        case rel =>
          refine ⟨k + 1, by omega, by go_num, (unhide HB).trans (hb'.mono (unhide HB).size), ?_⟩
          intro j f hj hf
          by_cases e : j = k
          · subst e
            have := unhide HX
            rw [this] at hf
            cases hf
            exact unhide HQ
          · exact unhide HA j f (by omega) hf
        case measure => simp [intOf]; omega
      · rw [hq] at hp
        have HQ := hide hq
        clear hq
        go_wp2_with (go_at_call 80; refine hp.mono ?_; rintro e w' ⟨rfl, hb'⟩)
        go_ret
        refine ⟨?_, (unhide HB).trans (hb'.mono (unhide HB).size)⟩
        rw [← HR.out, fInt_hit name (fs.map FV.abs) k (by simpa using hlt) ?_ ?_]
        · rfl
        · intro j f hj hf
          obtain ⟨y, hy, rfl⟩ := abs_get hf
          exact unhide HA j y hj hy
        · intro f hf
          obtain ⟨y, hy, rfl⟩ := abs_get hf
          have := unhide HX
          rw [this] at hy
          cases hy
          exact unhide HQ
    · have hkk : k = fs.length := by omega
      subst hkk
      go_wp2
      go_ret
      refine ⟨?_, unhide HB⟩
      rw [← HR.out, fInt_miss name (fs.map FV.abs) ?_]
      · rfl
      intro j f hf
      obtain ⟨y, hy, rfl⟩ := abs_get hf
      exact unhide HA j y (List.getElem?_eq_some_iff.1 hy).1 hy

set_option maxHeartbeats 400000 in
theorem find_any (name : ByteArray) (B : Nat) (own : List Nat) (st : List AFile) (w : World) (hr : St w B own st) (hl : st.length ≤ 1000) :
    Calls Try.prog 60 #[.pointer (some ⟨B, 0, none⟩), .string name] w
      fun e w' => e = .returned (.int .i64 (fInt name st)) ∧ Below w.heap.size w w' := by
  obtain ⟨v, fs, hr, rfl, rfl⟩ := hr
  have hr2 := hr.below ((Below.refl _ _).alloc (Nat.le_refl _) (.cells #[.string name] 9))
  have hB : B < w.heap.size := hr.lt (mem_owns.2 (.inl rfl))
  have hcon := idx40 name w.heap.size B v fs _ hr2 (by simp) (by simpa using hl)
  have hc := hr.cellB
  have hne : ¬ w.heap.size = B := by omega
  have hne2 : ¬ B = w.heap.size := by omega
  obtain ⟨a, cap, rfl⟩ := row_form hr.row
  generalize fInt name (fs.map FV.abs) = res at hcon ⊢
  clear hr hr2
  go_enter Try.func60, Try.ntmps60
  go_wp2_with (go_at_call 79; refine hcon.mono ?_; rintro e w' ⟨rfl, hb'⟩)
  go_ret
  exact ⟨rfl, ((Below.refl _ _).alloc (Nat.le_refl _) _).trans (hb'.mono (by simp))⟩

end Go.Proofs.Ytlndphpidkacgaa
