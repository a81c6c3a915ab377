/- The walks of within, Name, Changes, formed, named, Check. -/
import Derived.Test.YtlndphpidkacgaaPlain
import Derived.Test.YtlndphpidkacgaaRows
import Derived.Deep.LoopGhost
import Derived.BigQuiet
import Derived.Deep.QuietTactic
namespace Go.Proofs.Ytlndphpidkacgaa
open Go.RowKit
set_option linter.unusedSimpArgs false
set_option linter.unusedVariables false

set_option maxHeartbeats 400000 in
theorem pred36 (lo hi b : Int) (B1 B2 : Nat) (w : World) (h1 : w.cell? ⟨B1, 0, none⟩ = some (.int .u8 lo)) (h2 : w.cell? ⟨B2, 0, none⟩ = some (.int .u8 hi)) :
    Calls Try.prog 75 #[.int .u8 b, .pointer (some ⟨B1, 0, none⟩), .pointer (some ⟨B2, 0, none⟩)] w fun e w' => e = .returned (.bool (decide (b < lo) || decide (hi < b))) ∧ w' = w := by
  by_cases hb : b < lo
  · go_enter Try.func75, Try.ntmps75
    go_wp2
    go_ret
    exact ⟨by simp [hb], rfl⟩
  · by_cases hc : hi < b
    · go_enter Try.func75, Try.ntmps75
      go_wp2
      go_ret
      exact ⟨by simp [hc], rfl⟩
    · go_enter Try.func75, Try.ntmps75
      go_wp2
      go_ret
      exact ⟨by simp [hb, hc], rfl⟩

set_option maxHeartbeats 400000 in
theorem Changes_any (k : Int) (w : World) :
    Calls Try.prog 25 #[.int .i64 k] w fun e w' => e = .returned (.bool (changesB k)) ∧ w' = w := by
  by_cases h1 : k = 1
  · subst h1; go_enter Try.func25, Try.ntmps25; go_wp2; go_ret; exact ⟨rfl, rfl⟩
  by_cases h2 : k = 2
  · subst h2; go_enter Try.func25, Try.ntmps25; go_wp2; go_ret; exact ⟨rfl, rfl⟩
  by_cases h3 : k = 3
  · subst h3; go_enter Try.func25, Try.ntmps25; go_wp2; go_ret; exact ⟨rfl, rfl⟩
  by_cases h4 : k = 4
  · subst h4; go_enter Try.func25, Try.ntmps25; go_wp2; go_ret; exact ⟨rfl, rfl⟩
  go_enter Try.func25, Try.ntmps25; go_wp2; go_ret
  exact ⟨by simp [changesB, h1, h2, h3, h4], rfl⟩


theorem any_take_succ {α : Type} (l : List α) (p : α → Bool) (k : Nat) (x : α) (hx : l[k]? = some x) : (l.take (k + 1)).any p = ((l.take k).any p || p x) := by
  rw [List.take_add_one, hx]
  simp

set_option maxHeartbeats 400000 in
theorem idx45 (lo hi : Int) (B1 B2 b c : Nat) (s : ByteArray) (w : World) (hs : s.size ≤ 1000) (h1 : w.cell? ⟨B1, 0, none⟩ = some (.int .u8 lo)) (h2 : w.cell? ⟨B2, 0, none⟩ = some (.int .u8 hi))
    (hc : ∀ (j : Nat) (x : UInt8), s.data.toList[j]? = some x → w.cell? ⟨b, j, none⟩ = some (.int .u8 x.toNat)) :
    Calls Try.prog 85 #[.slice (some ⟨b, 0, none⟩) s.size c, .func (.func 75) #[] #[.pointer (some ⟨B1, 0, none⟩), .pointer (some ⟨B2, 0, none⟩)]] w
      fun e w' => (∃ r : Int, e = .returned (.int .i64 r) ∧ decide (0 ≤ r) = s.data.toList.any (outB lo hi)) ∧ w' = w := by
  have hlen : s.data.toList.length = s.size := by rw [Array.length_toList]; rfl
  obtain ⟨rr, HR⟩ : ∃ rr, Hid (s.data.toList.any (outB lo hi) = rr) := ⟨_, rfl⟩
  rw [HR.out]
  go_enter Try.func85, Try.ntmps85
  go_wp2
  go_loop [5, 8] (fun _ i => ∃ k : Nat, k ≤ s.size ∧ i = .int .i64 k ∧ (s.data.toList.take k).any (outB lo hi) = false) (fun _ i => s.size - (intOf i).toNat)
  case atStart => exact ⟨0, Nat.zero_le _, rfl, by simp⟩
  case round =>
    obtain ⟨k, hk, rfl, ha⟩ := hrel
    have HA : Hid ((s.data.toList.take k).any (outB lo hi) = false) := ha
    clear ha
    by_cases hlt : k < s.size
    · obtain ⟨x, hx⟩ : ∃ x, s.data.toList[k]? = some x := ⟨_, List.getElem?_eq_getElem (by omega)⟩
      have hcell := hc k x hx
      have HX : Hid (s.data.toList[k]? = some x) := hx
      clear hx hc
      cases hq : (decide ((x.toNat : Int) < lo) || decide (hi < (x.toNat : Int)))
      · have HQ : Hid ((decide ((x.toNat : Int) < lo) || decide (hi < (x.toNat : Int))) = false) := hq
        have hp := pred36 lo hi x.toNat B1 B2 w h1 h2
        rw [hq] at hp
        clear hq
        go_wp2_with (go_at_call 75; refine hp.mono ?_; rintro e w' ⟨rfl, rfl⟩)
        go_round
        case rel => exact ⟨k + 1, by omega, by go_num, by rw [any_take_succ _ _ _ _ HX.out, HA.out]; exact HQ.out⟩
        case measure => simp [intOf]; omega
      · have HQ : Hid ((decide ((x.toNat : Int) < lo) || decide (hi < (x.toNat : Int))) = true) := hq
        have hp := pred36 lo hi x.toNat B1 B2 w h1 h2
        rw [hq] at hp
        clear hq
        go_wp2_with (go_at_call 75; refine hp.mono ?_; rintro e w' ⟨rfl, rfl⟩)
        go_ret
        refine ⟨⟨_, rfl, ?_⟩, rfl⟩
        have h3 : s.data.toList.any (outB lo hi) = true := by
          rw [List.any_eq_true]
          exact ⟨x, List.mem_of_getElem? HX.out, HQ.out⟩
        rw [← HR.out, h3]; simp
    · have : k = s.size := by omega
      subst this
      clear hc
      go_wp2
      go_ret
      refine ⟨⟨_, rfl, ?_⟩, rfl⟩
      have h3 := HA.out
      rw [List.take_of_length_le (by omega)] at h3
      rw [← HR.out, h3]; simp


set_option maxHeartbeats 400000 in
theorem cont35 (lo hi : Int) (B1 B2 b c : Nat) (s : ByteArray) (w : World) (hs : s.size ≤ 1000) (h1 : w.cell? ⟨B1, 0, none⟩ = some (.int .u8 lo)) (h2 : w.cell? ⟨B2, 0, none⟩ = some (.int .u8 hi))
    (hc : ∀ (j : Nat) (x : UInt8), s.data.toList[j]? = some x → w.cell? ⟨b, j, none⟩ = some (.int .u8 x.toNat)) :
    Calls Try.prog 74 #[.slice (some ⟨b, 0, none⟩) s.size c, .func (.func 75) #[] #[.pointer (some ⟨B1, 0, none⟩), .pointer (some ⟨B2, 0, none⟩)]] w
      fun e w' => e = .returned (.bool (s.data.toList.any (outB lo hi))) ∧ w' = w := by
  have hp := idx45 lo hi B1 B2 b c s w hs h1 h2 hc
  obtain ⟨rr, HR⟩ : ∃ rr, Hid (s.data.toList.any (outB lo hi) = rr) := ⟨_, rfl⟩
  rw [HR.out] at hp ⊢
  clear hc
  go_enter Try.func74, Try.ntmps74
  go_wp2_with (go_at_call 85; refine hp.mono ?_; rintro e w' ⟨⟨r, rfl, hr⟩, rfl⟩)
  all_goals (go_ret; exact ⟨by simp_all, rfl⟩)


def convCap (w : World) (s : ByteArray) : Nat := grownCap w s.size 0 5
def convObj (w : World) (s : ByteArray) : Obj := .cells (bytesRow s (convCap w s)) 5 ((bytesRow s (convCap w s)).size, (bytesRow s (convCap w s)).size + 1)
theorem conv_run (s : ByteArray) (w : World) : (convert 9 48 (.string s)).run Try.prog w = .ok (.slice (some ⟨w.heap.size, 0, none⟩) s.size (convCap w s)) ((w.alloc (convObj w s)).drew) :=
  run_bytes_of_string (P := Try.prog) w 9 48 5 s Try.underlying9 Try.underlying48 Try.underlying5
theorem conv_cell (s : ByteArray) (w : World) (j : Nat) (x : UInt8) (hx : s.data.toList[j]? = some x) : (w.alloc (convObj w s)).cell? ⟨w.heap.size, j, none⟩ = some (.int .u8 x.toNat) := by
  unfold convObj
  rw [World.cell?_alloc_mark]
  unfold bytesRow
  have hj : j < s.data.size := by
    have := (List.getElem?_eq_some_iff.1 hx).1
    simpa using this
  rw [Array.getElem?_append_left (by simpa using hj)]
  simp [Array.getElem?_eq_getElem hj] at hx ⊢
  rw [hx]

/-- The world in which within calls slices.ContainsFunc. -/
theorem within_call (s : ByteArray) (lo hi : Int) (w : World) (hs : s.size ≤ 1000) (rr : Bool) (HR : Hid (s.data.toList.any (outB lo hi) = rr)) (W : World) (hW : W = (w.alloc (Obj.cells #[Value.int IntKind.u8 lo] 5)).alloc (Obj.cells #[Value.int IntKind.u8 hi] 5)) (c : Nat) :
    Calls Try.prog 74 #[.slice (some ⟨w.heap.size + 1 + 1, 0, none⟩) s.size c, .func (.func 75) #[] #[.pointer (some ⟨w.heap.size, 0, none⟩), .pointer (some ⟨w.heap.size + 1, 0, none⟩)]] (W.alloc (convObj W s)).drew
      fun e w' => e = .returned (.bool rr) ∧ w' = (W.alloc (convObj W s)).drew := by
  have hW2 : W.heap.size = w.heap.size + 1 + 1 := by rw [hW, al_size, al_size]
  rw [← HR.out]
  refine cont35 lo hi w.heap.size (w.heap.size + 1) (w.heap.size + 1 + 1) c s _ hs ?_ ?_ ?_
  · show (W.alloc (convObj W s)).cell? _ = _
    rw [al_old _ _ _ _ (by omega), hW, al_old _ _ _ _ (by rw [al_size]; omega), al_new _ _ _ _ _ _ rfl]
    rfl
  · show (W.alloc (convObj W s)).cell? _ = _
    rw [al_old _ _ _ _ (by omega), hW, al_new _ _ _ _ _ _ (by rw [al_size])]
    rfl
  · intro j x hx
    have := conv_cell s W j x hx
    rw [hW2] at this
    exact this

set_option maxHeartbeats 400000 in
theorem within_any (s : ByteArray) (most lo hi : Int) (w : World) (hm : most ≤ 1000) (hs : s.size ≤ maxLen) :
    Calls Try.prog 57 #[.string s, .int .i64 most, .int .u8 lo, .int .u8 hi] w
      fun e w' => e = .returned (.bool (withinB s most lo hi)) ∧ Below w.heap.size w w' := by
  unfold maxLen at hs
  by_cases h1 : (1 : Int) ≤ (s.size : Int)
  · by_cases h2 : (s.size : Int) ≤ most
    · have kc := conv_run s
      obtain ⟨rr, HR⟩ : ∃ rr, Hid (s.data.toList.any (outB lo hi) = rr) := ⟨_, rfl⟩
      have hf : withinB s most lo hi = !rr := by
        rw [withinB, HR.out]; simp [h1, h2]
      rw [hf]
      have hcon := within_call s lo hi w (by omega) rr HR
      have h3 : ¬ ((s.size : Int) < 1) := by omega
      have h4 : ¬ (most < (s.size : Int)) := by omega
      clear h1 h2 hf
      go_enter Try.func57, Try.ntmps57
      go_wp2_with (go_at_call 74; refine (hcon _ rfl _).mono ?_; rintro e w' ⟨rfl, rfl⟩)
      go_ret
      exact ⟨rfl, ((((Below.refl _ _).alloc (Nat.le_refl _) _).alloc (by simp) _).alloc (by simp; omega) _).drew⟩
    · have hf : withinB s most lo hi = false := by simp [withinB, h2]
      rw [hf]
      go_enter Try.func57, Try.ntmps57
      go_wp2
      go_ret
      exact ⟨rfl, ((Below.refl _ _).alloc (Nat.le_refl _) _).alloc (by simp) _⟩
  · have hf : withinB s most lo hi = false := by simp [withinB, h1]
    rw [hf]
    go_enter Try.func57, Try.ntmps57
    go_wp2
    go_ret
    exact ⟨rfl, ((Below.refl _ _).alloc (Nat.le_refl _) _).alloc (by simp) _⟩

set_option maxHeartbeats 400000 in
theorem Name_any (s : ByteArray) (w : World) (hs : s.size ≤ maxLen) :
    Calls Try.prog 27 #[.string s] w fun e w' => e = .returned (.bool (nameB s)) ∧ Below w.heap.size w w' := by
  unfold nameB
  go_enter Try.func27, Try.ntmps27
  go_wp2_with (go_at_call 57; refine (within_any s 5 97 122 _ (by omega) hs).mono ?_; rintro e w' ⟨rfl, hb⟩)
  go_ret
  exact ⟨rfl, hb⟩

end Go.Proofs.Ytlndphpidkacgaa
