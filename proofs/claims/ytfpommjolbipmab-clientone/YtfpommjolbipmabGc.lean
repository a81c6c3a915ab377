/- Check, CallFault, greatCall; records in rows, compared. -/
import Derived.Test.YtfpommjolbipmabPc
import Derived.Deep.LoopGhost
import Derived.BigQuiet
import Derived.Deep.QuietTactic
namespace Go.Proofs.Ytfpommjolbipmab
open Go.RowKit
set_option linter.unusedSimpArgs false
set_option linter.unusedVariables false

def emptyB (s : ByteArray) : Bool := s.toList.isEmpty

/-- Outside the bounds. -/
def outB (lo hi : Int) (b : UInt8) : Bool := decide ((b.toNat : Int) < lo) || decide (hi < (b.toNat : Int))

def withinB (s : ByteArray) (most lo hi : Int) : Bool :=
  decide (1 ≤ (s.size : Int)) && decide ((s.size : Int) ≤ most) && !(s.data.toList.any (outB lo hi))

def nameB (s : ByteArray) : Bool := withinB s 5 97 122

def textB (s : ByteArray) : Bool := withinB s 8 32 126

def changesB (k : Int) : Bool := k == 1 || k == 2 || k == 3 || k == 4

def formedB (c : ACall) : Bool := (emptyB c.name || c.kind != 6) && (emptyB c.dst || c.kind == 3) && (emptyB c.text || c.kind == 4)

def namedB (c : ACall) : Bool := (c.kind == 6 || nameB c.name) && (c.kind != 3 || nameB c.dst)

def checkI (c : ACall) : Int :=
  if c.kind < 1 ∨ 6 < c.kind then 1 else if formedB c = false then 3 else if namedB c = false then 2 else if c.kind = 4 ∧ textB c.text = false then 4 else 0

/-- A call as a value. -/
def ACall.cells (c : ACall) : Array Value := #[.int .i64 c.kind, .string c.name, .string c.dst, .string c.text]

set_option maxHeartbeats 400000 in
theorem pred36 (lo hi b : Int) (B1 B2 : Nat) (w : World) (h1 : w.cell? ⟨B1, 0, none⟩ = some (.int .u8 lo)) (h2 : w.cell? ⟨B2, 0, none⟩ = some (.int .u8 hi)) :
    Calls Try.prog 54 #[.int .u8 b, .pointer (some ⟨B1, 0, none⟩), .pointer (some ⟨B2, 0, none⟩)] w fun e w' => e = .returned (.bool (decide (b < lo) || decide (hi < b))) ∧ w' = w := by
  by_cases hb : b < lo
  · go_enter Try.func54, Try.ntmps54
    go_wp2
    go_ret
    exact ⟨by simp [hb], rfl⟩
  · by_cases hc : hi < b
    · go_enter Try.func54, Try.ntmps54
      go_wp2
      go_ret
      exact ⟨by simp [hc], rfl⟩
    · go_enter Try.func54, Try.ntmps54
      go_wp2
      go_ret
      exact ⟨by simp [hb, hc], rfl⟩

theorem any_take_succ {α : Type} (l : List α) (p : α → Bool) (k : Nat) (x : α) (hx : l[k]? = some x) : (l.take (k + 1)).any p = ((l.take k).any p || p x) := by
  rw [List.take_add_one, hx]
  simp

set_option maxHeartbeats 400000 in
theorem idx45 (lo hi : Int) (B1 B2 b c : Nat) (s : ByteArray) (w : World) (hs : s.size ≤ 1000) (h1 : w.cell? ⟨B1, 0, none⟩ = some (.int .u8 lo)) (h2 : w.cell? ⟨B2, 0, none⟩ = some (.int .u8 hi))
    (hc : ∀ (j : Nat) (x : UInt8), s.data.toList[j]? = some x → w.cell? ⟨b, j, none⟩ = some (.int .u8 x.toNat)) :
    Calls Try.prog 55 #[.slice (some ⟨b, 0, none⟩) s.size c, .func (.func 54) #[] #[.pointer (some ⟨B1, 0, none⟩), .pointer (some ⟨B2, 0, none⟩)]] w
      fun e w' => (∃ r : Int, e = .returned (.int .i64 r) ∧ decide (0 ≤ r) = s.data.toList.any (outB lo hi)) ∧ w' = w := by
  have hlen : s.data.toList.length = s.size := by rw [Array.length_toList]; rfl
  obtain ⟨rr, HR⟩ : ∃ rr, Hid (s.data.toList.any (outB lo hi) = rr) := ⟨_, rfl⟩
  rw [HR.out]
  go_enter Try.func55, Try.ntmps55
  go_wp2
  go_loop [5, 8] (fun _ i => ∃ k : Nat, k ≤ s.size ∧ i = .int .i64 k ∧ (s.data.toList.take k).any (outB lo hi) = false) (fun _ i => s.size - (intOf i).toNat)
  case atStart => exact ⟨0, Nat.zero_le _, rfl, by simp⟩
  case round =>
    obtain ⟨k, hk, rfl, ha⟩ := hrel
    have HA : Hid ((s.data.toList.take k).any (outB lo hi) = false) := ha
    clear ha
    by_cases hlt : k < s.size
    · obtain ⟨x, hx⟩ : ∃ x, s.data.toList[k]? = some x := ⟨_, List.getElem?_eq_getElem (by omega)⟩
      have hcell := hc k x hx
      have HX : Hid (s.data.toList[k]? = some x) := hx
      clear hx hc
      cases hq : (decide ((x.toNat : Int) < lo) || decide (hi < (x.toNat : Int)))
      · have HQ : Hid ((decide ((x.toNat : Int) < lo) || decide (hi < (x.toNat : Int))) = false) := hq
        have hp := pred36 lo hi x.toNat B1 B2 w h1 h2
        rw [hq] at hp
        clear hq
        go_wp2_with (go_at_call 54; refine hp.mono ?_; rintro e w' ⟨rfl, rfl⟩)
        go_round
        case rel => exact ⟨k + 1, by omega, by go_num, by rw [any_take_succ _ _ _ _ HX.out, HA.out]; exact HQ.out⟩
        case measure => simp [intOf]; omega
      · have HQ : Hid ((decide ((x.toNat : Int) < lo) || decide (hi < (x.toNat : Int))) = true) := hq
        have hp := pred36 lo hi x.toNat B1 B2 w h1 h2
        rw [hq] at hp
        clear hq
        go_wp2_with (go_at_call 54; refine hp.mono ?_; rintro e w' ⟨rfl, rfl⟩)
        go_ret
        refine ⟨⟨_, rfl, ?_⟩, rfl⟩
        have h3 : s.data.toList.any (outB lo hi) = true := by
          rw [List.any_eq_true]
          exact ⟨x, List.mem_of_getElem? HX.out, HQ.out⟩
        rw [← HR.out, h3]; simp
    · have : k = s.size := by omega
      subst this
      clear hc
      go_wp2
      go_ret
      refine ⟨⟨_, rfl, ?_⟩, rfl⟩
      have h3 := HA.out
      rw [List.take_of_length_le (by omega)] at h3
      rw [← HR.out, h3]; simp

set_option maxHeartbeats 400000 in
theorem cont35 (lo hi : Int) (B1 B2 b c : Nat) (s : ByteArray) (w : World) (hs : s.size ≤ 1000) (h1 : w.cell? ⟨B1, 0, none⟩ = some (.int .u8 lo)) (h2 : w.cell? ⟨B2, 0, none⟩ = some (.int .u8 hi))
    (hc : ∀ (j : Nat) (x : UInt8), s.data.toList[j]? = some x → w.cell? ⟨b, j, none⟩ = some (.int .u8 x.toNat)) :
    Calls Try.prog 53 #[.slice (some ⟨b, 0, none⟩) s.size c, .func (.func 54) #[] #[.pointer (some ⟨B1, 0, none⟩), .pointer (some ⟨B2, 0, none⟩)]] w
      fun e w' => e = .returned (.bool (s.data.toList.any (outB lo hi))) ∧ w' = w := by
  have hp := idx45 lo hi B1 B2 b c s w hs h1 h2 hc
  obtain ⟨rr, HR⟩ : ∃ rr, Hid (s.data.toList.any (outB lo hi) = rr) := ⟨_, rfl⟩
  rw [HR.out] at hp ⊢
  clear hc
  go_enter Try.func53, Try.ntmps53
  go_wp2_with (go_at_call 55; refine hp.mono ?_; rintro e w' ⟨⟨r, rfl, hr⟩, rfl⟩)
  all_goals (go_ret; exact ⟨by simp_all, rfl⟩)

def convCap (w : World) (s : ByteArray) : Nat := grownCap w s.size 0 5

def convObj (w : World) (s : ByteArray) : Obj := .cells (bytesRow s (convCap w s)) 5 ((bytesRow s (convCap w s)).size, (bytesRow s (convCap w s)).size + 1)

theorem conv_run (s : ByteArray) (w : World) : (convert 9 81 (.string s)).run Try.prog w = .ok (.slice (some ⟨w.heap.size, 0, none⟩) s.size (convCap w s)) ((w.alloc (convObj w s)).drew) :=
  run_bytes_of_string (P := Try.prog) w 9 81 5 s Try.underlying9 Try.underlying81 Try.underlying5

theorem conv_cell (s : ByteArray) (w : World) (j : Nat) (x : UInt8) (hx : s.data.toList[j]? = some x) : (w.alloc (convObj w s)).cell? ⟨w.heap.size, j, none⟩ = some (.int .u8 x.toNat) := by
  unfold convObj
  rw [World.cell?_alloc_mark]
  unfold bytesRow
  have hj : j < s.data.size := by
    have := (List.getElem?_eq_some_iff.1 hx).1
    simpa using this
  rw [Array.getElem?_append_left (by simpa using hj)]
  simp [Array.getElem?_eq_getElem hj] at hx ⊢
  rw [hx]

/-- The world in which within calls slices.ContainsFunc. -/
theorem within_call (s : ByteArray) (lo hi : Int) (w : World) (hs : s.size ≤ 1000) (rr : Bool) (HR : Hid (s.data.toList.any (outB lo hi) = rr)) (W : World) (hW : W = (w.alloc (Obj.cells #[Value.int IntKind.u8 lo] 5)).alloc (Obj.cells #[Value.int IntKind.u8 hi] 5)) (c : Nat) :
    Calls Try.prog 53 #[.slice (some ⟨w.heap.size + 1 + 1, 0, none⟩) s.size c, .func (.func 54) #[] #[.pointer (some ⟨w.heap.size, 0, none⟩), .pointer (some ⟨w.heap.size + 1, 0, none⟩)]] (W.alloc (convObj W s)).drew
      fun e w' => e = .returned (.bool rr) ∧ w' = (W.alloc (convObj W s)).drew := by
  have hW2 : W.heap.size = w.heap.size + 1 + 1 := by rw [hW, al_size, al_size]
  rw [← HR.out]
  refine cont35 lo hi w.heap.size (w.heap.size + 1) (w.heap.size + 1 + 1) c s _ hs ?_ ?_ ?_
  · show (W.alloc (convObj W s)).cell? _ = _
    rw [al_old _ _ _ _ (by omega), hW, al_old _ _ _ _ (by rw [al_size]; omega), al_new _ _ _ _ _ _ rfl]
    rfl
  · show (W.alloc (convObj W s)).cell? _ = _
    rw [al_old _ _ _ _ (by omega), hW, al_new _ _ _ _ _ _ (by rw [al_size])]
    rfl
  · intro j x hx
    have := conv_cell s W j x hx
    rw [hW2] at this
    exact this

set_option maxHeartbeats 400000 in
theorem within_any (s : ByteArray) (most lo hi : Int) (w : World) (hm : most ≤ 1000) (hs : s.size ≤ maxLen) :
    Calls Try.prog 48 #[.string s, .int .i64 most, .int .u8 lo, .int .u8 hi] w
      fun e w' => e = .returned (.bool (withinB s most lo hi)) ∧ Below w.heap.size w w' := by
  unfold maxLen at hs
  by_cases h1 : (1 : Int) ≤ (s.size : Int)
  · by_cases h2 : (s.size : Int) ≤ most
    · have kc := conv_run s
      obtain ⟨rr, HR⟩ : ∃ rr, Hid (s.data.toList.any (outB lo hi) = rr) := ⟨_, rfl⟩
      have hf : withinB s most lo hi = !rr := by
        rw [withinB, HR.out]; simp [h1, h2]
      rw [hf]
      have hcon := within_call s lo hi w (by omega) rr HR
      have h3 : ¬ ((s.size : Int) < 1) := by omega
      have h4 : ¬ (most < (s.size : Int)) := by omega
      clear h1 h2 hf
      go_enter Try.func48, Try.ntmps48
      go_wp2_with (go_at_call 53; refine (hcon _ rfl _).mono ?_; rintro e w' ⟨rfl, rfl⟩)
      go_ret
      exact ⟨rfl, ((((Below.refl _ _).alloc (Nat.le_refl _) _).alloc (by simp) _).alloc (by simp; omega) _).drew⟩
    · have hf : withinB s most lo hi = false := by simp [withinB, h2]
      rw [hf]
      go_enter Try.func48, Try.ntmps48
      go_wp2
      go_ret
      exact ⟨rfl, ((Below.refl _ _).alloc (Nat.le_refl _) _).alloc (by simp) _⟩
  · have hf : withinB s most lo hi = false := by simp [withinB, h1]
    rw [hf]
    go_enter Try.func48, Try.ntmps48
    go_wp2
    go_ret
    exact ⟨rfl, ((Below.refl _ _).alloc (Nat.le_refl _) _).alloc (by simp) _⟩

set_option maxHeartbeats 400000 in
theorem Name_any (s : ByteArray) (w : World) (hs : s.size ≤ maxLen) :
    Calls Try.prog 52 #[.string s] w fun e w' => e = .returned (.bool (nameB s)) ∧ Below w.heap.size w w' := by
  unfold nameB
  go_enter Try.func52, Try.ntmps52
  go_wp2_with (go_at_call 48; refine (within_any s 5 97 122 _ (by omega) hs).mono ?_; rintro e w' ⟨rfl, hb⟩)
  go_ret
  exact ⟨rfl, hb⟩

set_option maxHeartbeats 1000000 in
theorem formed_any (k : Int) (a b t : ByteArray) (w : World) :
    Calls Try.prog 46 #[.agg #[.int .i64 k, .string a, .string b, .string t]] w
      fun e w' => e = .returned (.bool (formedB ⟨k, a, b, t⟩)) ∧ Below w.heap.size w w' := by
  have hB : ∀ o : Obj, Below w.heap.size w (w.alloc o) := fun o => (Below.refl _ _).alloc (Nat.le_refl _) o
  have hf : formedB ⟨k, a, b, t⟩ = ((a.toList.isEmpty || k != 6) && (b.toList.isEmpty || k == 3) && (t.toList.isEmpty || k == 4)) := rfl
  rw [hf]
  clear hf
  cases h1 : a.toList.isEmpty <;> cases h2 : (k != 6) <;> cases h3 : b.toList.isEmpty <;> cases h4 : (k == 3) <;> cases h5 : t.toList.isEmpty <;> cases h6 : (k == 4)
  all_goals try (exfalso; simp at h2 h4 h6; omega)
  all_goals
    go_enter Try.func46, Try.ntmps46
    go_wp2
    go_ret
    exact ⟨by simp, hB _⟩

set_option maxHeartbeats 1000000 in
theorem named_any (k : Int) (a b t : ByteArray) (w : World) (ha : a.size ≤ maxLen) (hb : b.size ≤ maxLen) :
    Calls Try.prog 47 #[.agg #[.int .i64 k, .string a, .string b, .string t]] w
      fun e w' => e = .returned (.bool (namedB ⟨k, a, b, t⟩)) ∧ Below w.heap.size w w' := by
  have hf : namedB ⟨k, a, b, t⟩ = ((k == 6 || nameB a) && (k != 3 || nameB b)) := rfl
  rw [hf]
  clear hf
  have hA : ∀ W : World, Calls Try.prog 52 #[.string a] W fun e w' => e = .returned (.bool (nameB a)) ∧ Below W.heap.size W w' := fun W => Name_any a W ha
  have hD : ∀ W : World, Calls Try.prog 52 #[.string b] W fun e w' => e = .returned (.bool (nameB b)) ∧ Below W.heap.size W w' := fun W => Name_any b W hb
  generalize nameB a = na at hA ⊢
  generalize nameB b = nb at hD ⊢
  have HA := hide hA
  have HD := hide hD
  clear hA hD
  cases h2 : (k == 6) <;> cases h4 : (k != 3)
  · -- k = 3
    have h3 : k = 3 := by simpa using h4
    subst h3
    cases na
    · go_enter Try.func47, Try.ntmps47
      go_wp2_with fail
      refine ((unhide HA) _).mono ?_
      rintro e w1 ⟨rfl, b1⟩
      go_wp2
      go_ret
      exact ⟨by simp, ((Below.refl _ _).alloc (Nat.le_refl _) _).trans (b1.mono (by simp))⟩
    · go_enter Try.func47, Try.ntmps47
      go_wp2_with fail
      refine ((unhide HA) _).mono ?_
      rintro e w1 ⟨rfl, b1⟩
      have hc1 := b1.cell (p := ⟨w.heap.size, 0, none⟩) (by simp)
      have hc2 := b1.cell (p := ⟨w.heap.size, 2, none⟩) (by simp)
      have hz : w.heap.size < w1.heap.size := by have := b1.size; simp at this; omega
      simp at hc1 hc2
      go_wp2_with fail
      refine ((unhide HD) _).mono ?_
      rintro e w2 ⟨rfl, b2⟩
      go_wp2
      go_ret
      exact ⟨by simp, (((Below.refl _ _).alloc (Nat.le_refl _) _).trans (b1.mono (by simp))).trans (b2.mono (by omega))⟩
  · cases na
    · go_enter Try.func47, Try.ntmps47
      go_wp2_with fail
      refine ((unhide HA) _).mono ?_
      rintro e w1 ⟨rfl, b1⟩
      go_wp2
      go_ret
      exact ⟨by simp, ((Below.refl _ _).alloc (Nat.le_refl _) _).trans (b1.mono (by simp))⟩
    · go_enter Try.func47, Try.ntmps47
      go_wp2_with fail
      refine ((unhide HA) _).mono ?_
      rintro e w1 ⟨rfl, b1⟩
      have hc1 := b1.cell (p := ⟨w.heap.size, 0, none⟩) (by simp)
      have hz : w.heap.size < w1.heap.size := by have := b1.size; simp at this; omega
      simp at hc1
      go_wp2
      go_ret
      exact ⟨by simp, ((Below.refl _ _).alloc (Nat.le_refl _) _).trans (b1.mono (by simp))⟩
  · exfalso; simp at h2 h4; omega
  · go_enter Try.func47, Try.ntmps47
    go_wp2
    go_ret
    exact ⟨by simp, (Below.refl _ _).alloc (Nat.le_refl _) _⟩

set_option maxHeartbeats 1000000 in
theorem Check_any (k : Int) (a b t : ByteArray) (w : World) (ha : a.size ≤ maxLen) (hb : b.size ≤ maxLen) (ht : t.size ≤ maxLen) :
    Calls Try.prog 42 #[.agg #[.int .i64 k, .string a, .string b, .string t]] w
      fun e w' => e = .returned (.int .i64 (checkI ⟨k, a, b, t⟩)) ∧ Below w.heap.size w w' := by
  have hf : checkI ⟨k, a, b, t⟩ = if k < 1 ∨ 6 < k then 1 else if formedB ⟨k, a, b, t⟩ = false then 3 else if namedB ⟨k, a, b, t⟩ = false then 2 else if k = 4 ∧ textB t = false then 4 else 0 := rfl
  rw [hf]
  clear hf
  have hA : ∀ W : World, Calls Try.prog 46 #[.agg #[.int .i64 k, .string a, .string b, .string t]] W fun e w' => e = .returned (.bool (formedB ⟨k, a, b, t⟩)) ∧ Below W.heap.size W w' := fun W => formed_any k a b t W
  have hD : ∀ W : World, Calls Try.prog 47 #[.agg #[.int .i64 k, .string a, .string b, .string t]] W fun e w' => e = .returned (.bool (namedB ⟨k, a, b, t⟩)) ∧ Below W.heap.size W w' := fun W => named_any k a b t W ha hb
  have hE : ∀ W : World, Calls Try.prog 48 #[.string t, .int .i64 8, .int .u8 32, .int .u8 126] W fun e w' => e = .returned (.bool (textB t)) ∧ Below W.heap.size W w' := fun W => within_any t 8 32 126 W (by omega) ht
  generalize formedB ⟨k, a, b, t⟩ = na at hA ⊢
  generalize namedB ⟨k, a, b, t⟩ = nb at hD ⊢
  generalize textB t = nt at hE ⊢
  have HA := hide hA
  have HD := hide hD
  have HE := hide hE
  clear hA hD hE
  by_cases h1 : k < 1
  · rw [if_pos (Or.inl h1)]
    go_enter Try.func42, Try.ntmps42
    go_wp2
    go_ret
    exact ⟨rfl, (Below.refl _ _).alloc (Nat.le_refl _) _⟩
  by_cases h2 : 6 < k
  · rw [if_pos (Or.inr h2)]
    go_enter Try.func42, Try.ntmps42
    go_wp2
    go_ret
    exact ⟨rfl, (Below.refl _ _).alloc (Nat.le_refl _) _⟩
  rw [if_neg (by omega)]
  cases na
  · rw [if_pos rfl]
    go_enter Try.func42, Try.ntmps42
    go_wp2_with fail
    refine ((unhide HA) _).mono ?_
    rintro e w1 ⟨rfl, b1⟩
    go_wp2
    go_ret
    exact ⟨rfl, ((Below.refl _ _).alloc (Nat.le_refl _) _).trans (b1.mono (by simp))⟩
  rw [if_neg (by simp)]
  cases nb
  · rw [if_pos rfl]
    go_enter Try.func42, Try.ntmps42
    go_wp2_with fail
    refine ((unhide HA) _).mono ?_
    rintro e w1 ⟨rfl, b1⟩
    obtain ⟨hc1, hf1⟩ := bcell b1
    have hz : w.heap.size < w1.heap.size := by have := b1.size; simp at this; omega
    go_wp2_with fail
    refine ((unhide HD) _).mono ?_
    rintro e w2 ⟨rfl, b2⟩
    go_wp2
    go_ret
    exact ⟨rfl, (((Below.refl _ _).alloc (Nat.le_refl _) _).trans (b1.mono (by simp))).trans (b2.mono (by omega))⟩
  rw [if_neg (by simp)]
  cases h4 : (k == 4)
  · have h4' : ¬ k = 4 := by simpa using h4
    rw [if_neg (by simp [h4'])]
    clear h4'
    go_enter Try.func42, Try.ntmps42
    go_wp2_with fail
    refine ((unhide HA) _).mono ?_
    rintro e w1 ⟨rfl, b1⟩
    obtain ⟨hc1, hf1⟩ := bcell b1
    have hz : w.heap.size < w1.heap.size := by have := b1.size; simp at this; omega
    go_wp2_with fail
    refine ((unhide HD) _).mono ?_
    rintro e w2 ⟨rfl, b2⟩
    obtain ⟨hc2, hf2⟩ := bcell b2
    go_wp2
    go_ret
    exact ⟨rfl, (((Below.refl _ _).alloc (Nat.le_refl _) _).trans (b1.mono (by simp))).trans (b2.mono (by omega))⟩
  · have h4' : k = 4 := by simpa using h4
    subst h4'
    cases nt
    · rw [if_pos (by simp)]
      go_enter Try.func42, Try.ntmps42
      go_wp2_with fail
      refine ((unhide HA) _).mono ?_
      rintro e w1 ⟨rfl, b1⟩
      obtain ⟨hc1, hf1⟩ := bcell b1
      have hz : w.heap.size < w1.heap.size := by have := b1.size; simp at this; omega
      go_wp2_with fail
      refine ((unhide HD) _).mono ?_
      rintro e w2 ⟨rfl, b2⟩
      obtain ⟨hc2, hf2⟩ := bcell b2
      have hz2 : w.heap.size < w2.heap.size := by have := b2.size; omega
      go_wp2_with fail
      refine ((unhide HE) _).mono ?_
      rintro e w3 ⟨rfl, b3⟩
      go_wp2
      go_ret
      exact ⟨rfl, ((((Below.refl _ _).alloc (Nat.le_refl _) _).trans (b1.mono (by simp))).trans (b2.mono (by omega))).trans (b3.mono (by omega))⟩
    · rw [if_neg (by simp)]
      go_enter Try.func42, Try.ntmps42
      go_wp2_with fail
      refine ((unhide HA) _).mono ?_
      rintro e w1 ⟨rfl, b1⟩
      obtain ⟨hc1, hf1⟩ := bcell b1
      have hz : w.heap.size < w1.heap.size := by have := b1.size; simp at this; omega
      go_wp2_with fail
      refine ((unhide HD) _).mono ?_
      rintro e w2 ⟨rfl, b2⟩
      obtain ⟨hc2, hf2⟩ := bcell b2
      have hz2 : w.heap.size < w2.heap.size := by have := b2.size; omega
      go_wp2_with fail
      refine ((unhide HE) _).mono ?_
      rintro e w3 ⟨rfl, b3⟩
      go_wp2
      go_ret
      exact ⟨rfl, ((((Below.refl _ _).alloc (Nat.le_refl _) _).trans (b1.mono (by simp))).trans (b2.mono (by omega))).trans (b3.mono (by omega))⟩

set_option maxHeartbeats 400000 in
theorem IsChange_any (k : Int) (w : World) :
    Calls Try.prog 50 #[.int .i64 k] w fun e w' => e = .returned (.bool (changesB k)) ∧ w' = w := by
  by_cases h1 : k = 1
  · subst h1; go_enter Try.func50, Try.ntmps50; go_wp2; go_ret; exact ⟨rfl, rfl⟩
  by_cases h2 : k = 2
  · subst h2; go_enter Try.func50, Try.ntmps50; go_wp2; go_ret; exact ⟨rfl, rfl⟩
  by_cases h3 : k = 3
  · subst h3; go_enter Try.func50, Try.ntmps50; go_wp2; go_ret; exact ⟨rfl, rfl⟩
  by_cases h4 : k = 4
  · subst h4; go_enter Try.func50, Try.ntmps50; go_wp2; go_ret; exact ⟨rfl, rfl⟩
  have e1 : (k == 1) = false := by simpa using h1
  have e2 : (k == 2) = false := by simpa using h2
  have e3 : (k == 3) = false := by simpa using h3
  have e4 : (k == 4) = false := by simpa using h4
  have hf : changesB k = false := by simp [changesB, h1, h2, h3, h4]
  rw [hf]
  clear hf h1 h2 h3 h4
  go_enter Try.func50, Try.ntmps50; go_wp2; go_ret
  exact ⟨rfl, rfl⟩

set_option maxRecDepth 100000 in
set_option maxHeartbeats 1000000 in
theorem IsName_any (s : ByteArray) (w : World) (hs : s.size ≤ maxLen) :
    Calls Try.prog 51 #[.string s] w fun e w' => e = .returned (.bool (nameB s)) ∧ w' = w := by
  unfold maxLen at hs
  by_cases h1 : (1 : Int) ≤ (s.size : Int)
  · by_cases h2 : (s.size : Int) ≤ 5
    · have hlen : s.data.toList.length = s.size := by rw [Array.length_toList]; rfl
      obtain ⟨rr, HR⟩ : ∃ rr, Hid (s.data.toList.any (outB 97 122) = rr) := ⟨_, rfl⟩
      have hf : nameB s = !rr := by rw [nameB, withinB, HR.out]; simp [h1, h2]
      rw [hf]
      clear hf
      go_enter Try.func51, Try.ntmps51
      go_wp2
      go_loop [3] (fun i => ∃ k : Nat, k ≤ s.size ∧ i = .int .i64 k ∧ Hid ((s.data.toList.take k).any (outB 97 122) = false)) (fun i => s.size - (intOf i).toNat)
      case atStart => exact ⟨0, Nat.zero_le _, rfl, by simp [Hid]⟩
      case round =>
        obtain ⟨k, hk, rfl, HA⟩ := hrel
        by_cases hlt : k < s.size
        · have hx : s.data.toList[k]? = some s[k] := by rw [List.getElem?_eq_getElem (by omega)]; rfl
          have HX := hide hx
          clear hx
          by_cases hb1 : (s[k].toNat : Int) < 97
          · have HQ : Hid (outB 97 122 s[k] = true) := by simp [Hid, outB, hb1]
            go_wp2
            go_ret
            refine ⟨?_, rfl⟩
            have h3 : s.data.toList.any (outB 97 122) = true := by
              rw [List.any_eq_true]
              exact ⟨_, List.mem_of_getElem? HX.out, HQ.out⟩
            rw [← HR.out, h3]
            rfl
          · by_cases hb2 : (122 : Int) < (s[k].toNat : Int)
            · have HQ : Hid (outB 97 122 s[k] = true) := by simp [Hid, outB, hb2]
              go_wp2
              go_ret
              refine ⟨?_, rfl⟩
              have h3 : s.data.toList.any (outB 97 122) = true := by
                rw [List.any_eq_true]
                exact ⟨_, List.mem_of_getElem? HX.out, HQ.out⟩
              rw [← HR.out, h3]
              rfl
            · have HQ : Hid (outB 97 122 s[k] = false) := by simp only [Hid, outB, hb1, hb2, decide_false, Bool.or_false]
              go_wp2
              go_round
              case rel => exact ⟨k + 1, by omega, by go_num, by rw [Hid, any_take_succ _ _ _ _ HX.out, HA.out, HQ.out]; rfl⟩
              case measure => simp [intOf]; omega
        · have : k = s.size := by omega
          subst this
          go_wp2
          go_ret
          refine ⟨?_, rfl⟩
          have h3 := HA.out
          rw [List.take_of_length_le (by omega)] at h3
          rw [← HR.out, h3]
          rfl
    · have hf : nameB s = false := by simp [nameB, withinB, h2]
      rw [hf]
      clear hf
      go_enter Try.func51, Try.ntmps51
      go_wp2
      go_ret
      exact ⟨rfl, rfl⟩
  · have hf : nameB s = false := by simp [nameB, withinB, h1]
    rw [hf]
    clear hf
    go_enter Try.func51, Try.ntmps51
    go_wp2
    go_ret
    exact ⟨rfl, rfl⟩

set_option maxRecDepth 100000 in
set_option maxHeartbeats 1000000 in
theorem fault_other (k : Int) (a b t : ByteArray) (w : World) (hk : k < 1 ∨ 6 < k) :
    Calls Try.prog 45 #[.agg #[.int .i64 k, .string a, .string b, .string t]] w
      fun e w' => e = .returned (.int .i64 (checkI ⟨k, a, b, t⟩)) ∧ Below w.heap.size w w' := by
  have hf : checkI ⟨k, a, b, t⟩ = 1 := by unfold checkI; rw [if_pos hk]
  have hc : changesB k = false := by simp [changesB]; omega
  have H : Hid (∀ W : World, Calls Try.prog 50 #[.int .i64 k] W fun e w' => e = .returned (.bool false) ∧ w' = W) := by
    intro W; have := IsChange_any k W; rwa [hc] at this
  rw [hf]
  have e5 : (k == 5) = false := by simp; omega
  have e6 : (k == 6) = false := by simp; omega
  have n5 : (k != 5) = true := by simp; omega
  have n6 : (k != 6) = true := by simp; omega
  clear hf hc hk
  go_enter Try.func45, Try.ntmps45
  go_wp2_with fail
  refine ((unhide H) _).mono ?_
  rintro e w1 ⟨rfl, rfl⟩
  go_wp2
  go_ret
  exact ⟨rfl, (Below.refl _ _).alloc (Nat.le_refl _) _⟩

set_option maxRecDepth 100000 in
set_option maxHeartbeats 1000000 in
theorem fault_list (a b t : ByteArray) (w : World) :
    Calls Try.prog 45 #[.agg #[.int .i64 6, .string a, .string b, .string t]] w
      fun e w' => e = .returned (.int .i64 (checkI ⟨6, a, b, t⟩)) ∧ Below w.heap.size w w' := by
  have H : Hid (∀ W : World, Calls Try.prog 50 #[.int .i64 6] W fun e w' => e = .returned (.bool false) ∧ w' = W) := fun W => IsChange_any 6 W
  cases ha : a.toList.isEmpty <;> cases hb : b.toList.isEmpty <;> cases ht : t.toList.isEmpty
  all_goals
    have hf : checkI ⟨6, a, b, t⟩ = if a.toList.isEmpty = false ∨ b.toList.isEmpty = false ∨ t.toList.isEmpty = false then 3 else 0 := by simp [checkI, formedB, namedB, emptyB, ha, hb, ht]
    rw [hf]
    simp only [ha, hb, ht, reduceIte, reduceCtorEq, true_or, or_true, false_or, or_false]
    clear hf
    go_enter Try.func45, Try.ntmps45
    go_wp2_with fail
    refine ((unhide H) _).mono ?_
    rintro e w1 ⟨rfl, rfl⟩
    go_wp2
    go_ret
    exact ⟨rfl, (Below.refl _ _).alloc (Nat.le_refl _) _⟩

set_option maxRecDepth 100000 in
set_option maxHeartbeats 1000000 in
theorem fault_plain (k : Int) (a b t : ByteArray) (w : World) (hk : k = 1 ∨ k = 2 ∨ k = 5) (hs : a.size ≤ maxLen) :
    Calls Try.prog 45 #[.agg #[.int .i64 k, .string a, .string b, .string t]] w
      fun e w' => e = .returned (.int .i64 (checkI ⟨k, a, b, t⟩)) ∧ Below w.heap.size w w' := by
  obtain ⟨na, hna⟩ : ∃ na, nameB a = na := ⟨_, rfl⟩
  have H : Hid (∀ W : World, Calls Try.prog 50 #[.int .i64 k] W fun e w' => e = .returned (.bool (changesB k)) ∧ w' = W) := fun W => IsChange_any k W
  have HN : Hid (∀ W : World, Calls Try.prog 51 #[.string a] W fun e w' => e = .returned (.bool na) ∧ w' = W) := fun W => by have := IsName_any a W hs; rwa [hna] at this
  have e6 : (k == 6) = false := by rcases hk with rfl | rfl | rfl <;> rfl
  have e3 : (k == 3) = false := by rcases hk with rfl | rfl | rfl <;> rfl
  have e4 : (k == 4) = false := by rcases hk with rfl | rfl | rfl <;> rfl
  have hfb : formedB ⟨k, a, b, t⟩ = (b.toList.isEmpty && t.toList.isEmpty) := by rcases hk with rfl | rfl | rfl <;> simp [formedB, emptyB]
  have hnb : namedB ⟨k, a, b, t⟩ = na := by rcases hk with rfl | rfl | rfl <;> simp [namedB, hna]
  have hf : checkI ⟨k, a, b, t⟩ = if (b.toList.isEmpty && t.toList.isEmpty) = false then 3 else if na = false then 2 else 0 := by
    unfold checkI
    rw [hfb, hnb, if_neg (by show ¬ (k < 1 ∨ 6 < k); omega)]
    split
    · rfl
    split
    · rfl
    rw [if_neg (by show ¬ (k = 4 ∧ _); omega)]
  rw [hf]
  clear hf hfb hnb hna hs
  rcases hk with rfl | rfl | rfl
  all_goals
    cases hb : b.toList.isEmpty <;> cases ht : t.toList.isEmpty
    · go_enter Try.func45, Try.ntmps45
      go_wp2_with fail
      refine ((unhide H) _).mono ?_
      rintro e w1 ⟨rfl, rfl⟩
      go_wp2
      go_ret
      exact ⟨rfl, (Below.refl _ _).alloc (Nat.le_refl _) _⟩
    · go_enter Try.func45, Try.ntmps45
      go_wp2_with fail
      refine ((unhide H) _).mono ?_
      rintro e w1 ⟨rfl, rfl⟩
      go_wp2
      go_ret
      exact ⟨rfl, (Below.refl _ _).alloc (Nat.le_refl _) _⟩
    · go_enter Try.func45, Try.ntmps45
      go_wp2_with fail
      refine ((unhide H) _).mono ?_
      rintro e w1 ⟨rfl, rfl⟩
      go_wp2
      go_ret
      exact ⟨rfl, (Below.refl _ _).alloc (Nat.le_refl _) _⟩
    · cases na
      all_goals
        go_enter Try.func45, Try.ntmps45
        go_wp2_with fail
        refine ((unhide H) _).mono ?_
        rintro e w1 ⟨rfl, rfl⟩
        go_wp2_with fail
        refine ((unhide HN) _).mono ?_
        rintro e w1 ⟨rfl, rfl⟩
        go_wp2
        go_ret
        exact ⟨rfl, (Below.refl _ _).alloc (Nat.le_refl _) _⟩

set_option maxRecDepth 100000 in
set_option maxHeartbeats 1000000 in
theorem fault_rename (a b t : ByteArray) (w : World) (hs : a.size ≤ maxLen) (hs2 : b.size ≤ maxLen) :
    Calls Try.prog 45 #[.agg #[.int .i64 3, .string a, .string b, .string t]] w
      fun e w' => e = .returned (.int .i64 (checkI ⟨3, a, b, t⟩)) ∧ Below w.heap.size w w' := by
  obtain ⟨na, hna⟩ : ∃ na, nameB a = na := ⟨_, rfl⟩
  obtain ⟨nb, hnb⟩ : ∃ nb, nameB b = nb := ⟨_, rfl⟩
  have H : Hid (∀ W : World, Calls Try.prog 50 #[.int .i64 3] W fun e w' => e = .returned (.bool true) ∧ w' = W) := fun W => IsChange_any 3 W
  have HN : Hid (∀ W : World, Calls Try.prog 51 #[.string a] W fun e w' => e = .returned (.bool na) ∧ w' = W) := fun W => by have := IsName_any a W hs; rwa [hna] at this
  have HB : Hid (∀ W : World, Calls Try.prog 51 #[.string b] W fun e w' => e = .returned (.bool nb) ∧ w' = W) := fun W => by have := IsName_any b W hs2; rwa [hnb] at this
  have hf : checkI ⟨3, a, b, t⟩ = if t.toList.isEmpty = false then 3 else if na = false then 2 else if nb = false then 2 else 0 := by
    simp [checkI, formedB, namedB, emptyB, hna, hnb]
    cases t.toList.isEmpty <;> cases na <;> cases nb <;> simp
  rw [hf]
  clear hf hna hnb hs hs2
  cases ht : t.toList.isEmpty
  · go_enter Try.func45, Try.ntmps45
    go_wp2_with fail
    refine ((unhide H) _).mono ?_
    rintro e w1 ⟨rfl, rfl⟩
    go_wp2
    go_ret
    exact ⟨rfl, (Below.refl _ _).alloc (Nat.le_refl _) _⟩
  cases na
  · go_enter Try.func45, Try.ntmps45
    go_wp2_with fail
    refine ((unhide H) _).mono ?_
    rintro e w1 ⟨rfl, rfl⟩
    go_wp2_with fail
    refine ((unhide HN) _).mono ?_
    rintro e w1 ⟨rfl, rfl⟩
    go_wp2
    go_ret
    exact ⟨rfl, (Below.refl _ _).alloc (Nat.le_refl _) _⟩
  cases nb
  all_goals
    go_enter Try.func45, Try.ntmps45
    go_wp2_with fail
    refine ((unhide H) _).mono ?_
    rintro e w1 ⟨rfl, rfl⟩
    go_wp2_with fail
    refine ((unhide HN) _).mono ?_
    rintro e w1 ⟨rfl, rfl⟩
    go_wp2_with fail
    refine ((unhide HB) _).mono ?_
    rintro e w1 ⟨rfl, rfl⟩
    go_wp2
    go_ret
    exact ⟨rfl, (Below.refl _ _).alloc (Nat.le_refl _) _⟩

set_option maxRecDepth 100000 in
set_option maxHeartbeats 1000000 in
theorem fault_append (a b t : ByteArray) (w : World) (hs : a.size ≤ maxLen) (hst : t.size ≤ maxLen) :
    Calls Try.prog 45 #[.agg #[.int .i64 4, .string a, .string b, .string t]] w
      fun e w' => e = .returned (.int .i64 (checkI ⟨4, a, b, t⟩)) ∧ Below w.heap.size w w' := by
  unfold maxLen at hst
  obtain ⟨na, hna⟩ : ∃ na, nameB a = na := ⟨_, rfl⟩
  obtain ⟨nt, hnt⟩ : ∃ nt, textB t = nt := ⟨_, rfl⟩
  have H : Hid (∀ W : World, Calls Try.prog 50 #[.int .i64 4] W fun e w' => e = .returned (.bool true) ∧ w' = W) := fun W => IsChange_any 4 W
  have HN : Hid (∀ W : World, Calls Try.prog 51 #[.string a] W fun e w' => e = .returned (.bool na) ∧ w' = W) := fun W => by have := IsName_any a W hs; rwa [hna] at this
  have hf : checkI ⟨4, a, b, t⟩ = if b.toList.isEmpty = false then 3 else if na = false then 2 else if nt = false then 4 else 0 := by
    simp [checkI, formedB, namedB, emptyB, hna, hnt]
  rw [hf]
  clear hf hna hs
  cases hb : b.toList.isEmpty
  · clear hnt hst
    go_enter Try.func45, Try.ntmps45
    go_wp2_with fail
    refine ((unhide H) _).mono ?_
    rintro e w1 ⟨rfl, rfl⟩
    go_wp2
    go_ret
    exact ⟨rfl, (Below.refl _ _).alloc (Nat.le_refl _) _⟩
  cases na
  · clear hnt hst
    go_enter Try.func45, Try.ntmps45
    go_wp2_with fail
    refine ((unhide H) _).mono ?_
    rintro e w1 ⟨rfl, rfl⟩
    go_wp2_with fail
    refine ((unhide HN) _).mono ?_
    rintro e w1 ⟨rfl, rfl⟩
    go_wp2
    go_ret
    exact ⟨rfl, (Below.refl _ _).alloc (Nat.le_refl _) _⟩
  by_cases h1 : (1 : Int) ≤ (t.size : Int)
  · by_cases h2 : (t.size : Int) ≤ 8
    · have hlen : t.data.toList.length = t.size := by rw [Array.length_toList]; rfl
      obtain ⟨rr, HR⟩ : ∃ rr, Hid (t.data.toList.any (outB 32 126) = rr) := ⟨_, rfl⟩
      have hf : nt = !rr := by rw [← hnt, textB, withinB, HR.out]; simp [h1, h2]
      subst hf
      obtain ⟨vv, HV⟩ : ∃ vv : Int, Hid ((if rr = true then (4 : Int) else 0) = vv) := ⟨_, rfl⟩
      have hg : (if true = false then (3 : Int) else if true = false then 2 else if (!rr) = false then 4 else 0) = vv := by rw [← HV.out]; cases rr <;> rfl
      rw [hg]
      clear hnt hg
      go_enter Try.func45, Try.ntmps45
      go_wp2_with fail
      refine ((unhide H) _).mono ?_
      rintro e w1 ⟨rfl, rfl⟩
      go_wp2_with fail
      refine ((unhide HN) _).mono ?_
      rintro e w1 ⟨rfl, rfl⟩
      go_wp2
      go_loop [3] (fun i => ∃ k : Nat, k ≤ t.size ∧ i = .int .i64 k ∧ Hid ((t.data.toList.take k).any (outB 32 126) = false)) (fun i => t.size - (intOf i).toNat)
      case atStart => exact ⟨0, Nat.zero_le _, rfl, by simp [Hid]⟩
      case round =>
        obtain ⟨k, hk, rfl, HA⟩ := hrel
        by_cases hlt : k < t.size
        · have hx : t.data.toList[k]? = some t[k] := by rw [List.getElem?_eq_getElem (by omega)]; rfl
          have HX := hide hx
          clear hx
          by_cases hb1 : (t[k].toNat : Int) < 32
          · have HQ : Hid (outB 32 126 t[k] = true) := by simp [Hid, outB, hb1]
            go_wp2
            go_ret
            refine ⟨?_, (Below.refl _ _).alloc (Nat.le_refl _) _⟩
            have h3 : t.data.toList.any (outB 32 126) = true := by
              rw [List.any_eq_true]
              exact ⟨_, List.mem_of_getElem? HX.out, HQ.out⟩
            rw [← HV.out, ← HR.out, h3]
            rfl
          · by_cases hb2 : (126 : Int) < (t[k].toNat : Int)
            · have HQ : Hid (outB 32 126 t[k] = true) := by simp [Hid, outB, hb2]
              go_wp2
              go_ret
              refine ⟨?_, (Below.refl _ _).alloc (Nat.le_refl _) _⟩
              have h3 : t.data.toList.any (outB 32 126) = true := by
                rw [List.any_eq_true]
                exact ⟨_, List.mem_of_getElem? HX.out, HQ.out⟩
              rw [← HV.out, ← HR.out, h3]
              rfl
            · have HQ : Hid (outB 32 126 t[k] = false) := by simp only [Hid, outB, hb1, hb2, decide_false, Bool.or_false]
              go_wp2
              go_round
              case rel => exact ⟨k + 1, by omega, by go_num, by rw [Hid, any_take_succ _ _ _ _ HX.out, HA.out, HQ.out]; rfl⟩
              case measure => simp [intOf]; omega
        · have : k = t.size := by omega
          subst this
          go_wp2
          go_ret
          refine ⟨?_, (Below.refl _ _).alloc (Nat.le_refl _) _⟩
          have h3 := HA.out
          rw [List.take_of_length_le (by omega)] at h3
          rw [← HV.out, ← HR.out, h3]
          rfl
    · have hf : nt = false := by rw [← hnt]; simp [textB, withinB, h2]
      subst hf
      clear hnt
      go_enter Try.func45, Try.ntmps45
      go_wp2_with fail
      refine ((unhide H) _).mono ?_
      rintro e w1 ⟨rfl, rfl⟩
      go_wp2_with fail
      refine ((unhide HN) _).mono ?_
      rintro e w1 ⟨rfl, rfl⟩
      go_wp2
      go_ret
      exact ⟨rfl, (Below.refl _ _).alloc (Nat.le_refl _) _⟩
  · have hf : nt = false := by rw [← hnt]; simp [textB, withinB, h1]
    subst hf
    clear hnt
    go_enter Try.func45, Try.ntmps45
    go_wp2_with fail
    refine ((unhide H) _).mono ?_
    rintro e w1 ⟨rfl, rfl⟩
    go_wp2_with fail
    refine ((unhide HN) _).mono ?_
    rintro e w1 ⟨rfl, rfl⟩
    go_wp2
    go_ret
    exact ⟨rfl, (Below.refl _ _).alloc (Nat.le_refl _) _⟩

theorem CallFault_any (k : Int) (a b t : ByteArray) (w : World) (ha : a.size ≤ maxLen) (hb : b.size ≤ maxLen) (ht : t.size ≤ maxLen) :
    Calls Try.prog 45 #[.agg #[.int .i64 k, .string a, .string b, .string t]] w
      fun e w' => e = .returned (.int .i64 (checkI ⟨k, a, b, t⟩)) ∧ Below w.heap.size w w' := by
  by_cases hk : k < 1 ∨ 6 < k
  · exact fault_other k a b t w hk
  by_cases h1 : k = 1 ∨ k = 2 ∨ k = 5
  · exact fault_plain k a b t w h1 ha
  have h2 : k = 3 ∨ k = 4 ∨ k = 6 := by omega
  rcases h2 with rfl | rfl | rfl
  · exact fault_rename a b t w ha hb
  · exact fault_append a b t w ha ht
  · exact fault_list a b t w

/-- Some bool is handed back. -/
def RetB (e : Ending) : Prop := ∃ r, e = .returned (.bool r)

theorem RetB.mk (r : Bool) : RetB (.returned (.bool r)) := ⟨r, rfl⟩

set_option maxHeartbeats 400000 in
theorem greatCall_any (k : Int) (a b t : ByteArray) (w : World) :
    Calls Try.prog 31 #[.agg #[.int .i64 k, .string a, .string b, .string t]] w fun e w' => RetB e ∧ Below w.heap.size w w' := by
  go_enter Try.func31, Try.ntmps31
  go_wp2
  go_ret
  exact ⟨RetB.mk _, (Below.refl _ _).alloc (Nat.le_refl _) _⟩

/-- A record of package api. -/
structure ARec where
  client : Int
  no : Int
  call : ACall
  code : Int
  ans : ByteArray

/-- A record as a value. -/
def ARec.cells (r : ARec) : Array Value := #[.int .i64 r.client, .int .i64 r.no, .int .i64 r.call.kind, .string r.call.name, .string r.call.dst, .string r.call.text, .int .i64 r.code, .string r.ans]

theorem empty_toList {s : ByteArray} : s.toList.isEmpty = decide (s = ⟨#[]⟩) := by
  rw [ByteArray.toList_eq s]
  cases s with | mk d =>
  cases d with | mk l =>
  cases l <;> simp

def ARec.val (r : ARec) : Value := .agg #[.int .i64 r.client, .int .i64 r.no, .int .i64 r.call.kind, .string r.call.name, .string r.call.dst, .string r.call.text, .int .i64 r.code, .string r.ans]

def rcells (r : ARec) : List Value := [.int .i64 r.client, .int .i64 r.no, .int .i64 r.call.kind, .string r.call.name, .string r.call.dst, .string r.call.text, .int .i64 r.code, .string r.ans]

def recB (r q : ARec) : Bool := r.client == q.client && r.no == q.no && (r.call.kind == q.call.kind && r.call.name.toList == q.call.name.toList && r.call.dst.toList == q.call.dst.toList && r.call.text.toList == q.call.text.toList) && (r.code == q.code && r.ans.toList == q.ans.toList)

theorem recB_iff (r q : ARec) : recB r q = true ↔ r = q := by
  obtain ⟨c, n, ⟨k, a, b, t⟩, d, u⟩ := r
  obtain ⟨c', n', ⟨k', a', b', t'⟩, d', u'⟩ := q
  unfold recB
  simp only [eqB]
  simp
  constructor
  · rintro ⟨⟨⟨h1, h2⟩, ⟨⟨h3, h4⟩, h5⟩, h6⟩, h7, h8⟩
    exact ⟨h1, h2, ⟨h3, h4, h5, h6⟩, h7, h8⟩
  · rintro ⟨h1, h2, ⟨h3, h4, h5, h6⟩, h7, h8⟩
    exact ⟨⟨⟨h1, h2⟩, ⟨⟨h3, h4⟩, h5⟩, h6⟩, h7, h8⟩

theorem recB_self (r : ARec) : recB r r = true := (recB_iff r r).2 rfl

theorem equal47 (r q : ARec) (w : World) : (Op.equalIn 10000 63 r.val q.val).run Try.prog w = .ok (recB r q) w := by
  unfold ARec.val
  rw [run_equalIn_agg w 9999 63 _ _ (by kernel_rfl) (by kernel_rfl)]
  obtain ⟨f0, f1, f2, f3, hf, e0, e1, e2, e3⟩ := fields4 (l := (Try.prog.fieldsOf 63).toList) (x0 := ("Client", 3, 0)) (x1 := ("No", 3, 1)) (x2 := ("Call", 29, 2)) (x3 := ("Answer", 31, 6)) (by kernel_rfl)
  simp only [Prod.mk.injEq] at e0 e1 e2 e3
  obtain ⟨⟨a0, a1, a2⟩, ⟨b0, b1, b2⟩, ⟨c0, c1, c2⟩, ⟨d0, d1, d2⟩⟩ := And.intro e0 (And.intro e1 (And.intro e2 e3))
  have p0 : ∀ r : ARec, (part 3 #[.int .i64 r.client, .int .i64 r.no, .int .i64 r.call.kind, .string r.call.name, .string r.call.dst, .string r.call.text, .int .i64 r.code, .string r.ans] 0).run Try.prog w = .ok (.int .i64 r.client) w := fun c => by kernel_rfl
  have p1 : ∀ r : ARec, (part 3 #[.int .i64 r.client, .int .i64 r.no, .int .i64 r.call.kind, .string r.call.name, .string r.call.dst, .string r.call.text, .int .i64 r.code, .string r.ans] 1).run Try.prog w = .ok (.int .i64 r.no) w := fun c => by kernel_rfl
  have p2 : ∀ r : ARec, (part 29 #[.int .i64 r.client, .int .i64 r.no, .int .i64 r.call.kind, .string r.call.name, .string r.call.dst, .string r.call.text, .int .i64 r.code, .string r.ans] 2).run Try.prog w = .ok (.agg (callCells r.call)) w := fun c => by kernel_rfl
  have p3 : ∀ r : ARec, (part 31 #[.int .i64 r.client, .int .i64 r.no, .int .i64 r.call.kind, .string r.call.name, .string r.call.dst, .string r.call.text, .int .i64 r.code, .string r.ans] 6).run Try.prog w = .ok (.agg (ansCells r.code r.ans)) w := fun c => by kernel_rfl
  have q0 := run_equalIn_int w 9998 3 .i64 .i64 r.client q.client Try.underlying3
  have q1 := run_equalIn_int w 9998 3 .i64 .i64 r.no q.no Try.underlying3
  have q2 := equal32 9997 r.call q.call w
  have q3 := equal34 9997 r.code q.code r.ans q.ans w
  rw [hf]
  unfold recB
  generalize hA : (r.call.kind == q.call.kind && r.call.name.toList == q.call.name.toList && r.call.dst.toList == q.call.dst.toList && r.call.text.toList == q.call.text.toList) = A at q2
  generalize hB : (r.code == q.code && r.ans.toList == q.ans.toList) = B at q3
  simp only [Op.eqFields, a0, a1, a2, b0, b1, b2, c0, c1, c2, d0, d1, d2, p0, p1, p2, p3, q0, q1, q2, q3, Sem.run_bind, Result.andThen_ok, Sem.run_ite, Sem.run_pure]
  cases (r.client == q.client) <;> cases (r.no == q.no) <;> cases A <;> cases B <;> simp [q1, q2, q3, p1, p2, p3]

theorem eql47 (r q : ARec) (w : World) : (binOp .eql 63 r.val q.val).run Try.prog w = .ok (.bool (recB r q)) w := by
  have h := equal47 r q w
  unfold ARec.val at h ⊢
  rw [run_eql_struct, h]
  rfl

theorem neq47 (r q : ARec) (w : World) : (binOp .neq 63 r.val q.val).run Try.prog w = .ok (.bool (!(recB r q))) w := by
  have h := equal47 r q w
  unfold ARec.val at h ⊢
  rw [run_neq_struct, h]
  rfl

/-- A record lies there. -/
structure RecAt (w : World) (b o : Nat) (r : ARec) : Prop where
  x0 : w.cell? ⟨b, o, none⟩ = some (.int .i64 r.client)
  x1 : w.cell? ⟨b, o + 1, none⟩ = some (.int .i64 r.no)
  x2 : w.cell? ⟨b, o + 2, none⟩ = some (.int .i64 r.call.kind)
  x3 : w.cell? ⟨b, o + 3, none⟩ = some (.string r.call.name)
  x4 : w.cell? ⟨b, o + 4, none⟩ = some (.string r.call.dst)
  x5 : w.cell? ⟨b, o + 5, none⟩ = some (.string r.call.text)
  x6 : w.cell? ⟨b, o + 6, none⟩ = some (.int .i64 r.code)
  x7 : w.cell? ⟨b, o + 7, none⟩ = some (.string r.ans)

theorem RecAt.lt {w : World} {b o : Nat} {r : ARec} (h : RecAt w b o r) : b < w.heap.size := World.block_lt_of_cell? w _ h.x0

theorem RecAt.same {w W : World} {b o : Nat} {r : ARec} (h : RecAt w b o r) (hb : W.heap[b]? = w.heap[b]?) : RecAt W b o r := by
  have hc : ∀ j, W.cell? ⟨b, j, none⟩ = w.cell? ⟨b, j, none⟩ := fun j => by simp only [World.cell?, hb]
  exact ⟨(hc _).trans h.x0, (hc _).trans h.x1, (hc _).trans h.x2, (hc _).trans h.x3, (hc _).trans h.x4, (hc _).trans h.x5, (hc _).trans h.x6, (hc _).trans h.x7⟩

theorem RecAt.below {w W : World} {m b o : Nat} {r : ARec} (h : RecAt w b o r) (hb : Below m w W) (hm : b < m) : RecAt W b o r := h.same (hb.block b hm)

/-- Records one behind the other lie there. -/
def RecsAt (w : World) (a : Option Addr) (n : Nat) (rs : List ARec) : Prop :=
  rs.length = n ∧ (0 < n → ∃ b off, a = some ⟨b, off, none⟩ ∧ ∀ (j : Nat) (r : ARec), rs[j]? = some r → RecAt w b (off + j * 8) r)

theorem RecsAt.same {w W : World} {a : Option Addr} {n : Nat} {rs : List ARec} (h : RecsAt w a n rs) (hs : ∀ A, a = some A → W.heap[A.block]? = w.heap[A.block]?) : RecsAt W a n rs := by
  refine ⟨h.1, fun h0 => ?_⟩
  obtain ⟨b, off, rfl, hc⟩ := h.2 h0
  exact ⟨b, off, rfl, fun j r hr => (hc j r hr).same (hs _ rfl)⟩

theorem RecsAt.below {w W : World} {a : Option Addr} {n : Nat} {rs : List ARec} (h : RecsAt w a n rs) (hb : Below w.heap.size w W) : RecsAt W a n rs := by
  refine ⟨h.1, fun h0 => ?_⟩
  obtain ⟨b, off, rfl, hc⟩ := h.2 h0
  exact ⟨b, off, rfl, fun j r hr => (hc j r hr).below hb (hc j r hr).lt⟩

theorem flat8 : ∀ (rs : List ARec) (j i : Nat) (r : ARec), rs[j]? = some r → i < 8 → (rs.flatMap rcells)[j * 8 + i]? = (rcells r)[i]?
  | [], j, i, r, h, _ => by simp at h
  | q :: rs, 0, i, r, h, hi => by
    simp at h
    subst h
    rw [List.flatMap_cons, Nat.zero_mul, Nat.zero_add, List.getElem?_append_left (by simp [rcells]; omega)]
  | q :: rs, j + 1, i, r, h, hi => by
    have h8 : (rcells q).length = 8 := rfl
    rw [List.flatMap_cons, List.getElem?_append_right (by rw [h8]; omega), h8, show (j + 1) * 8 + i - 8 = j * 8 + i by omega]
    exact flat8 rs j i r (by simpa using h) hi

theorem recs_row {w : World} {base : Nat} {a : Option Addr} {n c : Nat} {rs : List ARec} (h : w.ownsRow base 63 8 (.slice a n c) n (rs.flatMap rcells)) (hn : rs.length = n) : RecsAt w a n rs := by
  refine ⟨hn, fun h0 => ?_⟩
  obtain ⟨g, cap, e, _⟩ := World.ownsRow.form h h0
  cases e
  refine ⟨g, 0, rfl, fun j r hr => ?_⟩
  have hc : ∀ i, i < 8 → w.cell? ⟨g, j * 8 + i, none⟩ = (rcells r)[i]? := fun i hi => by
    have h1 := flat8 rs j i r hr hi
    obtain ⟨v, hv⟩ : ∃ v, (rcells r)[i]? = some v := ⟨_, List.getElem?_eq_getElem (by simp [rcells]; omega)⟩
    rw [hv] at h1 ⊢
    have := World.ownsRow.cells (v := .slice (some ⟨g, 0, none⟩) n c) h (g := g) rfl (j * 8 + i) v h1
    rw [addr_add, Nat.zero_add] at this
    exact this
  rw [Nat.zero_add]
  exact ⟨hc 0 (by omega), hc 1 (by omega), hc 2 (by omega), hc 3 (by omega), hc 4 (by omega), hc 5 (by omega), hc 6 (by omega), hc 7 (by omega)⟩

set_option maxRecDepth 100000 in
set_option maxHeartbeats 4000000 in
theorem SameRecords_eq (a b : Option Addr) (n ca cb : Nat) (rs : List ARec) (w : World) (ha : RecsAt w a n rs) (hb : RecsAt w b n rs) (hn : n ≤ 1000000) :
    Calls Try.prog 27 #[.slice a n ca, .slice b n cb] w fun e w' => e = .returned (.bool true) ∧ Below w.heap.size w w' := by
  have HA := hide ha
  have HB := hide hb
  clear ha hb
  go_enter Try.func27, Try.ntmps27
  go_wp2
  go_loopw [5] (fun i wr => ∃ k : Nat, k ≤ n ∧ i = .int .i64 k ∧ Hid (Below w.heap.size w wr)) (fun i _ => n - (intOf i).toNat)
  case atStart => exact ⟨0, Nat.zero_le _, rfl, Below.refl _ _⟩
  case round =>
    obtain ⟨k, hk, rfl, HW⟩ := hrel
    by_cases hlt : (k : Int) < (n : Int)
    · obtain ⟨r, hr⟩ : ∃ r, rs[k]? = some r := ⟨_, List.getElem?_eq_getElem (by rw [(unhide HA).1]; omega)⟩
      obtain ⟨b1, o1, rfl, hx⟩ := ((unhide HA).below (unhide HW)).2 (by omega)
      obtain ⟨b2, o2, rfl, hy⟩ := ((unhide HB).below (unhide HW)).2 (by omega)
      obtain ⟨x0, x1, x2, x3, x4, x5, x6, x7⟩ := hx k r hr
      obtain ⟨y0, y1, y2, y3, y4, y5, y6, y7⟩ := hy k r hr
      have e47 := fun W => neq47 r r W
      rw [recB_self] at e47
      clear hx hy hr
      obtain ⟨rc, rn, ⟨rk, ra, rb, rt⟩, rd, ru⟩ := r
      dsimp only [ARec.val, Bool.not_true] at *
      go_wp2_with fail
      go_quiet (fail)
      go_wp2
      go_roundw
      case rel => exact ⟨k + 1, by omega, by go_num, ⟨(unhide HW).os, (unhide HW).tape, (unhide HW).output, (unhide HW).size, (unhide HW).block⟩⟩
      case measure => simp [intOf]; omega
    · go_wp2
      go_ret
      exact ⟨rfl, unhide HW⟩

end Go.Proofs.Ytfpommjolbipmab
