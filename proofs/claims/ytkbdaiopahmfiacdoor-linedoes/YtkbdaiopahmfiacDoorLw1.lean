/- Texts joined, what is needed of them: Plain Wa Wb Rep Rep2 Wh Plain2 Wk Wl Ca Ci La Lf Yk Lk Cj Sa Ra Rb Rc Ck Sd Sf Rg0 Pb Pc Ka Kb Lg Lh Kc Li Lj Ll Lb. -/
import Derived.BigQuiet
import Derived.Deep.AppendLies
import Derived.Deep.AppendSrc
import Derived.Deep.LoopGhost
import Derived.Deep.MidRow
import Derived.Deep.QuietTactic
import Derived.Deep.RegionHeld
import Derived.Deep.RegionHeld3
import Derived.Deep.RegionLaw
import Derived.Deep.Slices
import Derived.Laws.OwnMore
import Derived.Laws.StructEq
import Derived.Lib.AppendStr
import Derived.Lib.BufferRead
import Derived.Lib.ConvBytes
import Derived.Lib.IndexBytes
import Derived.Lib.IndexLaws
import Derived.Lib.ItoaNum
import Derived.Lib.SliceRun
import Derived.Lib.Split
import Derived.Shelf.Strings.BuilderK
import Derived.Sort.Walk0
import Derived.Test.YtkbdaiopahmfiacDoorRows
import Derived.Test.YtkbdaiopahmfiacDoorShelf
import Derived.WalkKit
import Derived.WalkLawsBesides
import Derived.WalkSpells
namespace Go.Proofs.YtkbdaiopahmfiacDoor
open Go.RowKit
set_option linter.unusedSimpArgs false
set_option linter.unusedVariables false

theorem hide {p : Prop} (h : p) : Hid p := h
theorem unhide {p : Prop} (h : Hid p) : p := h

theorem bcell {W w1 : World} (hb : Below W.heap.size W w1) : (∀ b o, b < W.heap.size → w1.cell? ⟨b, o, none⟩ = W.cell? ⟨b, o, none⟩) ∧ (∀ b o, b < W.heap.size → w1.frozen? ⟨b, o, none⟩ = W.frozen? ⟨b, o, none⟩) :=
  ⟨fun b o h => hb.cell (p := ⟨b, o, none⟩) h, fun b o h => hb.frozen (p := ⟨b, o, none⟩) h⟩

theorem al_old (w : World) (o : Obj) (b j : Nat) (h : b < w.heap.size) : (w.alloc o).cell? ⟨b, j, none⟩ = w.cell? ⟨b, j, none⟩ := World.cell?_of_block (w := w) (a := ⟨b, j, none⟩) (Below.heap_alloc w o b h)
theorem al_new (w : World) (C : Array Value) (t : TypeId) (fr : Nat × Nat) (b j : Nat) (h : b = w.heap.size) : (w.alloc (.cells C t fr)).cell? ⟨b, j, none⟩ = C[j]? := by subst h; exact World.cell?_alloc_mark w C t fr j
theorem al_size (w : World) (o : Obj) : (w.alloc o).heap.size = w.heap.size + 1 := by simp

/-- A call of package api. -/
structure ACall where
  kind : Int
  name : ByteArray
  dst : ByteArray
  text : ByteArray

/-- A file. -/
structure AFile where
  name : ByteArray
  text : ByteArray

def emptyB (s : ByteArray) : Bool := s.toList.isEmpty

/-- Outside the bounds. -/
def outB (lo hi : Int) (b : UInt8) : Bool := decide ((b.toNat : Int) < lo) || decide (hi < (b.toNat : Int))

def withinB (s : ByteArray) (most lo hi : Int) : Bool :=
  decide (1 ≤ (s.size : Int)) && decide ((s.size : Int) ≤ most) && !(s.data.toList.any (outB lo hi))

def nameB (s : ByteArray) : Bool := withinB s 5 97 122
def textB (s : ByteArray) : Bool := withinB s 8 32 126
def changesB (k : Int) : Bool := k == 1 || k == 2 || k == 3 || k == 4
def formedB (c : ACall) : Bool := (emptyB c.name || c.kind != 6) && (emptyB c.dst || c.kind == 3) && (emptyB c.text || c.kind == 4)
def namedB (c : ACall) : Bool := (c.kind == 6 || nameB c.name) && (c.kind != 3 || nameB c.dst)
def checkI (c : ACall) : Int :=
  if c.kind < 1 ∨ 6 < c.kind then 1 else if formedB c = false then 3 else if namedB c = false then 2 else if c.kind = 4 ∧ textB c.text = false then 4 else 0

end Go.Proofs.YtkbdaiopahmfiacDoor

namespace Go.Proofs.YtkbdaiopahmfiacDoor
open Go.RowKit
set_option linter.unusedSimpArgs false
set_option linter.unusedVariables false

set_option maxHeartbeats 400000 in
theorem pred36 (lo hi b : Int) (B1 B2 : Nat) (w : World) (h1 : w.cell? ⟨B1, 0, none⟩ = some (.int .u8 lo)) (h2 : w.cell? ⟨B2, 0, none⟩ = some (.int .u8 hi)) :
    Calls Tryd.prog 38 #[.int .u8 b, .pointer (some ⟨B1, 0, none⟩), .pointer (some ⟨B2, 0, none⟩)] w fun e w' => e = .returned (.bool (decide (b < lo) || decide (hi < b))) ∧ w' = w := by
  by_cases hb : b < lo
  · go_enter Tryd.func38, Tryd.ntmps38
    go_wp2
    go_ret
    exact ⟨by simp [hb], rfl⟩
  · by_cases hc : hi < b
    · go_enter Tryd.func38, Tryd.ntmps38
      go_wp2
      go_ret
      exact ⟨by simp [hc], rfl⟩
    · go_enter Tryd.func38, Tryd.ntmps38
      go_wp2
      go_ret
      exact ⟨by simp [hb, hc], rfl⟩

theorem any_take_succ {α : Type} (l : List α) (p : α → Bool) (k : Nat) (x : α) (hx : l[k]? = some x) : (l.take (k + 1)).any p = ((l.take k).any p || p x) := by
  rw [List.take_add_one, hx]
  simp

set_option maxHeartbeats 400000 in
theorem idx45 (lo hi : Int) (B1 B2 b c : Nat) (s : ByteArray) (w : World) (hs : s.size ≤ 1000) (h1 : w.cell? ⟨B1, 0, none⟩ = some (.int .u8 lo)) (h2 : w.cell? ⟨B2, 0, none⟩ = some (.int .u8 hi))
    (hc : ∀ (j : Nat) (x : UInt8), s.data.toList[j]? = some x → w.cell? ⟨b, j, none⟩ = some (.int .u8 x.toNat)) :
    Calls Tryd.prog 44 #[.slice (some ⟨b, 0, none⟩) s.size c, .func (.func 38) #[] #[.pointer (some ⟨B1, 0, none⟩), .pointer (some ⟨B2, 0, none⟩)]] w
      fun e w' => (∃ r : Int, e = .returned (.int .i64 r) ∧ decide (0 ≤ r) = s.data.toList.any (outB lo hi)) ∧ w' = w := by
  have hlen : s.data.toList.length = s.size := by rw [Array.length_toList]; rfl
  obtain ⟨rr, HR⟩ : ∃ rr, Hid (s.data.toList.any (outB lo hi) = rr) := ⟨_, rfl⟩
  rw [HR.out]
  go_enter Tryd.func44, Tryd.ntmps44
  go_wp2
  go_loop [5, 8] (fun _ i => ∃ k : Nat, k ≤ s.size ∧ i = .int .i64 k ∧ (s.data.toList.take k).any (outB lo hi) = false) (fun _ i => s.size - (intOf i).toNat)
  case atStart => exact ⟨0, Nat.zero_le _, rfl, by simp⟩
  case round =>
    obtain ⟨k, hk, rfl, ha⟩ := hrel
    have HA : Hid ((s.data.toList.take k).any (outB lo hi) = false) := ha
    clear ha
    by_cases hlt : k < s.size
    · obtain ⟨x, hx⟩ : ∃ x, s.data.toList[k]? = some x := ⟨_, List.getElem?_eq_getElem (by omega)⟩
      have hcell := hc k x hx
      have HX : Hid (s.data.toList[k]? = some x) := hx
      clear hx hc
      cases hq : (decide ((x.toNat : Int) < lo) || decide (hi < (x.toNat : Int)))
      · have HQ : Hid ((decide ((x.toNat : Int) < lo) || decide (hi < (x.toNat : Int))) = false) := hq
        have hp := pred36 lo hi x.toNat B1 B2 w h1 h2
        rw [hq] at hp
        clear hq
        go_wp2_with (go_at_call 38; refine hp.mono ?_; rintro e w' ⟨rfl, rfl⟩)
        go_round
        case rel => exact ⟨k + 1, by omega, by go_num, by rw [any_take_succ _ _ _ _ HX.out, HA.out]; exact HQ.out⟩
        case measure => simp [intOf]; omega
      · have HQ : Hid ((decide ((x.toNat : Int) < lo) || decide (hi < (x.toNat : Int))) = true) := hq
        have hp := pred36 lo hi x.toNat B1 B2 w h1 h2
        rw [hq] at hp
        clear hq
        go_wp2_with (go_at_call 38; refine hp.mono ?_; rintro e w' ⟨rfl, rfl⟩)
        go_ret
        refine ⟨⟨_, rfl, ?_⟩, rfl⟩
        have h3 : s.data.toList.any (outB lo hi) = true := by
          rw [List.any_eq_true]
          exact ⟨x, List.mem_of_getElem? HX.out, HQ.out⟩
        rw [← HR.out, h3]; simp
    · have : k = s.size := by omega
      subst this
      clear hc
      go_wp2
      go_ret
      refine ⟨⟨_, rfl, ?_⟩, rfl⟩
      have h3 := HA.out
      rw [List.take_of_length_le (by omega)] at h3
      rw [← HR.out, h3]; simp


set_option maxHeartbeats 400000 in
theorem cont35 (lo hi : Int) (B1 B2 b c : Nat) (s : ByteArray) (w : World) (hs : s.size ≤ 1000) (h1 : w.cell? ⟨B1, 0, none⟩ = some (.int .u8 lo)) (h2 : w.cell? ⟨B2, 0, none⟩ = some (.int .u8 hi))
    (hc : ∀ (j : Nat) (x : UInt8), s.data.toList[j]? = some x → w.cell? ⟨b, j, none⟩ = some (.int .u8 x.toNat)) :
    Calls Tryd.prog 37 #[.slice (some ⟨b, 0, none⟩) s.size c, .func (.func 38) #[] #[.pointer (some ⟨B1, 0, none⟩), .pointer (some ⟨B2, 0, none⟩)]] w
      fun e w' => e = .returned (.bool (s.data.toList.any (outB lo hi))) ∧ w' = w := by
  have hp := idx45 lo hi B1 B2 b c s w hs h1 h2 hc
  obtain ⟨rr, HR⟩ : ∃ rr, Hid (s.data.toList.any (outB lo hi) = rr) := ⟨_, rfl⟩
  rw [HR.out] at hp ⊢
  clear hc
  go_enter Tryd.func37, Tryd.ntmps37
  go_wp2_with (go_at_call 44; refine hp.mono ?_; rintro e w' ⟨⟨r, rfl, hr⟩, rfl⟩)
  all_goals (go_ret; exact ⟨by simp_all, rfl⟩)


def convCap (w : World) (s : ByteArray) : Nat := grownCap w s.size 0 5
def convObj (w : World) (s : ByteArray) : Obj := .cells (bytesRow s (convCap w s)) 5 ((bytesRow s (convCap w s)).size, (bytesRow s (convCap w s)).size + 1)
theorem conv_run (s : ByteArray) (w : World) : (convert 9 38 (.string s)).run Tryd.prog w = .ok (.slice (some ⟨w.heap.size, 0, none⟩) s.size (convCap w s)) ((w.alloc (convObj w s)).drew) :=
  run_bytes_of_string (P := Tryd.prog) w 9 38 5 s Tryd.underlying9 Tryd.underlying38 Tryd.underlying5
theorem conv_cell (s : ByteArray) (w : World) (j : Nat) (x : UInt8) (hx : s.data.toList[j]? = some x) : (w.alloc (convObj w s)).cell? ⟨w.heap.size, j, none⟩ = some (.int .u8 x.toNat) := by
  unfold convObj
  rw [World.cell?_alloc_mark]
  unfold bytesRow
  have hj : j < s.data.size := by
    have := (List.getElem?_eq_some_iff.1 hx).1
    simpa using this
  rw [Array.getElem?_append_left (by simpa using hj)]
  simp [Array.getElem?_eq_getElem hj] at hx ⊢
  rw [hx]

/-- The world in which within calls slices.ContainsFunc. -/
theorem within_call (s : ByteArray) (lo hi : Int) (w : World) (hs : s.size ≤ 1000) (rr : Bool) (HR : Hid (s.data.toList.any (outB lo hi) = rr)) (W : World) (hW : W = (w.alloc (Obj.cells #[Value.int IntKind.u8 lo] 5)).alloc (Obj.cells #[Value.int IntKind.u8 hi] 5)) (c : Nat) :
    Calls Tryd.prog 37 #[.slice (some ⟨w.heap.size + 1 + 1, 0, none⟩) s.size c, .func (.func 38) #[] #[.pointer (some ⟨w.heap.size, 0, none⟩), .pointer (some ⟨w.heap.size + 1, 0, none⟩)]] (W.alloc (convObj W s)).drew
      fun e w' => e = .returned (.bool rr) ∧ w' = (W.alloc (convObj W s)).drew := by
  have hW2 : W.heap.size = w.heap.size + 1 + 1 := by rw [hW, al_size, al_size]
  rw [← HR.out]
  refine cont35 lo hi w.heap.size (w.heap.size + 1) (w.heap.size + 1 + 1) c s _ hs ?_ ?_ ?_
  · show (W.alloc (convObj W s)).cell? _ = _
    rw [al_old _ _ _ _ (by omega), hW, al_old _ _ _ _ (by rw [al_size]; omega), al_new _ _ _ _ _ _ rfl]
    rfl
  · show (W.alloc (convObj W s)).cell? _ = _
    rw [al_old _ _ _ _ (by omega), hW, al_new _ _ _ _ _ _ (by rw [al_size])]
    rfl
  · intro j x hx
    have := conv_cell s W j x hx
    rw [hW2] at this
    exact this

set_option maxHeartbeats 400000 in
theorem within_any (s : ByteArray) (most lo hi : Int) (w : World) (hm : most ≤ 1000) (hs : s.size ≤ maxLen) :
    Calls Tryd.prog 28 #[.string s, .int .i64 most, .int .u8 lo, .int .u8 hi] w
      fun e w' => e = .returned (.bool (withinB s most lo hi)) ∧ Below w.heap.size w w' := by
  unfold maxLen at hs
  by_cases h1 : (1 : Int) ≤ (s.size : Int)
  · by_cases h2 : (s.size : Int) ≤ most
    · have kc := conv_run s
      obtain ⟨rr, HR⟩ : ∃ rr, Hid (s.data.toList.any (outB lo hi) = rr) := ⟨_, rfl⟩
      have hf : withinB s most lo hi = !rr := by
        rw [withinB, HR.out]; simp [h1, h2]
      rw [hf]
      have hcon := within_call s lo hi w (by omega) rr HR
      have h3 : ¬ ((s.size : Int) < 1) := by omega
      have h4 : ¬ (most < (s.size : Int)) := by omega
      clear h1 h2 hf
      go_enter Tryd.func28, Tryd.ntmps28
      go_wp2_with (go_at_call 37; refine (hcon _ rfl _).mono ?_; rintro e w' ⟨rfl, rfl⟩)
      go_ret
      exact ⟨rfl, ((((Below.refl _ _).alloc (Nat.le_refl _) _).alloc (by simp) _).alloc (by simp; omega) _).drew⟩
    · have hf : withinB s most lo hi = false := by simp [withinB, h2]
      rw [hf]
      go_enter Tryd.func28, Tryd.ntmps28
      go_wp2
      go_ret
      exact ⟨rfl, ((Below.refl _ _).alloc (Nat.le_refl _) _).alloc (by simp) _⟩
  · have hf : withinB s most lo hi = false := by simp [withinB, h1]
    rw [hf]
    go_enter Tryd.func28, Tryd.ntmps28
    go_wp2
    go_ret
    exact ⟨rfl, ((Below.refl _ _).alloc (Nat.le_refl _) _).alloc (by simp) _⟩

set_option maxHeartbeats 400000 in
theorem Name_any (s : ByteArray) (w : World) (hs : s.size ≤ maxLen) :
    Calls Tryd.prog 36 #[.string s] w fun e w' => e = .returned (.bool (nameB s)) ∧ Below w.heap.size w w' := by
  unfold nameB
  go_enter Tryd.func36, Tryd.ntmps36
  go_wp2_with (go_at_call 28; refine (within_any s 5 97 122 _ (by omega) hs).mono ?_; rintro e w' ⟨rfl, hb⟩)
  go_ret
  exact ⟨rfl, hb⟩

end Go.Proofs.YtkbdaiopahmfiacDoor

namespace Go.Proofs.YtkbdaiopahmfiacDoor
open Go.RowKit
set_option linter.unusedSimpArgs false
set_option linter.unusedVariables false

set_option maxHeartbeats 1000000 in
theorem formed_any (k : Int) (a b t : ByteArray) (w : World) :
    Calls Tryd.prog 26 #[.agg #[.int .i64 k, .string a, .string b, .string t]] w
      fun e w' => e = .returned (.bool (formedB ⟨k, a, b, t⟩)) ∧ Below w.heap.size w w' := by
  have hB : ∀ o : Obj, Below w.heap.size w (w.alloc o) := fun o => (Below.refl _ _).alloc (Nat.le_refl _) o
  have hf : formedB ⟨k, a, b, t⟩ = ((a.toList.isEmpty || k != 6) && (b.toList.isEmpty || k == 3) && (t.toList.isEmpty || k == 4)) := rfl
  rw [hf]
  clear hf
  cases h1 : a.toList.isEmpty <;> cases h2 : (k != 6) <;> cases h3 : b.toList.isEmpty <;> cases h4 : (k == 3) <;> cases h5 : t.toList.isEmpty <;> cases h6 : (k == 4)
  all_goals try (exfalso; simp at h2 h4 h6; omega)
  all_goals
    go_enter Tryd.func26, Tryd.ntmps26
    go_wp2
    go_ret
    exact ⟨by simp, hB _⟩


set_option maxHeartbeats 1000000 in
theorem named_any (k : Int) (a b t : ByteArray) (w : World) (ha : a.size ≤ maxLen) (hb : b.size ≤ maxLen) :
    Calls Tryd.prog 27 #[.agg #[.int .i64 k, .string a, .string b, .string t]] w
      fun e w' => e = .returned (.bool (namedB ⟨k, a, b, t⟩)) ∧ Below w.heap.size w w' := by
  have hf : namedB ⟨k, a, b, t⟩ = ((k == 6 || nameB a) && (k != 3 || nameB b)) := rfl
  rw [hf]
  clear hf
  have hA : ∀ W : World, Calls Tryd.prog 36 #[.string a] W fun e w' => e = .returned (.bool (nameB a)) ∧ Below W.heap.size W w' := fun W => Name_any a W ha
  have hD : ∀ W : World, Calls Tryd.prog 36 #[.string b] W fun e w' => e = .returned (.bool (nameB b)) ∧ Below W.heap.size W w' := fun W => Name_any b W hb
  generalize nameB a = na at hA ⊢
  generalize nameB b = nb at hD ⊢
  have HA := hide hA
  have HD := hide hD
  clear hA hD
  cases h2 : (k == 6) <;> cases h4 : (k != 3)
  · -- k = 3
    have h3 : k = 3 := by simpa using h4
    subst h3
    cases na
    · go_enter Tryd.func27, Tryd.ntmps27
      go_wp2_with fail
      refine ((unhide HA) _).mono ?_
      rintro e w1 ⟨rfl, b1⟩
      go_wp2
      go_ret
      exact ⟨by simp, ((Below.refl _ _).alloc (Nat.le_refl _) _).trans (b1.mono (by simp))⟩
    · go_enter Tryd.func27, Tryd.ntmps27
      go_wp2_with fail
      refine ((unhide HA) _).mono ?_
      rintro e w1 ⟨rfl, b1⟩
      have hc1 := b1.cell (p := ⟨w.heap.size, 0, none⟩) (by simp)
      have hc2 := b1.cell (p := ⟨w.heap.size, 2, none⟩) (by simp)
      have hz : w.heap.size < w1.heap.size := by have := b1.size; simp at this; omega
      simp at hc1 hc2
      go_wp2_with fail
      refine ((unhide HD) _).mono ?_
      rintro e w2 ⟨rfl, b2⟩
      go_wp2
      go_ret
      exact ⟨by simp, (((Below.refl _ _).alloc (Nat.le_refl _) _).trans (b1.mono (by simp))).trans (b2.mono (by omega))⟩
  · cases na
    · go_enter Tryd.func27, Tryd.ntmps27
      go_wp2_with fail
      refine ((unhide HA) _).mono ?_
      rintro e w1 ⟨rfl, b1⟩
      go_wp2
      go_ret
      exact ⟨by simp, ((Below.refl _ _).alloc (Nat.le_refl _) _).trans (b1.mono (by simp))⟩
    · go_enter Tryd.func27, Tryd.ntmps27
      go_wp2_with fail
      refine ((unhide HA) _).mono ?_
      rintro e w1 ⟨rfl, b1⟩
      have hc1 := b1.cell (p := ⟨w.heap.size, 0, none⟩) (by simp)
      have hz : w.heap.size < w1.heap.size := by have := b1.size; simp at this; omega
      simp at hc1
      go_wp2
      go_ret
      exact ⟨by simp, ((Below.refl _ _).alloc (Nat.le_refl _) _).trans (b1.mono (by simp))⟩
  · exfalso; simp at h2 h4; omega
  · go_enter Tryd.func27, Tryd.ntmps27
    go_wp2
    go_ret
    exact ⟨by simp, (Below.refl _ _).alloc (Nat.le_refl _) _⟩

set_option maxHeartbeats 1000000 in
theorem Check_any (k : Int) (a b t : ByteArray) (w : World) (ha : a.size ≤ maxLen) (hb : b.size ≤ maxLen) (ht : t.size ≤ maxLen) :
    Calls Tryd.prog 14 #[.agg #[.int .i64 k, .string a, .string b, .string t]] w
      fun e w' => e = .returned (.int .i64 (checkI ⟨k, a, b, t⟩)) ∧ Below w.heap.size w w' := by
  have hf : checkI ⟨k, a, b, t⟩ = if k < 1 ∨ 6 < k then 1 else if formedB ⟨k, a, b, t⟩ = false then 3 else if namedB ⟨k, a, b, t⟩ = false then 2 else if k = 4 ∧ textB t = false then 4 else 0 := rfl
  rw [hf]
  clear hf
  have hA : ∀ W : World, Calls Tryd.prog 26 #[.agg #[.int .i64 k, .string a, .string b, .string t]] W fun e w' => e = .returned (.bool (formedB ⟨k, a, b, t⟩)) ∧ Below W.heap.size W w' := fun W => formed_any k a b t W
  have hD : ∀ W : World, Calls Tryd.prog 27 #[.agg #[.int .i64 k, .string a, .string b, .string t]] W fun e w' => e = .returned (.bool (namedB ⟨k, a, b, t⟩)) ∧ Below W.heap.size W w' := fun W => named_any k a b t W ha hb
  have hE : ∀ W : World, Calls Tryd.prog 28 #[.string t, .int .i64 8, .int .u8 32, .int .u8 126] W fun e w' => e = .returned (.bool (textB t)) ∧ Below W.heap.size W w' := fun W => within_any t 8 32 126 W (by omega) ht
  generalize formedB ⟨k, a, b, t⟩ = na at hA ⊢
  generalize namedB ⟨k, a, b, t⟩ = nb at hD ⊢
  generalize textB t = nt at hE ⊢
  have HA := hide hA
  have HD := hide hD
  have HE := hide hE
  clear hA hD hE
  by_cases h1 : k < 1
  · rw [if_pos (Or.inl h1)]
    go_enter Tryd.func14, Tryd.ntmps14
    go_wp2
    go_ret
    exact ⟨rfl, (Below.refl _ _).alloc (Nat.le_refl _) _⟩
  by_cases h2 : 6 < k
  · rw [if_pos (Or.inr h2)]
    go_enter Tryd.func14, Tryd.ntmps14
    go_wp2
    go_ret
    exact ⟨rfl, (Below.refl _ _).alloc (Nat.le_refl _) _⟩
  rw [if_neg (by omega)]
  cases na
  · rw [if_pos rfl]
    go_enter Tryd.func14, Tryd.ntmps14
    go_wp2_with fail
    refine ((unhide HA) _).mono ?_
    rintro e w1 ⟨rfl, b1⟩
    go_wp2
    go_ret
    exact ⟨rfl, ((Below.refl _ _).alloc (Nat.le_refl _) _).trans (b1.mono (by simp))⟩
  rw [if_neg (by simp)]
  cases nb
  · rw [if_pos rfl]
    go_enter Tryd.func14, Tryd.ntmps14
    go_wp2_with fail
    refine ((unhide HA) _).mono ?_
    rintro e w1 ⟨rfl, b1⟩
    obtain ⟨hc1, hf1⟩ := bcell b1
    have hz : w.heap.size < w1.heap.size := by have := b1.size; simp at this; omega
    go_wp2_with fail
    refine ((unhide HD) _).mono ?_
    rintro e w2 ⟨rfl, b2⟩
    go_wp2
    go_ret
    exact ⟨rfl, (((Below.refl _ _).alloc (Nat.le_refl _) _).trans (b1.mono (by simp))).trans (b2.mono (by omega))⟩
  rw [if_neg (by simp)]
  cases h4 : (k == 4)
  · have h4' : ¬ k = 4 := by simpa using h4
    rw [if_neg (by simp [h4'])]
    clear h4'
    go_enter Tryd.func14, Tryd.ntmps14
    go_wp2_with fail
    refine ((unhide HA) _).mono ?_
    rintro e w1 ⟨rfl, b1⟩
    obtain ⟨hc1, hf1⟩ := bcell b1
    have hz : w.heap.size < w1.heap.size := by have := b1.size; simp at this; omega
    go_wp2_with fail
    refine ((unhide HD) _).mono ?_
    rintro e w2 ⟨rfl, b2⟩
    obtain ⟨hc2, hf2⟩ := bcell b2
    go_wp2
    go_ret
    exact ⟨rfl, (((Below.refl _ _).alloc (Nat.le_refl _) _).trans (b1.mono (by simp))).trans (b2.mono (by omega))⟩
  · have h4' : k = 4 := by simpa using h4
    subst h4'
    cases nt
    · rw [if_pos (by simp)]
      go_enter Tryd.func14, Tryd.ntmps14
      go_wp2_with fail
      refine ((unhide HA) _).mono ?_
      rintro e w1 ⟨rfl, b1⟩
      obtain ⟨hc1, hf1⟩ := bcell b1
      have hz : w.heap.size < w1.heap.size := by have := b1.size; simp at this; omega
      go_wp2_with fail
      refine ((unhide HD) _).mono ?_
      rintro e w2 ⟨rfl, b2⟩
      obtain ⟨hc2, hf2⟩ := bcell b2
      have hz2 : w.heap.size < w2.heap.size := by have := b2.size; omega
      go_wp2_with fail
      refine ((unhide HE) _).mono ?_
      rintro e w3 ⟨rfl, b3⟩
      go_wp2
      go_ret
      exact ⟨rfl, ((((Below.refl _ _).alloc (Nat.le_refl _) _).trans (b1.mono (by simp))).trans (b2.mono (by omega))).trans (b3.mono (by omega))⟩
    · rw [if_neg (by simp)]
      go_enter Tryd.func14, Tryd.ntmps14
      go_wp2_with fail
      refine ((unhide HA) _).mono ?_
      rintro e w1 ⟨rfl, b1⟩
      obtain ⟨hc1, hf1⟩ := bcell b1
      have hz : w.heap.size < w1.heap.size := by have := b1.size; simp at this; omega
      go_wp2_with fail
      refine ((unhide HD) _).mono ?_
      rintro e w2 ⟨rfl, b2⟩
      obtain ⟨hc2, hf2⟩ := bcell b2
      have hz2 : w.heap.size < w2.heap.size := by have := b2.size; omega
      go_wp2_with fail
      refine ((unhide HE) _).mono ?_
      rintro e w3 ⟨rfl, b3⟩
      go_wp2
      go_ret
      exact ⟨rfl, ((((Below.refl _ _).alloc (Nat.le_refl _) _).trans (b1.mono (by simp))).trans (b2.mono (by omega))).trans (b3.mono (by omega))⟩

end Go.Proofs.YtkbdaiopahmfiacDoor

namespace Go.Proofs.YtkbdaiopahmfiacDoor
open Go.RowKit
set_option linter.unusedSimpArgs false
set_option linter.unusedVariables false

/-- Where a file is called so. -/
def fIdx (name : ByteArray) (st : List AFile) : Nat := st.findIdx fun f => f.name.toList == name.toList
def fInt (name : ByteArray) (st : List AFile) : Int := if fIdx name st < st.length then (fIdx name st : Int) else -1

end Go.Proofs.YtkbdaiopahmfiacDoor

namespace Go.Proofs.YtkbdaiopahmfiacDoor
open Go.RowKit
set_option linter.unusedSimpArgs false
set_option linter.unusedVariables false

theorem heap_setCell_same {w : World} {b o : Nat} {c : Array Value} {e : TypeId} {fr : Nat × Nat} (h : w.heap[b]? = some (.cells c e fr)) (v : Value) : (w.setCell ⟨b, o, none⟩ v).heap[b]? = some (.cells (c.setIfInBounds o v) e fr) := by
  simp only [World.setCell, Array.getElem?_modify, h]
  simp

theorem setCell_size (w : World) (a : Addr) (v : Value) : (w.setCell a v).heap.size = w.heap.size := by simp [World.setCell]

end Go.Proofs.YtkbdaiopahmfiacDoor

namespace Go.Proofs.YtkbdaiopahmfiacDoor
open Go.RowKit
set_option linter.unusedSimpArgs false
set_option linter.unusedVariables false

/-- A list of texts, rising. -/
def sortB (xs : List ByteArray) : List ByteArray := ((xs.map fun x => x.data.toList).mergeSort fun x y => decide (x ≤ y)).map fun l => ⟨l.toArray⟩
/-- The names, rising. -/
def sNames (st : List AFile) : List ByteArray := sortB (st.map AFile.name)

end Go.Proofs.YtkbdaiopahmfiacDoor

namespace Go.Proofs.YtkbdaiopahmfiacDoor
open Go.RowKit
set_option linter.unusedSimpArgs false
set_option linter.unusedVariables false

/-- The names in one text, a blank between. -/
def joinNames (st : List AFile) : ByteArray := ⟨(Lib.join ((sNames st).map (·.data.toList)) [32]).toArray⟩
def fileAt (st : List AFile) (j : Nat) : AFile := st.getD j ⟨ByteArray.empty, ByteArray.empty⟩

/-- A code, a text, the files behind. -/
structure Res where
  code : Int
  text : ByteArray
  st : List AFile

def aCreate (st : List AFile) (name : ByteArray) : Int × List AFile :=
  if 0 ≤ fInt name st then (5, st) else if 6 ≤ st.length then (7, st) else (0, st ++ [⟨name, ByteArray.empty⟩])
def aRename (st : List AFile) (j : Nat) (tn : ByteArray) : Int × List AFile :=
  if 0 ≤ fInt tn st then (5, st) else (0, st.set j ⟨tn, (fileAt st j).text⟩)
def aPut (st : List AFile) (j : Nat) (text : ByteArray) : Int × List AFile :=
  if 16 < (fileAt st j).text.size + text.size then (7, st) else (0, st.set j ⟨(fileAt st j).name, (fileAt st j).text ++ text⟩)

def aDo (st : List AFile) (c : ACall) : Res :=
  if checkI c ≠ 0 then ⟨checkI c, ByteArray.empty, st⟩
  else if c.kind = 1 then ⟨(aCreate st c.name).1, ByteArray.empty, (aCreate st c.name).2⟩
  else if c.kind = 6 then ⟨0, joinNames st, st⟩
  else if fInt c.name st < 0 then ⟨6, ByteArray.empty, st⟩
  else if c.kind = 2 then ⟨0, ByteArray.empty, st.eraseIdx (fIdx c.name st)⟩
  else if c.kind = 3 then ⟨(aRename st (fIdx c.name st) c.dst).1, ByteArray.empty, (aRename st (fIdx c.name st) c.dst).2⟩
  else if c.kind = 4 then ⟨(aPut st (fIdx c.name st) c.text).1, ByteArray.empty, (aPut st (fIdx c.name st) c.text).2⟩
  else ⟨0, (fileAt st (fIdx c.name st)).text, st⟩

theorem toList_data (s : ByteArray) : s.toList = s.data.toList := by
  exact ByteArray.toList_eq s

theorem nameB_size {s : ByteArray} (h : nameB s = true) : 1 ≤ s.size ∧ s.size ≤ 5 := by
  simp only [nameB, withinB, Bool.and_eq_true, decide_eq_true_eq] at h
  omega

end Go.Proofs.YtkbdaiopahmfiacDoor

namespace Go.Proofs.YtkbdaiopahmfiacDoor
open Go.RowKit
set_option linter.unusedSimpArgs false
set_option linter.unusedVariables false

theorem textB_size {s : ByteArray} (h : textB s = true) : 1 ≤ s.size ∧ s.size ≤ 8 := by
  simp only [textB, withinB, Bool.and_eq_true, decide_eq_true_eq] at h
  omega

end Go.Proofs.YtkbdaiopahmfiacDoor

namespace Go.Proofs.YtkbdaiopahmfiacDoor
open Go.RowKit
set_option linter.unusedSimpArgs false
set_option linter.unusedVariables false

theorem check_zero {c : ACall} (h : checkI c = 0) : 1 ≤ c.kind ∧ c.kind ≤ 6 ∧ formedB c = true ∧ namedB c = true ∧ (c.kind = 4 → textB c.text = true) := by
  unfold checkI at h
  by_cases h1 : c.kind < 1 ∨ 6 < c.kind
  · rw [if_pos h1] at h; omega
  rw [if_neg h1] at h
  cases h2 : formedB c
  · rw [h2, if_pos rfl] at h; omega
  rw [h2, if_neg (by simp)] at h
  cases h3 : namedB c
  · rw [h3, if_pos rfl] at h; omega
  rw [h3, if_neg (by simp)] at h
  refine ⟨by omega, by omega, rfl, rfl, fun h4 => ?_⟩
  cases h5 : textB c.text
  · rw [if_pos ⟨h4, h5⟩] at h; omega
  · rfl

theorem named_name {c : ACall} (h : namedB c = true) (h6 : c.kind ≠ 6) : nameB c.name = true := by
  unfold namedB at h
  have : (c.kind == 6) = false := by simpa using h6
  simp only [this, Bool.false_or, Bool.and_eq_true] at h
  exact h.1
theorem named_dst {c : ACall} (h : namedB c = true) (h3 : c.kind = 3) : nameB c.dst = true := by
  unfold namedB at h
  have : (c.kind != 3) = false := by simpa using h3
  simp only [this, Bool.false_or, Bool.and_eq_true] at h
  exact h.2

theorem eqB {a b : ByteArray} : (a.toList == b.toList) = decide (a = b) := by
  by_cases h : a = b
  · subst h; simp
  · have : a.toList ≠ b.toList := fun e => h (WideShapes.bytes_inj (by rw [← toList_data, ← toList_data]; exact e))
    simp [h, this]

end Go.Proofs.YtkbdaiopahmfiacDoor

namespace Go.Proofs.YtkbdaiopahmfiacDoor
open Go.RowKit
set_option linter.unusedSimpArgs false
set_option linter.unusedVariables false

/-- A record of package api. -/
structure ARec where
  client : Int
  no : Int
  call : ACall
  code : Int
  ans : ByteArray

end Go.Proofs.YtkbdaiopahmfiacDoor

namespace Go.Proofs.YtkbdaiopahmfiacDoor
open Go.RowKit
set_option linter.unusedSimpArgs false
set_option linter.unusedVariables false

theorem bsize (t : ByteArray) : t.data.toList.length = t.size := by rw [Array.length_toList]; rfl
end Go.Proofs.YtkbdaiopahmfiacDoor

namespace Go.Proofs.YtkbdaiopahmfiacDoor
open Go.RowKit
set_option linter.unusedSimpArgs false
set_option linter.unusedVariables false

/-- What stands ahead of the first blank, and behind it; false: there is none. -/
def cutB : List UInt8 → List UInt8 × List UInt8 × Bool
  | [] => ([], [], false)
  | x :: xs => if x = 32 then ([], xs, true) else (x :: (cutB xs).1, (cutB xs).2.1, (cutB xs).2.2)
theorem cutB_yes : ∀ (a b : List UInt8), 32 ∉ a → cutB (a ++ 32 :: b) = (a, b, true)
  | [], b, _ => by simp [cutB]
  | x :: xs, b, h => by
    have h1 : x ≠ 32 := fun e => h (by simp [e])
    have h2 : 32 ∉ xs := fun e => h (by simp [e])
    rw [List.cons_append, cutB, if_neg h1, cutB_yes xs b h2]
theorem cutB_no : ∀ (a : List UInt8), 32 ∉ a → cutB a = (a, [], false)
  | [], _ => rfl
  | x :: xs, h => by
    have h1 : x ≠ 32 := fun e => h (by simp [e])
    have h2 : 32 ∉ xs := fun e => h (by simp [e])
    rw [cutB, if_neg h1, cutB_no xs h2]
theorem cutB_back : ∀ (s : List UInt8), ((cutB s).2.2 = true → s = (cutB s).1 ++ 32 :: (cutB s).2.1) ∧ ((cutB s).2.2 = false → s = (cutB s).1 ∧ (cutB s).2.1 = []) ∧ 32 ∉ (cutB s).1
  | [] => by simp [cutB]
  | x :: xs => by
    obtain ⟨h1, h2, h3⟩ := cutB_back xs
    rw [cutB]
    by_cases hx : x = 32
    · rw [if_pos hx]; simp [hx]
    · rw [if_neg hx]
      refine ⟨fun h => ?_, fun h => ?_, ?_⟩
      · have := h1 h; rw [List.cons_append, ← this]
      · have := h2 h; exact ⟨by rw [← this.1], this.2⟩
      · intro hm
        rcases List.mem_cons.1 hm with h | h
        · exact hx h.symm
        · exact h3 h

def wList : List UInt8 := [108, 105, 115, 116]
def wMake : List UInt8 := [109, 97, 107, 101]
def wRemove : List UInt8 := [114, 101, 109, 111, 118, 101]
def wRename : List UInt8 := [114, 101, 110, 97, 109, 101]
def wAppend : List UInt8 := [97, 112, 112, 101, 110, 100]
def wRead : List UInt8 := [114, 101, 97, 100]

def B (l : List UInt8) : ByteArray := ⟨l.toArray⟩
theorem B_data (l : List UInt8) : (B l).data.toList = l := by simp [B]
theorem data_B (s : ByteArray) : B s.data.toList = s := by cases s; simp [B]

/-- The line of a call. -/
def lineL (c : ACall) : List UInt8 :=
  if c.kind = 1 then wMake ++ 32 :: c.name.data.toList
  else if c.kind = 2 then wRemove ++ 32 :: c.name.data.toList
  else if c.kind = 3 then wRename ++ 32 :: (c.name.data.toList ++ 32 :: c.dst.data.toList)
  else if c.kind = 4 then wAppend ++ 32 :: (c.name.data.toList ++ 32 :: c.text.data.toList)
  else if c.kind = 5 then wRead ++ 32 :: c.name.data.toList
  else wList
def noCall : ACall := ⟨0, ⟨#[]⟩, ⟨#[]⟩, ⟨#[]⟩⟩
/-- Call's answer: the line, the code. -/
def aLine (c : ACall) : List UInt8 × Int := if checkI c ≠ 0 then ([], checkI c) else (lineL c, 0)
/-- The call of a line, and whether it has such words. -/
def wordsC (s : List UInt8) : ACall × Bool :=
  let w := (cutB s).1; let more := (cutB s).2.2
  let name := (cutB (cutB s).2.1).1; let last := (cutB (cutB s).2.1).2.1; let third := (cutB (cutB s).2.1).2.2
  if w = wList then (⟨6, B name, ⟨#[]⟩, ⟨#[]⟩⟩, !more)
  else if w = wMake then (⟨1, B name, ⟨#[]⟩, ⟨#[]⟩⟩, more && !third)
  else if w = wRemove then (⟨2, B name, ⟨#[]⟩, ⟨#[]⟩⟩, more && !third)
  else if w = wRead then (⟨5, B name, ⟨#[]⟩, ⟨#[]⟩⟩, more && !third)
  else if w = wRename then (⟨3, B name, B last, ⟨#[]⟩⟩, third)
  else if w = wAppend then (⟨4, B name, ⟨#[]⟩, B last⟩, third)
  else (⟨0, B name, ⟨#[]⟩, ⟨#[]⟩⟩, false)
def aParse (s : List UInt8) : ACall × Int :=
  if (wordsC s).2 = false then (noCall, 12) else if checkI (wordsC s).1 ≠ 0 then (noCall, checkI (wordsC s).1) else ((wordsC s).1, 0)

theorem kinds6 {c : ACall} (h : checkI c = 0) : c.kind = 1 ∨ c.kind = 2 ∨ c.kind = 3 ∨ c.kind = 4 ∨ c.kind = 5 ∨ c.kind = 6 := by
  obtain ⟨h1, h2, _⟩ := check_zero h
  omega
end Go.Proofs.YtkbdaiopahmfiacDoor

namespace Go.Proofs.YtkbdaiopahmfiacDoor
open Go.RowKit
set_option linter.unusedSimpArgs false
set_option linter.unusedVariables false

/-- The first blank, by the library's own index. -/
theorem cut_index (l : List UInt8) : (Lib.index l [32] = -1 ∧ cutB l = (l, [], false)) ∨ ∃ i : Nat, Lib.index l [32] = i ∧ cutB l = (l.take i, l.drop (i + 1), true) := by
  rw [Lib.index_one]
  induction l with
  | nil => exact Or.inl ⟨by simp [Lib.indexByte], rfl⟩
  | cons x xs ih =>
    by_cases hx : x = 32
    · exact Or.inr ⟨0, by simp [Lib.indexByte, hx], by simp [cutB, hx]⟩
    · rcases ih with ⟨h1, h2⟩ | ⟨i, h1, h2⟩
      · exact Or.inl ⟨by simp [Lib.indexByte, hx, h1], by rw [cutB, if_neg hx, h2]⟩
      · refine Or.inr ⟨i + 1, ?_, by rw [cutB, if_neg hx, h2]; simp⟩
        simp [Lib.indexByte, hx, h1]
/-- A line's pieces: three at most. -/
def pcs (l : List UInt8) : List (List UInt8) :=
  if (cutB l).2.2 = false then [l]
  else if (cutB (cutB l).2.1).2.2 = false then [(cutB l).1, (cutB l).2.1]
  else [(cutB l).1, (cutB (cutB l).2.1).1, (cutB (cutB l).2.1).2.1]
theorem splitK_cut (k : Nat) (l : List UInt8) : Lib.splitK [32] 0 (k + 1) l = if (cutB l).2.2 = false then [l] else (cutB l).1 :: Lib.splitK [32] 0 k (cutB l).2.1 := by
  rw [Lib.splitK]
  rcases cut_index l with ⟨h1, h2⟩ | ⟨i, h1, h2⟩
  · rw [h1, h2]; simp
  · have hne : ¬ ((Lib.index l [32] == -1) = true) := fun e => by have := beq_iff_eq.1 e; omega
    have e : (Lib.index l [32]).toNat = i := by omega
    rw [if_neg hne, e, h2]; simp
theorem pcs_split (l : List UInt8) : Lib.splitK [32] 0 (min 3 (l.length + 1) - 1) l = pcs l := by
  unfold pcs
  match l with
  | [] => rfl
  | [x] =>
    show Lib.splitK [32] 0 (0 + 1) [x] = _
    rw [splitK_cut]
    by_cases hx : x = 32
    · subst hx; rfl
    · simp [cutB, hx]
  | x :: y :: zs =>
    have : min 3 ((x :: y :: zs).length + 1) - 1 = 1 + 1 := by simp only [List.length_cons]; omega
    rw [this, splitK_cut, splitK_cut]
    generalize cutB (x :: y :: zs) = c
    obtain ⟨c1, c2, c3⟩ := c
    dsimp only
    generalize hd : cutB c2 = d
    obtain ⟨d1, d2, d3⟩ := d
    cases c3 <;> cases d3 <;> simp [Lib.splitK]
theorem map_B {L : List ByteArray} {M : List (List UInt8)} (h : L.map (·.data.toList) = M) : L = M.map B := by
  rw [← h, List.map_map]
  have : (B ∘ fun x : ByteArray => x.data.toList) = id := by funext x; exact data_B x
  rw [this, List.map_id]
theorem pcs_bytes (s : ByteArray) : Lib.splitB ⟨#[32]⟩ 0 (min 3 (s.size + 1) - 1) s = (pcs s.data.toList).map B := by
  apply map_B
  rw [Lib.splitB_data]
  have hl : s.size = s.data.toList.length := by cases s; rfl
  rw [hl]
  exact pcs_split _
theorem pcs_len (l : List UInt8) : 1 ≤ (pcs l).length ∧ (pcs l).length ≤ 3 := by
  unfold pcs
  split
  · simp
  · split <;> simp

/-- The kind of a word; 0: none. -/
def kindL (w : List UInt8) : Int := if w = wMake then 1 else if w = wRemove then 2 else if w = wRename then 3 else if w = wAppend then 4 else if w = wRead then 5 else if w = wList then 6 else 0
/-- How many words stand behind a kind's own. -/
def np (k : Int) : Nat := if k = 1 ∨ k = 2 ∨ k = 5 then 1 else if k = 3 ∨ k = 4 then 2 else 0
/-- The call of pieces. -/
def aRead (P : List (List UInt8)) : ACall × Bool :=
  if kindL (P.getD 0 []) = 0 ∨ np (kindL (P.getD 0 [])) + 1 ≠ P.length then (noCall, false)
  else (⟨kindL (P.getD 0 []), B (P.getD 1 []), if kindL (P.getD 0 []) = 3 then B (P.getD 2 []) else ⟨#[]⟩, if kindL (P.getD 0 []) = 4 then B (P.getD 2 []) else ⟨#[]⟩⟩, true)
theorem read_words (l : List UInt8) : aRead (pcs l) = if (wordsC l).2 = false then (noCall, false) else ((wordsC l).1, true) := by
  obtain ⟨_, p2, _⟩ := cutB_back l
  unfold pcs wordsC
  generalize cutB l = c at *
  obtain ⟨c1, c2, c3⟩ := c
  dsimp only at *
  obtain ⟨_, q2, _⟩ := cutB_back c2
  generalize hd : cutB c2 = d at *
  obtain ⟨d1, d2, d3⟩ := d
  dsimp only at *
  have hc : c3 = false → d1 = [] ∧ d3 = false := fun h => by
    rw [(p2 h).2] at hd
    simp [cutB] at hd
    exact ⟨hd.1, hd.2.2⟩
  have n12 : wMake ≠ wRemove := by decide
  have n13 : wMake ≠ wRename := by decide
  have n14 : wMake ≠ wAppend := by decide
  have n15 : wMake ≠ wRead := by decide
  have n16 : wMake ≠ wList := by decide
  have n23 : wRemove ≠ wRename := by decide
  have n24 : wRemove ≠ wAppend := by decide
  have n25 : wRemove ≠ wRead := by decide
  have n26 : wRemove ≠ wList := by decide
  have n34 : wRename ≠ wAppend := by decide
  have n35 : wRename ≠ wRead := by decide
  have n36 : wRename ≠ wList := by decide
  have n45 : wAppend ≠ wRead := by decide
  have n46 : wAppend ≠ wList := by decide
  have n56 : wRead ≠ wList := by decide
  have hk : ∀ P : List (List UInt8), P.getD 0 [] = c1 → aRead P = if kindL c1 = 0 ∨ np (kindL c1) + 1 ≠ P.length then (noCall, false) else (⟨kindL c1, B (P.getD 1 []), if kindL c1 = 3 then B (P.getD 2 []) else ⟨#[]⟩, if kindL c1 = 4 then B (P.getD 2 []) else ⟨#[]⟩⟩, true) := fun P h => by
    unfold aRead; rw [h]
  cases c3 with
  | false =>
    obtain ⟨h1, h2⟩ := hc rfl
    subst h1; subst h2
    rw [if_pos rfl, (p2 rfl).1, hk _ rfl]
    by_cases h1 : c1 = wList
    · subst h1; rfl
    by_cases h2 : c1 = wMake
    · subst h2; rfl
    by_cases h3 : c1 = wRemove
    · subst h3; rfl
    by_cases h4 : c1 = wRead
    · subst h4; rfl
    by_cases h5 : c1 = wRename
    · subst h5; rfl
    by_cases h6 : c1 = wAppend
    · subst h6; rfl
    simp [kindL, h1, h2, h3, h4, h5, h6]
  | true =>
    rw [if_neg (by decide)]
    cases d3 with
    | false =>
      rw [if_pos rfl, (q2 rfl).1, hk _ rfl]
      by_cases h1 : c1 = wList
      · subst h1; rfl
      by_cases h2 : c1 = wMake
      · subst h2; rfl
      by_cases h3 : c1 = wRemove
      · subst h3; rfl
      by_cases h4 : c1 = wRead
      · subst h4; rfl
      by_cases h5 : c1 = wRename
      · subst h5; rfl
      by_cases h6 : c1 = wAppend
      · subst h6; rfl
      simp [kindL, h1, h2, h3, h4, h5, h6]
    | true =>
      rw [if_neg (by decide), hk _ rfl]
      by_cases h1 : c1 = wList
      · subst h1; rfl
      by_cases h2 : c1 = wMake
      · subst h2; rfl
      by_cases h3 : c1 = wRemove
      · subst h3; rfl
      by_cases h4 : c1 = wRead
      · subst h4; rfl
      by_cases h5 : c1 = wRename
      · subst h5; rfl
      by_cases h6 : c1 = wAppend
      · subst h6; rfl
      simp [kindL, h1, h2, h3, h4, h5, h6]
theorem parse_read (l : List UInt8) : aParse l = if (aRead (pcs l)).2 = false then (noCall, 12) else if checkI (aRead (pcs l)).1 ≠ 0 then (noCall, checkI (aRead (pcs l)).1) else ((aRead (pcs l)).1, 0) := by
  rw [read_words]
  unfold aParse
  cases (wordsC l).2 <;> rfl

end Go.Proofs.YtkbdaiopahmfiacDoor

namespace Go.Proofs.YtkbdaiopahmfiacDoor
open Go.RowKit Go.Shelf
set_option linter.unusedSimpArgs false
set_option linter.unusedVariables false

def ywb_ren : Go.Shelf.Ren := ⟨fun | 167 => 17 | 240 => 29 | 276 => 39 | n => n, fun | 0 => 0 | 4 => 4 | 5 => 5 | 9 => 9 | 20 => 20 | 37 => 38 | 70 => 37 | 72 => 40 | 75 => 42 | 80 => 51 | 164 => 68 | n => n, fun | n => n⟩
theorem ywb : Go.Proofs.Lays.n167 Tryd.prog ywb_ren := {
  mixed := by kernel_rfl
  f167 := Tryd.func17.trans (congrArg some (by kernel_rfl))
  f240 := Tryd.func29.trans (congrArg some (by kernel_rfl))
  f276 := Tryd.func39.trans (congrArg some (by kernel_rfl))
  t0 := Tryd.underlying0
  a0 := Tryd.isAgg0
  z0 := Tryd.sizeOf0
  v0 := Tryd.zeroValue0
  t4 := Tryd.underlying4
  a4 := Tryd.isAgg4
  z4 := Tryd.sizeOf4
  v4 := Tryd.zeroValue4
  t5 := Tryd.underlying5
  a5 := Tryd.isAgg5
  z5 := Tryd.sizeOf5
  v5 := Tryd.zeroValue5
  t9 := Tryd.underlying9
  a9 := Tryd.isAgg9
  z9 := Tryd.sizeOf9
  v9 := Tryd.zeroValue9
  t20 := Tryd.underlying20
  a20 := Tryd.isAgg20
  z20 := Tryd.sizeOf20
  v20 := Tryd.zeroValue20
  t37 := Tryd.underlying38
  a37 := Tryd.isAgg38
  z37 := Tryd.sizeOf38
  v37 := Tryd.zeroValue38
  t70 := Tryd.underlying37
  a70 := Tryd.isAgg37
  z70 := Tryd.sizeOf37
  v70 := Tryd.zeroValue37
  t72 := Tryd.underlying40
  a72 := Tryd.isAgg40
  z72 := Tryd.sizeOf40
  v72 := Tryd.zeroValue40
  t75 := Tryd.underlying42
  a75 := Tryd.isAgg42
  z75 := Tryd.sizeOf42
  v75 := Tryd.zeroValue42
  t164 := Tryd.underlying68
  a164 := Tryd.isAgg68
  z164 := Tryd.sizeOf68
  v164 := Tryd.zeroValue68 }
theorem ywb_x : Builder.Extra Tryd.prog ywb_ren := {
  sizeBuilder := by kernel_rfl
  liesBuilder := by kernel_rfl
  t5 := Tryd.underlying5
  a5 := Tryd.isAgg5
  z5 := Tryd.sizeOf5
  v5 := Tryd.zeroValue5
  infoByte := by kernel_rfl
  cellsByte := by kernel_rfl
  sizeByte := by kernel_rfl
  neB5 := by decide }
/-- A builder at block b, all of whose own lies from B on. -/
abbrev YB (B b : Nat) (bs : List UInt8) (w : World) : Prop := Lib.IsBuilderF 40 5 B b (Lib.byteCells bs) w
theorem strCells_bytes (s : ByteArray) : Lib.strCells s = Lib.byteCells s.data.toList := by simp [Lib.strCells, Lib.byteCells]
theorem WriteByte_y (B b : Nat) (bs : List UInt8) (c : UInt8) (w : World) (h : YB B b bs w) (hlen : bs.length ≤ 1000000) (hBw : B ≤ w.heap.size) :
    Calls Tryd.prog 17 #[.pointer (some ⟨b, 0, none⟩), .int .u8 (c.toNat : Int)] w fun e w' => e = .returned .nilIface ∧ YB B b (bs ++ [c]) w' ∧ Below B w w' ∧ Lib.OthersKept 5 (some b) w w' := by
  refine (Any.Builder_WriteByte_k ywb ywb_x B b _ (c.toNat : Int) w h (by rw [Lib.byteCells_length]; omega) hBw).mono ?_
  rintro e w' ⟨rfl, h1, h2, h3⟩
  refine ⟨rfl, ?_, h2, h3⟩
  unfold YB
  rw [Lib.byteCells_append]
  exact .inr h1
theorem String_y (B b : Nat) (bs : List UInt8) (w : World) (h : YB B b bs w) (hBw : B ≤ w.heap.size) :
    Calls Tryd.prog 18 #[.pointer (some ⟨b, 0, none⟩)] w fun e w' => e = .returned (.string ⟨bs.toArray⟩) ∧ Below B w w' := by
  refine (Tryd.Builder_String_any_k B b bs w h hBw).mono ?_
  rintro e w' ⟨rfl, _, h2, _⟩
  exact ⟨rfl, h2⟩

end Go.Proofs.YtkbdaiopahmfiacDoor

namespace Go.Proofs.YtkbdaiopahmfiacDoor
open Go.RowKit Go.Shelf
set_option linter.unusedSimpArgs false
set_option linter.unusedVariables false

def lws_ren : Go.Shelf.Ren := ⟨fun | 166 => 15 | 240 => 29 | 276 => 39 | n => n, fun | 0 => 0 | 3 => 3 | 4 => 4 | 5 => 5 | 9 => 9 | 20 => 20 | 37 => 38 | 70 => 37 | 72 => 40 | 75 => 42 | 80 => 51 | 164 => 68 | n => n, fun | n => n⟩
theorem lws : Go.Proofs.Lays.n166 Tryd.prog lws_ren := {
  mixed := by kernel_rfl
  f166 := Tryd.func15.trans (congrArg some (by kernel_rfl))
  f240 := Tryd.func29.trans (congrArg some (by kernel_rfl))
  f276 := Tryd.func39.trans (congrArg some (by kernel_rfl))
  t0 := Tryd.underlying0
  a0 := Tryd.isAgg0
  z0 := Tryd.sizeOf0
  v0 := Tryd.zeroValue0
  t3 := Tryd.underlying3
  a3 := Tryd.isAgg3
  z3 := Tryd.sizeOf3
  v3 := Tryd.zeroValue3
  t4 := Tryd.underlying4
  a4 := Tryd.isAgg4
  z4 := Tryd.sizeOf4
  v4 := Tryd.zeroValue4
  t9 := Tryd.underlying9
  a9 := Tryd.isAgg9
  z9 := Tryd.sizeOf9
  v9 := Tryd.zeroValue9
  t20 := Tryd.underlying20
  a20 := Tryd.isAgg20
  z20 := Tryd.sizeOf20
  v20 := Tryd.zeroValue20
  t37 := Tryd.underlying38
  a37 := Tryd.isAgg38
  z37 := Tryd.sizeOf38
  v37 := Tryd.zeroValue38
  t70 := Tryd.underlying37
  a70 := Tryd.isAgg37
  z70 := Tryd.sizeOf37
  v70 := Tryd.zeroValue37
  t72 := Tryd.underlying40
  a72 := Tryd.isAgg40
  z72 := Tryd.sizeOf40
  v72 := Tryd.zeroValue40
  t75 := Tryd.underlying42
  a75 := Tryd.isAgg42
  z75 := Tryd.sizeOf42
  v75 := Tryd.zeroValue42
  t164 := Tryd.underlying68
  a164 := Tryd.isAgg68
  z164 := Tryd.sizeOf68
  v164 := Tryd.zeroValue68 }
theorem lws_x : Builder.Extra Tryd.prog lws_ren := {
  sizeBuilder := by kernel_rfl
  liesBuilder := by kernel_rfl
  t5 := Tryd.underlying5
  a5 := Tryd.isAgg5
  z5 := Tryd.sizeOf5
  v5 := Tryd.zeroValue5
  infoByte := by kernel_rfl
  cellsByte := by kernel_rfl
  sizeByte := by kernel_rfl
  neB5 := by decide }
theorem WriteStr_l (B b : Nat) (bs : List UInt8) (s : ByteArray) (w : World) (h : YB B b bs w) (hlen : bs.length + s.size ≤ 1000000) (hBw : B ≤ w.heap.size) :
    Calls Tryd.prog 15 #[.pointer (some ⟨b, 0, none⟩), .string s] w fun e w' => e = .returned (.tuple #[.int .i64 s.size, .nilIface]) ∧ YB B b (bs ++ s.data.toList) w' ∧ Below B w w' ∧ Lib.OthersKept 5 (some b) w w' := by
  refine (Any.Builder_WriteString_k (ρ := lws_ren) lws lws_x B b _ s w h (by rw [Lib.byteCells_length]; omega) hBw).mono ?_
  rintro e w' ⟨rfl, h1, h2, h3⟩
  refine ⟨rfl, ?_, h2, h3⟩
  unfold YB
  rw [Lib.byteCells_append, ← strCells_bytes]
  exact .inr h1
/-- A byte that is a blank. -/
theorem WriteBlank_l (B b : Nat) (bs : List UInt8) (w : World) (h : YB B b bs w) (hlen : bs.length ≤ 1000000) (hBw : B ≤ w.heap.size) :
    Calls Tryd.prog 17 #[.pointer (some ⟨b, 0, none⟩), .int .u8 32] w fun e w' => e = .returned .nilIface ∧ YB B b (bs ++ [32]) w' ∧ Below B w w' ∧ Lib.OthersKept 5 (some b) w w' :=
  WriteByte_y B b bs 32 w h hlen hBw
/-- A builder outlasts what turns nothing old. -/
theorem YB_below {B b : Nat} {bs : List UInt8} {w w' : World} (h : YB B b bs w) (hb : Below w.heap.size w w') : YB B b bs w' := by
  have go : ∀ p, Lib.BuilderAtF 40 5 B b p (Lib.byteCells bs) w → Lib.BuilderAtF 40 5 B b p (Lib.byteCells bs) w' := by
    rintro p ⟨h1, v, h2, h3, h4⟩
    refine ⟨h1, v, (hb.block b (Array.getElem?_eq_some_iff.1 h2).1).trans h2, ?_, h4⟩
    obtain ⟨k1, k2⟩ := h3
    refine ⟨k1, ?_⟩
    rcases k2 with k2 | ⟨g, cap, cur, fz, e1, e2, e3, e4⟩
    · exact .inl k2
    · exact .inr ⟨g, cap, cur, fz, e1, e2, (hb.block g (Array.getElem?_eq_some_iff.1 e3).1).trans e3, e4⟩
  rcases h with h | h
  · exact .inl (go _ h)
  · exact .inr (go _ h)
/-- A row that is no builder's outlasts a builder's writing. -/
theorem row_kept {b g : Nat} {w w' : World} {cur : Array Value} {t : TypeId} {fz : Nat × Nat} (hk : Lib.OthersKept 5 (some b) w w') (hg : w.heap[g]? = some (.cells cur t fz)) (hb : g ≠ b) (ht : t ≠ 5) : w'.heap[g]? = some (.cells cur t fz) :=
  hk g _ hg (fun e => hb (Option.some.inj e)) (fun c fz e => by injection e with _ h _; exact absurd h ht)

end Go.Proofs.YtkbdaiopahmfiacDoor

namespace Go.Proofs.YtkbdaiopahmfiacDoor
open Go.RowKit
set_option linter.unusedSimpArgs false
set_option linter.unusedVariables false

theorem fields4 {l : List Field} {x0 x1 x2 x3 : String × Nat × Nat} (h : l.map (fun f => (f.name, f.type, f.offset)) = [x0, x1, x2, x3]) :
    ∃ f0 f1 f2 f3, l = [f0, f1, f2, f3] ∧ (f0.name, f0.type, f0.offset) = x0 ∧ (f1.name, f1.type, f1.offset) = x1 ∧ (f2.name, f2.type, f2.offset) = x2 ∧ (f3.name, f3.type, f3.offset) = x3 := by
  match l, h with
  | [f0, f1, f2, f3], h => simp at h; exact ⟨f0, f1, f2, f3, rfl, by simp [h.1], by simp [h.2.1], by simp [h.2.2.1], by simp [h.2.2.2]⟩
  | [], h => simp at h
  | [_], h => simp at h
  | [_, _], h => simp at h
  | [_, _, _], h => simp at h
  | _ :: _ :: _ :: _ :: _ :: _, h => simp at h
def callCells (c : ACall) : Array Value := #[.int .i64 c.kind, .string c.name, .string c.dst, .string c.text]
theorem equal32 (n : Nat) (c c' : ACall) (w : World) : (Op.equalIn (n + 2) 23 (.agg (callCells c)) (.agg (callCells c'))).run Tryd.prog w = .ok (c.kind == c'.kind && c.name.toList == c'.name.toList && c.dst.toList == c'.dst.toList && c.text.toList == c'.text.toList) w := by
  rw [run_equalIn_agg w (n + 1) 23 _ _ (by kernel_rfl) (by kernel_rfl)]
  obtain ⟨f0, f1, f2, f3, hf, e0, e1, e2, e3⟩ := fields4 (l := (Tryd.prog.fieldsOf 23).toList) (x0 := ("Kind", 3, 0)) (x1 := ("Name", 9, 1)) (x2 := ("To", 9, 2)) (x3 := ("Text", 9, 3)) (by kernel_rfl)
  simp only [Prod.mk.injEq] at e0 e1 e2 e3
  obtain ⟨⟨a0, a1, a2⟩, ⟨b0, b1, b2⟩, ⟨c0, c1, c2⟩, ⟨d0, d1, d2⟩⟩ := And.intro e0 (And.intro e1 (And.intro e2 e3))
  have p0 : ∀ c : ACall, (part 3 (callCells c) 0).run Tryd.prog w = .ok (.int .i64 c.kind) w := fun c => by kernel_rfl
  have p1 : ∀ c : ACall, (part 9 (callCells c) 1).run Tryd.prog w = .ok (.string c.name) w := fun c => by kernel_rfl
  have p2 : ∀ c : ACall, (part 9 (callCells c) 2).run Tryd.prog w = .ok (.string c.dst) w := fun c => by kernel_rfl
  have p3 : ∀ c : ACall, (part 9 (callCells c) 3).run Tryd.prog w = .ok (.string c.text) w := fun c => by kernel_rfl
  have q0 := run_equalIn_int w n 3 .i64 .i64 c.kind c'.kind Tryd.underlying3
  have q1 := run_equalIn_string w n 9 c.name c'.name Tryd.underlying9
  have q2 := run_equalIn_string w n 9 c.dst c'.dst Tryd.underlying9
  have q3 := run_equalIn_string w n 9 c.text c'.text Tryd.underlying9
  rw [hf]
  simp only [Op.eqFields, a0, a1, a2, b0, b1, b2, c0, c1, c2, d0, d1, d2, p0, p1, p2, p3, q0, q1, q2, q3, Sem.run_bind, Result.andThen_ok, Sem.run_ite, Sem.run_pure]
  cases (c.kind == c'.kind) <;> cases (c.name.toList == c'.name.toList) <;> cases (c.dst.toList == c'.dst.toList) <;> cases (c.text.toList == c'.text.toList) <;> simp [q1, q2, q3, p1, p2, p3]

end Go.Proofs.YtkbdaiopahmfiacDoor

namespace Go.Proofs.YtkbdaiopahmfiacDoor
open Go.RowKit
set_option linter.unusedSimpArgs false
set_option linter.unusedVariables false

/-- The files behind records. -/
def behind (L : List ARec) : List AFile := L.foldl (fun st r => (aDo st r.call).st) []
/-- Are two calls the same? -/
def callB (c c' : ACall) : Bool := c.kind == c'.kind && c.name.toList == c'.name.toList && c.dst.toList == c'.dst.toList && c.text.toList == c'.text.toList
theorem callB_iff (c c' : ACall) : callB c c' = true ↔ c = c' := by
  obtain ⟨k, a, b, t⟩ := c
  obtain ⟨k', a', b', t'⟩ := c'
  unfold callB
  simp only [eqB]
  simp
  constructor
  · rintro ⟨⟨⟨h3, h4⟩, h5⟩, h6⟩
    exact ⟨h3, h4, h5, h6⟩
  · rintro ⟨h3, h4, h5, h6⟩
    exact ⟨⟨⟨h3, h4⟩, h5⟩, h6⟩
theorem callB_self (c : ACall) : callB c c = true := (callB_iff c c).2 rfl

end Go.Proofs.YtkbdaiopahmfiacDoor

namespace Go.Proofs.YtkbdaiopahmfiacDoor
open Go.RowKit
set_option linter.unusedSimpArgs false
set_option linter.unusedVariables false

set_option maxHeartbeats 400000 in
theorem IsChange_any (k : Int) (w : World) :
    Calls Tryd.prog 30 #[.int .i64 k] w fun e w' => e = .returned (.bool (changesB k)) ∧ w' = w := by
  by_cases h1 : k = 1
  · subst h1; go_enter Tryd.func30, Tryd.ntmps30; go_wp2; go_ret; exact ⟨rfl, rfl⟩
  by_cases h2 : k = 2
  · subst h2; go_enter Tryd.func30, Tryd.ntmps30; go_wp2; go_ret; exact ⟨rfl, rfl⟩
  by_cases h3 : k = 3
  · subst h3; go_enter Tryd.func30, Tryd.ntmps30; go_wp2; go_ret; exact ⟨rfl, rfl⟩
  by_cases h4 : k = 4
  · subst h4; go_enter Tryd.func30, Tryd.ntmps30; go_wp2; go_ret; exact ⟨rfl, rfl⟩
  have e1 : (k == 1) = false := by simpa using h1
  have e2 : (k == 2) = false := by simpa using h2
  have e3 : (k == 3) = false := by simpa using h3
  have e4 : (k == 4) = false := by simpa using h4
  have hf : changesB k = false := by simp [changesB, h1, h2, h3, h4]
  rw [hf]
  clear hf h1 h2 h3 h4
  go_enter Tryd.func30, Tryd.ntmps30; go_wp2; go_ret
  exact ⟨rfl, rfl⟩

set_option maxRecDepth 100000 in
set_option maxHeartbeats 1000000 in
theorem IsName_any (s : ByteArray) (w : World) (hs : s.size ≤ maxLen) :
    Calls Tryd.prog 31 #[.string s] w fun e w' => e = .returned (.bool (nameB s)) ∧ w' = w := by
  unfold maxLen at hs
  by_cases h1 : (1 : Int) ≤ (s.size : Int)
  · by_cases h2 : (s.size : Int) ≤ 5
    · have hlen : s.data.toList.length = s.size := by rw [Array.length_toList]; rfl
      obtain ⟨rr, HR⟩ : ∃ rr, Hid (s.data.toList.any (outB 97 122) = rr) := ⟨_, rfl⟩
      have hf : nameB s = !rr := by rw [nameB, withinB, HR.out]; simp [h1, h2]
      rw [hf]
      clear hf
      go_enter Tryd.func31, Tryd.ntmps31
      go_wp2
      go_loop [3] (fun i => ∃ k : Nat, k ≤ s.size ∧ i = .int .i64 k ∧ Hid ((s.data.toList.take k).any (outB 97 122) = false)) (fun i => s.size - (intOf i).toNat)
      case atStart => exact ⟨0, Nat.zero_le _, rfl, by simp [Hid]⟩
      case round =>
        obtain ⟨k, hk, rfl, HA⟩ := hrel
        by_cases hlt : k < s.size
        · have hx : s.data.toList[k]? = some s[k] := by rw [List.getElem?_eq_getElem (by omega)]; rfl
          have HX := hide hx
          clear hx
          by_cases hb1 : (s[k].toNat : Int) < 97
          · have HQ : Hid (outB 97 122 s[k] = true) := by simp [Hid, outB, hb1]
            go_wp2
            go_ret
            refine ⟨?_, rfl⟩
            have h3 : s.data.toList.any (outB 97 122) = true := by
              rw [List.any_eq_true]
              exact ⟨_, List.mem_of_getElem? HX.out, HQ.out⟩
            rw [← HR.out, h3]
            rfl
          · by_cases hb2 : (122 : Int) < (s[k].toNat : Int)
            · have HQ : Hid (outB 97 122 s[k] = true) := by simp [Hid, outB, hb2]
              go_wp2
              go_ret
              refine ⟨?_, rfl⟩
              have h3 : s.data.toList.any (outB 97 122) = true := by
                rw [List.any_eq_true]
                exact ⟨_, List.mem_of_getElem? HX.out, HQ.out⟩
              rw [← HR.out, h3]
              rfl
            · have HQ : Hid (outB 97 122 s[k] = false) := by simp only [Hid, outB, hb1, hb2, decide_false, Bool.or_false]
              go_wp2
              go_round
              case rel => exact ⟨k + 1, by omega, by go_num, by rw [Hid, any_take_succ _ _ _ _ HX.out, HA.out, HQ.out]; rfl⟩
              case measure => simp [intOf]; omega
        · have : k = s.size := by omega
          subst this
          go_wp2
          go_ret
          refine ⟨?_, rfl⟩
          have h3 := HA.out
          rw [List.take_of_length_le (by omega)] at h3
          rw [← HR.out, h3]
          rfl
    · have hf : nameB s = false := by simp [nameB, withinB, h2]
      rw [hf]
      clear hf
      go_enter Tryd.func31, Tryd.ntmps31
      go_wp2
      go_ret
      exact ⟨rfl, rfl⟩
  · have hf : nameB s = false := by simp [nameB, withinB, h1]
    rw [hf]
    clear hf
    go_enter Tryd.func31, Tryd.ntmps31
    go_wp2
    go_ret
    exact ⟨rfl, rfl⟩

end Go.Proofs.YtkbdaiopahmfiacDoor

namespace Go.Proofs.YtkbdaiopahmfiacDoor
open Go.RowKit
set_option linter.unusedSimpArgs false
set_option linter.unusedVariables false

set_option maxRecDepth 100000 in
set_option maxHeartbeats 1000000 in
theorem fault_other (k : Int) (a b t : ByteArray) (w : World) (hk : k < 1 ∨ 6 < k) :
    Calls Tryd.prog 19 #[.agg #[.int .i64 k, .string a, .string b, .string t]] w
      fun e w' => e = .returned (.int .i64 (checkI ⟨k, a, b, t⟩)) ∧ Below w.heap.size w w' := by
  have hf : checkI ⟨k, a, b, t⟩ = 1 := by unfold checkI; rw [if_pos hk]
  have hc : changesB k = false := by simp [changesB]; omega
  have H : Hid (∀ W : World, Calls Tryd.prog 30 #[.int .i64 k] W fun e w' => e = .returned (.bool false) ∧ w' = W) := by
    intro W; have := IsChange_any k W; rwa [hc] at this
  rw [hf]
  have e5 : (k == 5) = false := by simp; omega
  have e6 : (k == 6) = false := by simp; omega
  have n5 : (k != 5) = true := by simp; omega
  have n6 : (k != 6) = true := by simp; omega
  clear hf hc hk
  go_enter Tryd.func19, Tryd.ntmps19
  go_wp2_with fail
  refine ((unhide H) _).mono ?_
  rintro e w1 ⟨rfl, rfl⟩
  go_wp2
  go_ret
  exact ⟨rfl, (Below.refl _ _).alloc (Nat.le_refl _) _⟩

set_option maxRecDepth 100000 in
set_option maxHeartbeats 1000000 in
theorem fault_list (a b t : ByteArray) (w : World) :
    Calls Tryd.prog 19 #[.agg #[.int .i64 6, .string a, .string b, .string t]] w
      fun e w' => e = .returned (.int .i64 (checkI ⟨6, a, b, t⟩)) ∧ Below w.heap.size w w' := by
  have H : Hid (∀ W : World, Calls Tryd.prog 30 #[.int .i64 6] W fun e w' => e = .returned (.bool false) ∧ w' = W) := fun W => IsChange_any 6 W
  cases ha : a.toList.isEmpty <;> cases hb : b.toList.isEmpty <;> cases ht : t.toList.isEmpty
  all_goals
    have hf : checkI ⟨6, a, b, t⟩ = if a.toList.isEmpty = false ∨ b.toList.isEmpty = false ∨ t.toList.isEmpty = false then 3 else 0 := by simp [checkI, formedB, namedB, emptyB, ha, hb, ht]
    rw [hf]
    simp only [ha, hb, ht, reduceIte, reduceCtorEq, true_or, or_true, false_or, or_false]
    clear hf
    go_enter Tryd.func19, Tryd.ntmps19
    go_wp2_with fail
    refine ((unhide H) _).mono ?_
    rintro e w1 ⟨rfl, rfl⟩
    go_wp2
    go_ret
    exact ⟨rfl, (Below.refl _ _).alloc (Nat.le_refl _) _⟩

set_option maxRecDepth 100000 in
set_option maxHeartbeats 1000000 in
theorem fault_plain (k : Int) (a b t : ByteArray) (w : World) (hk : k = 1 ∨ k = 2 ∨ k = 5) (hs : a.size ≤ maxLen) :
    Calls Tryd.prog 19 #[.agg #[.int .i64 k, .string a, .string b, .string t]] w
      fun e w' => e = .returned (.int .i64 (checkI ⟨k, a, b, t⟩)) ∧ Below w.heap.size w w' := by
  obtain ⟨na, hna⟩ : ∃ na, nameB a = na := ⟨_, rfl⟩
  have H : Hid (∀ W : World, Calls Tryd.prog 30 #[.int .i64 k] W fun e w' => e = .returned (.bool (changesB k)) ∧ w' = W) := fun W => IsChange_any k W
  have HN : Hid (∀ W : World, Calls Tryd.prog 31 #[.string a] W fun e w' => e = .returned (.bool na) ∧ w' = W) := fun W => by have := IsName_any a W hs; rwa [hna] at this
  have e6 : (k == 6) = false := by rcases hk with rfl | rfl | rfl <;> rfl
  have e3 : (k == 3) = false := by rcases hk with rfl | rfl | rfl <;> rfl
  have e4 : (k == 4) = false := by rcases hk with rfl | rfl | rfl <;> rfl
  have hfb : formedB ⟨k, a, b, t⟩ = (b.toList.isEmpty && t.toList.isEmpty) := by rcases hk with rfl | rfl | rfl <;> simp [formedB, emptyB]
  have hnb : namedB ⟨k, a, b, t⟩ = na := by rcases hk with rfl | rfl | rfl <;> simp [namedB, hna]
  have hf : checkI ⟨k, a, b, t⟩ = if (b.toList.isEmpty && t.toList.isEmpty) = false then 3 else if na = false then 2 else 0 := by
    unfold checkI
    rw [hfb, hnb, if_neg (by show ¬ (k < 1 ∨ 6 < k); omega)]
    split
    · rfl
    split
    · rfl
    rw [if_neg (by show ¬ (k = 4 ∧ _); omega)]
  rw [hf]
  clear hf hfb hnb hna hs
  rcases hk with rfl | rfl | rfl
  all_goals
    cases hb : b.toList.isEmpty <;> cases ht : t.toList.isEmpty
    · go_enter Tryd.func19, Tryd.ntmps19
      go_wp2_with fail
      refine ((unhide H) _).mono ?_
      rintro e w1 ⟨rfl, rfl⟩
      go_wp2
      go_ret
      exact ⟨rfl, (Below.refl _ _).alloc (Nat.le_refl _) _⟩
    · go_enter Tryd.func19, Tryd.ntmps19
      go_wp2_with fail
      refine ((unhide H) _).mono ?_
      rintro e w1 ⟨rfl, rfl⟩
      go_wp2
      go_ret
      exact ⟨rfl, (Below.refl _ _).alloc (Nat.le_refl _) _⟩
    · go_enter Tryd.func19, Tryd.ntmps19
      go_wp2_with fail
      refine ((unhide H) _).mono ?_
      rintro e w1 ⟨rfl, rfl⟩
      go_wp2
      go_ret
      exact ⟨rfl, (Below.refl _ _).alloc (Nat.le_refl _) _⟩
    · cases na
      all_goals
        go_enter Tryd.func19, Tryd.ntmps19
        go_wp2_with fail
        refine ((unhide H) _).mono ?_
        rintro e w1 ⟨rfl, rfl⟩
        go_wp2_with fail
        refine ((unhide HN) _).mono ?_
        rintro e w1 ⟨rfl, rfl⟩
        go_wp2
        go_ret
        exact ⟨rfl, (Below.refl _ _).alloc (Nat.le_refl _) _⟩

set_option maxRecDepth 100000 in
set_option maxHeartbeats 1000000 in
theorem fault_rename (a b t : ByteArray) (w : World) (hs : a.size ≤ maxLen) (hs2 : b.size ≤ maxLen) :
    Calls Tryd.prog 19 #[.agg #[.int .i64 3, .string a, .string b, .string t]] w
      fun e w' => e = .returned (.int .i64 (checkI ⟨3, a, b, t⟩)) ∧ Below w.heap.size w w' := by
  obtain ⟨na, hna⟩ : ∃ na, nameB a = na := ⟨_, rfl⟩
  obtain ⟨nb, hnb⟩ : ∃ nb, nameB b = nb := ⟨_, rfl⟩
  have H : Hid (∀ W : World, Calls Tryd.prog 30 #[.int .i64 3] W fun e w' => e = .returned (.bool true) ∧ w' = W) := fun W => IsChange_any 3 W
  have HN : Hid (∀ W : World, Calls Tryd.prog 31 #[.string a] W fun e w' => e = .returned (.bool na) ∧ w' = W) := fun W => by have := IsName_any a W hs; rwa [hna] at this
  have HB : Hid (∀ W : World, Calls Tryd.prog 31 #[.string b] W fun e w' => e = .returned (.bool nb) ∧ w' = W) := fun W => by have := IsName_any b W hs2; rwa [hnb] at this
  have hf : checkI ⟨3, a, b, t⟩ = if t.toList.isEmpty = false then 3 else if na = false then 2 else if nb = false then 2 else 0 := by
    simp [checkI, formedB, namedB, emptyB, hna, hnb]
    cases t.toList.isEmpty <;> cases na <;> cases nb <;> simp
  rw [hf]
  clear hf hna hnb hs hs2
  cases ht : t.toList.isEmpty
  · go_enter Tryd.func19, Tryd.ntmps19
    go_wp2_with fail
    refine ((unhide H) _).mono ?_
    rintro e w1 ⟨rfl, rfl⟩
    go_wp2
    go_ret
    exact ⟨rfl, (Below.refl _ _).alloc (Nat.le_refl _) _⟩
  cases na
  · go_enter Tryd.func19, Tryd.ntmps19
    go_wp2_with fail
    refine ((unhide H) _).mono ?_
    rintro e w1 ⟨rfl, rfl⟩
    go_wp2_with fail
    refine ((unhide HN) _).mono ?_
    rintro e w1 ⟨rfl, rfl⟩
    go_wp2
    go_ret
    exact ⟨rfl, (Below.refl _ _).alloc (Nat.le_refl _) _⟩
  cases nb
  all_goals
    go_enter Tryd.func19, Tryd.ntmps19
    go_wp2_with fail
    refine ((unhide H) _).mono ?_
    rintro e w1 ⟨rfl, rfl⟩
    go_wp2_with fail
    refine ((unhide HN) _).mono ?_
    rintro e w1 ⟨rfl, rfl⟩
    go_wp2_with fail
    refine ((unhide HB) _).mono ?_
    rintro e w1 ⟨rfl, rfl⟩
    go_wp2
    go_ret
    exact ⟨rfl, (Below.refl _ _).alloc (Nat.le_refl _) _⟩

set_option maxRecDepth 100000 in
set_option maxHeartbeats 1000000 in
theorem fault_append (a b t : ByteArray) (w : World) (hs : a.size ≤ maxLen) (hst : t.size ≤ maxLen) :
    Calls Tryd.prog 19 #[.agg #[.int .i64 4, .string a, .string b, .string t]] w
      fun e w' => e = .returned (.int .i64 (checkI ⟨4, a, b, t⟩)) ∧ Below w.heap.size w w' := by
  unfold maxLen at hst
  obtain ⟨na, hna⟩ : ∃ na, nameB a = na := ⟨_, rfl⟩
  obtain ⟨nt, hnt⟩ : ∃ nt, textB t = nt := ⟨_, rfl⟩
  have H : Hid (∀ W : World, Calls Tryd.prog 30 #[.int .i64 4] W fun e w' => e = .returned (.bool true) ∧ w' = W) := fun W => IsChange_any 4 W
  have HN : Hid (∀ W : World, Calls Tryd.prog 31 #[.string a] W fun e w' => e = .returned (.bool na) ∧ w' = W) := fun W => by have := IsName_any a W hs; rwa [hna] at this
  have hf : checkI ⟨4, a, b, t⟩ = if b.toList.isEmpty = false then 3 else if na = false then 2 else if nt = false then 4 else 0 := by
    simp [checkI, formedB, namedB, emptyB, hna, hnt]
  rw [hf]
  clear hf hna hs
  cases hb : b.toList.isEmpty
  · clear hnt hst
    go_enter Tryd.func19, Tryd.ntmps19
    go_wp2_with fail
    refine ((unhide H) _).mono ?_
    rintro e w1 ⟨rfl, rfl⟩
    go_wp2
    go_ret
    exact ⟨rfl, (Below.refl _ _).alloc (Nat.le_refl _) _⟩
  cases na
  · clear hnt hst
    go_enter Tryd.func19, Tryd.ntmps19
    go_wp2_with fail
    refine ((unhide H) _).mono ?_
    rintro e w1 ⟨rfl, rfl⟩
    go_wp2_with fail
    refine ((unhide HN) _).mono ?_
    rintro e w1 ⟨rfl, rfl⟩
    go_wp2
    go_ret
    exact ⟨rfl, (Below.refl _ _).alloc (Nat.le_refl _) _⟩
  by_cases h1 : (1 : Int) ≤ (t.size : Int)
  · by_cases h2 : (t.size : Int) ≤ 8
    · have hlen : t.data.toList.length = t.size := by rw [Array.length_toList]; rfl
      obtain ⟨rr, HR⟩ : ∃ rr, Hid (t.data.toList.any (outB 32 126) = rr) := ⟨_, rfl⟩
      have hf : nt = !rr := by rw [← hnt, textB, withinB, HR.out]; simp [h1, h2]
      subst hf
      obtain ⟨vv, HV⟩ : ∃ vv : Int, Hid ((if rr = true then (4 : Int) else 0) = vv) := ⟨_, rfl⟩
      have hg : (if true = false then (3 : Int) else if true = false then 2 else if (!rr) = false then 4 else 0) = vv := by rw [← HV.out]; cases rr <;> rfl
      rw [hg]
      clear hnt hg
      go_enter Tryd.func19, Tryd.ntmps19
      go_wp2_with fail
      refine ((unhide H) _).mono ?_
      rintro e w1 ⟨rfl, rfl⟩
      go_wp2_with fail
      refine ((unhide HN) _).mono ?_
      rintro e w1 ⟨rfl, rfl⟩
      go_wp2
      go_loop [3] (fun i => ∃ k : Nat, k ≤ t.size ∧ i = .int .i64 k ∧ Hid ((t.data.toList.take k).any (outB 32 126) = false)) (fun i => t.size - (intOf i).toNat)
      case atStart => exact ⟨0, Nat.zero_le _, rfl, by simp [Hid]⟩
      case round =>
        obtain ⟨k, hk, rfl, HA⟩ := hrel
        by_cases hlt : k < t.size
        · have hx : t.data.toList[k]? = some t[k] := by rw [List.getElem?_eq_getElem (by omega)]; rfl
          have HX := hide hx
          clear hx
          by_cases hb1 : (t[k].toNat : Int) < 32
          · have HQ : Hid (outB 32 126 t[k] = true) := by simp [Hid, outB, hb1]
            go_wp2
            go_ret
            refine ⟨?_, (Below.refl _ _).alloc (Nat.le_refl _) _⟩
            have h3 : t.data.toList.any (outB 32 126) = true := by
              rw [List.any_eq_true]
              exact ⟨_, List.mem_of_getElem? HX.out, HQ.out⟩
            rw [← HV.out, ← HR.out, h3]
            rfl
          · by_cases hb2 : (126 : Int) < (t[k].toNat : Int)
            · have HQ : Hid (outB 32 126 t[k] = true) := by simp [Hid, outB, hb2]
              go_wp2
              go_ret
              refine ⟨?_, (Below.refl _ _).alloc (Nat.le_refl _) _⟩
              have h3 : t.data.toList.any (outB 32 126) = true := by
                rw [List.any_eq_true]
                exact ⟨_, List.mem_of_getElem? HX.out, HQ.out⟩
              rw [← HV.out, ← HR.out, h3]
              rfl
            · have HQ : Hid (outB 32 126 t[k] = false) := by simp only [Hid, outB, hb1, hb2, decide_false, Bool.or_false]
              go_wp2
              go_round
              case rel => exact ⟨k + 1, by omega, by go_num, by rw [Hid, any_take_succ _ _ _ _ HX.out, HA.out, HQ.out]; rfl⟩
              case measure => simp [intOf]; omega
        · have : k = t.size := by omega
          subst this
          go_wp2
          go_ret
          refine ⟨?_, (Below.refl _ _).alloc (Nat.le_refl _) _⟩
          have h3 := HA.out
          rw [List.take_of_length_le (by omega)] at h3
          rw [← HV.out, ← HR.out, h3]
          rfl
    · have hf : nt = false := by rw [← hnt]; simp [textB, withinB, h2]
      subst hf
      clear hnt
      go_enter Tryd.func19, Tryd.ntmps19
      go_wp2_with fail
      refine ((unhide H) _).mono ?_
      rintro e w1 ⟨rfl, rfl⟩
      go_wp2_with fail
      refine ((unhide HN) _).mono ?_
      rintro e w1 ⟨rfl, rfl⟩
      go_wp2
      go_ret
      exact ⟨rfl, (Below.refl _ _).alloc (Nat.le_refl _) _⟩
  · have hf : nt = false := by rw [← hnt]; simp [textB, withinB, h1]
    subst hf
    clear hnt
    go_enter Tryd.func19, Tryd.ntmps19
    go_wp2_with fail
    refine ((unhide H) _).mono ?_
    rintro e w1 ⟨rfl, rfl⟩
    go_wp2_with fail
    refine ((unhide HN) _).mono ?_
    rintro e w1 ⟨rfl, rfl⟩
    go_wp2
    go_ret
    exact ⟨rfl, (Below.refl _ _).alloc (Nat.le_refl _) _⟩

theorem CallFault_any (k : Int) (a b t : ByteArray) (w : World) (ha : a.size ≤ maxLen) (hb : b.size ≤ maxLen) (ht : t.size ≤ maxLen) :
    Calls Tryd.prog 19 #[.agg #[.int .i64 k, .string a, .string b, .string t]] w
      fun e w' => e = .returned (.int .i64 (checkI ⟨k, a, b, t⟩)) ∧ Below w.heap.size w w' := by
  by_cases hk : k < 1 ∨ 6 < k
  · exact fault_other k a b t w hk
  by_cases h1 : k = 1 ∨ k = 2 ∨ k = 5
  · exact fault_plain k a b t w h1 ha
  have h2 : k = 3 ∨ k = 4 ∨ k = 6 := by omega
  rcases h2 with rfl | rfl | rfl
  · exact fault_rename a b t w ha hb
  · exact fault_append a b t w ha ht
  · exact fault_list a b t w

end Go.Proofs.YtkbdaiopahmfiacDoor

namespace Go.Proofs.YtkbdaiopahmfiacDoor
open Go.RowKit
set_option linter.unusedSimpArgs false
set_option linter.unusedVariables false

theorem below_drew (w : World) : Below w.heap.size w w.drew := ⟨rfl, rfl, rfl, Nat.le_refl _, fun _ _ => rfl⟩
end Go.Proofs.YtkbdaiopahmfiacDoor

namespace Go.Proofs.YtkbdaiopahmfiacDoor
open Go.RowKit
set_option linter.unusedSimpArgs false
set_option linter.unusedVariables false

def r0 : ARec := ⟨1, 7, ⟨3, ⟨#[97]⟩, ⟨#[98, 99]⟩, ⟨#[]⟩⟩, 6, ⟨#[]⟩⟩
end Go.Proofs.YtkbdaiopahmfiacDoor

namespace Go.Proofs.YtkbdaiopahmfiacDoor
open Go.RowKit
set_option linter.unusedSimpArgs false
set_option linter.unusedVariables false

theorem two {w : World} {b : Nat} {x0 x1 : Value} {e : TypeId} (h : w.heap[b]? = some (.cells #[x0, x1] e (0, 0))) :
    (w.cell? ⟨b, 0, none⟩ = some x0 ∧ w.cell? ⟨b, 1, none⟩ = some x1) ∧ ∀ j, w.frozen? ⟨b, j, none⟩ = false := by
  refine ⟨⟨?_, ?_⟩, fun j => frozen_of_row w b j _ _ h⟩ <;> rw [cell_of_row w b _ _ _ _ h] <;> rfl
theorem four {w : World} {b : Nat} {x0 x1 x2 x3 : Value} {e : TypeId} (h : w.heap[b]? = some (.cells #[x0, x1, x2, x3] e (0, 0))) :
    (w.cell? ⟨b, 0, none⟩ = some x0 ∧ w.cell? ⟨b, 1, none⟩ = some x1 ∧ w.cell? ⟨b, 2, none⟩ = some x2 ∧ w.cell? ⟨b, 3, none⟩ = some x3) ∧ ∀ j, w.frozen? ⟨b, j, none⟩ = false := by
  refine ⟨⟨?_, ?_, ?_, ?_⟩, fun j => frozen_of_row w b j _ _ h⟩ <;> rw [cell_of_row w b _ _ _ _ h] <;> rfl

end Go.Proofs.YtkbdaiopahmfiacDoor

namespace Go.Proofs.YtkbdaiopahmfiacDoor
open Go.RowKit
set_option linter.unusedSimpArgs false
set_option linter.unusedVariables false

theorem eql32 (c c' : ACall) (w : World) : (binOp .eql 23 (.agg (callCells c)) (.agg (callCells c'))).run Tryd.prog w = .ok (.bool (callB c c')) w := by
  have h := equal32 9998 c c' w
  rw [run_eql_struct, h]
  rfl

end Go.Proofs.YtkbdaiopahmfiacDoor

namespace Go.Proofs.YtkbdaiopahmfiacDoor
set_option linter.unusedVariables false

theorem opn0 { oi : Oper} {r : List Oper} : (List.toArray (oi :: r))[0]? = some oi := rfl
theorem opn1 {x0 oi : Oper} {r : List Oper} : (List.toArray (x0 :: oi :: r))[1]? = some oi := rfl
theorem opn2 {x0 x1 oi : Oper} {r : List Oper} : (List.toArray (x0 :: x1 :: oi :: r))[2]? = some oi := rfl
theorem opn3 {x0 x1 x2 oi : Oper} {r : List Oper} : (List.toArray (x0 :: x1 :: x2 :: oi :: r))[3]? = some oi := rfl
theorem opn4 {x0 x1 x2 x3 oi : Oper} {r : List Oper} : (List.toArray (x0 :: x1 :: x2 :: x3 :: oi :: r))[4]? = some oi := rfl
theorem opn5 {x0 x1 x2 x3 x4 oi : Oper} {r : List Oper} : (List.toArray (x0 :: x1 :: x2 :: x3 :: x4 :: oi :: r))[5]? = some oi := rfl
theorem opn6 {x0 x1 x2 x3 x4 x5 oi : Oper} {r : List Oper} : (List.toArray (x0 :: x1 :: x2 :: x3 :: x4 :: x5 :: oi :: r))[6]? = some oi := rfl
theorem opn7 {x0 x1 x2 x3 x4 x5 x6 oi : Oper} {r : List Oper} : (List.toArray (x0 :: x1 :: x2 :: x3 :: x4 :: x5 :: x6 :: oi :: r))[7]? = some oi := rfl
theorem opn8 {x0 x1 x2 x3 x4 x5 x6 x7 oi : Oper} {r : List Oper} : (List.toArray (x0 :: x1 :: x2 :: x3 :: x4 :: x5 :: x6 :: x7 :: oi :: r))[8]? = some oi := rfl
theorem opn9 {x0 x1 x2 x3 x4 x5 x6 x7 x8 oi : Oper} {r : List Oper} : (List.toArray (x0 :: x1 :: x2 :: x3 :: x4 :: x5 :: x6 :: x7 :: x8 :: oi :: r))[9]? = some oi := rfl
theorem opn10 {x0 x1 x2 x3 x4 x5 x6 x7 x8 x9 oi : Oper} {r : List Oper} : (List.toArray (x0 :: x1 :: x2 :: x3 :: x4 :: x5 :: x6 :: x7 :: x8 :: x9 :: oi :: r))[10]? = some oi := rfl
theorem opn11 {x0 x1 x2 x3 x4 x5 x6 x7 x8 x9 x10 oi : Oper} {r : List Oper} : (List.toArray (x0 :: x1 :: x2 :: x3 :: x4 :: x5 :: x6 :: x7 :: x8 :: x9 :: x10 :: oi :: r))[11]? = some oi := rfl
theorem opn12 {x0 x1 x2 x3 x4 x5 x6 x7 x8 x9 x10 x11 oi : Oper} {r : List Oper} : (List.toArray (x0 :: x1 :: x2 :: x3 :: x4 :: x5 :: x6 :: x7 :: x8 :: x9 :: x10 :: x11 :: oi :: r))[12]? = some oi := rfl
theorem opn13 {x0 x1 x2 x3 x4 x5 x6 x7 x8 x9 x10 x11 x12 oi : Oper} {r : List Oper} : (List.toArray (x0 :: x1 :: x2 :: x3 :: x4 :: x5 :: x6 :: x7 :: x8 :: x9 :: x10 :: x11 :: x12 :: oi :: r))[13]? = some oi := rfl
theorem opn14 {x0 x1 x2 x3 x4 x5 x6 x7 x8 x9 x10 x11 x12 x13 oi : Oper} {r : List Oper} : (List.toArray (x0 :: x1 :: x2 :: x3 :: x4 :: x5 :: x6 :: x7 :: x8 :: x9 :: x10 :: x11 :: x12 :: x13 :: oi :: r))[14]? = some oi := rfl
theorem opn15 {x0 x1 x2 x3 x4 x5 x6 x7 x8 x9 x10 x11 x12 x13 x14 oi : Oper} {r : List Oper} : (List.toArray (x0 :: x1 :: x2 :: x3 :: x4 :: x5 :: x6 :: x7 :: x8 :: x9 :: x10 :: x11 :: x12 :: x13 :: x14 :: oi :: r))[15]? = some oi := rfl
theorem opn16 {x0 x1 x2 x3 x4 x5 x6 x7 x8 x9 x10 x11 x12 x13 x14 x15 oi : Oper} {r : List Oper} : (List.toArray (x0 :: x1 :: x2 :: x3 :: x4 :: x5 :: x6 :: x7 :: x8 :: x9 :: x10 :: x11 :: x12 :: x13 :: x14 :: x15 :: oi :: r))[16]? = some oi := rfl
theorem opn17 {x0 x1 x2 x3 x4 x5 x6 x7 x8 x9 x10 x11 x12 x13 x14 x15 x16 oi : Oper} {r : List Oper} : (List.toArray (x0 :: x1 :: x2 :: x3 :: x4 :: x5 :: x6 :: x7 :: x8 :: x9 :: x10 :: x11 :: x12 :: x13 :: x14 :: x15 :: x16 :: oi :: r))[17]? = some oi := rfl
theorem opn18 {x0 x1 x2 x3 x4 x5 x6 x7 x8 x9 x10 x11 x12 x13 x14 x15 x16 x17 oi : Oper} {r : List Oper} : (List.toArray (x0 :: x1 :: x2 :: x3 :: x4 :: x5 :: x6 :: x7 :: x8 :: x9 :: x10 :: x11 :: x12 :: x13 :: x14 :: x15 :: x16 :: x17 :: oi :: r))[18]? = some oi := rfl
theorem opn19 {x0 x1 x2 x3 x4 x5 x6 x7 x8 x9 x10 x11 x12 x13 x14 x15 x16 x17 x18 oi : Oper} {r : List Oper} : (List.toArray (x0 :: x1 :: x2 :: x3 :: x4 :: x5 :: x6 :: x7 :: x8 :: x9 :: x10 :: x11 :: x12 :: x13 :: x14 :: x15 :: x16 :: x17 :: x18 :: oi :: r))[19]? = some oi := rfl
theorem opn20 {x0 x1 x2 x3 x4 x5 x6 x7 x8 x9 x10 x11 x12 x13 x14 x15 x16 x17 x18 x19 oi : Oper} {r : List Oper} : (List.toArray (x0 :: x1 :: x2 :: x3 :: x4 :: x5 :: x6 :: x7 :: x8 :: x9 :: x10 :: x11 :: x12 :: x13 :: x14 :: x15 :: x16 :: x17 :: x18 :: x19 :: oi :: r))[20]? = some oi := rfl
theorem opn21 {x0 x1 x2 x3 x4 x5 x6 x7 x8 x9 x10 x11 x12 x13 x14 x15 x16 x17 x18 x19 x20 oi : Oper} {r : List Oper} : (List.toArray (x0 :: x1 :: x2 :: x3 :: x4 :: x5 :: x6 :: x7 :: x8 :: x9 :: x10 :: x11 :: x12 :: x13 :: x14 :: x15 :: x16 :: x17 :: x18 :: x19 :: x20 :: oi :: r))[21]? = some oi := rfl
theorem opn22 {x0 x1 x2 x3 x4 x5 x6 x7 x8 x9 x10 x11 x12 x13 x14 x15 x16 x17 x18 x19 x20 x21 oi : Oper} {r : List Oper} : (List.toArray (x0 :: x1 :: x2 :: x3 :: x4 :: x5 :: x6 :: x7 :: x8 :: x9 :: x10 :: x11 :: x12 :: x13 :: x14 :: x15 :: x16 :: x17 :: x18 :: x19 :: x20 :: x21 :: oi :: r))[22]? = some oi := rfl
theorem opn23 {x0 x1 x2 x3 x4 x5 x6 x7 x8 x9 x10 x11 x12 x13 x14 x15 x16 x17 x18 x19 x20 x21 x22 oi : Oper} {r : List Oper} : (List.toArray (x0 :: x1 :: x2 :: x3 :: x4 :: x5 :: x6 :: x7 :: x8 :: x9 :: x10 :: x11 :: x12 :: x13 :: x14 :: x15 :: x16 :: x17 :: x18 :: x19 :: x20 :: x21 :: x22 :: oi :: r))[23]? = some oi := rfl
theorem opn24 {x0 x1 x2 x3 x4 x5 x6 x7 x8 x9 x10 x11 x12 x13 x14 x15 x16 x17 x18 x19 x20 x21 x22 x23 oi : Oper} {r : List Oper} : (List.toArray (x0 :: x1 :: x2 :: x3 :: x4 :: x5 :: x6 :: x7 :: x8 :: x9 :: x10 :: x11 :: x12 :: x13 :: x14 :: x15 :: x16 :: x17 :: x18 :: x19 :: x20 :: x21 :: x22 :: x23 :: oi :: r))[24]? = some oi := rfl
theorem opn25 {x0 x1 x2 x3 x4 x5 x6 x7 x8 x9 x10 x11 x12 x13 x14 x15 x16 x17 x18 x19 x20 x21 x22 x23 x24 oi : Oper} {r : List Oper} : (List.toArray (x0 :: x1 :: x2 :: x3 :: x4 :: x5 :: x6 :: x7 :: x8 :: x9 :: x10 :: x11 :: x12 :: x13 :: x14 :: x15 :: x16 :: x17 :: x18 :: x19 :: x20 :: x21 :: x22 :: x23 :: x24 :: oi :: r))[25]? = some oi := rfl
end Go.Proofs.YtkbdaiopahmfiacDoor

namespace Go.Proofs.YtkbdaiopahmfiacDoor
open Go.RowKit
set_option linter.unusedSimpArgs false
set_option linter.unusedVariables false

set_option maxHeartbeats 400000 in
theorem SClone_any (s : ByteArray) (w : World) (hs : s.size ≤ 281474976710656) :
    Calls Tryd.prog 22 #[.string s] w fun e w' => e = .returned (.string s) ∧ Below w.heap.size w w' := by
  have hcon := Tryd.stringslite_Clone s w (by omega)
  go_enter Tryd.func22, Tryd.ntmps22
  go_wp2_with (go_at_call 34; refine hcon.mono ?_; rintro e w' ⟨rfl, hb'⟩)
  go_ret
  exact ⟨rfl, hb'⟩

end Go.Proofs.YtkbdaiopahmfiacDoor

namespace Go.Proofs.YtkbdaiopahmfiacDoor
open Go.RowKit
set_option linter.unusedSimpArgs false
set_option linter.unusedVariables false

/-- A text of a packet's block set to what it is. -/
theorem set_same {w : World} {b : Nat} {C : Array Value} {e : TypeId} {j : Nat} {x : Value} (h : w.heap[b]? = some (.cells C e (0, 0))) (hx : C[j]? = some x) : (w.setCell ⟨b, j, none⟩ x).heap[b]? = some (.cells C e (0, 0)) := by
  rw [heap_setCell_same h x]
  congr 2
  obtain ⟨hj, hx⟩ := Array.getElem?_eq_some_iff.1 hx
  apply Array.ext
  · simp
  · intro i h1 h2
    rw [Array.getElem_setIfInBounds]
    split
    · rename_i hi; subst hi; exact hx.symm
    · rfl
theorem below_set {n : Nat} {w0 w : World} {b j : Nat} {x : Value} (h : Below n w0 w) (hb : n ≤ b) : Below n w0 (w.setCell ⟨b, j, none⟩ x) :=
  ⟨h.os, h.tape, h.output, by rw [setCell_size]; exact h.size, fun k hk => (Below.heap_setCell w _ x k (fun e => by simp at e; omega)).trans (h.block k hk)⟩

end Go.Proofs.YtkbdaiopahmfiacDoor

namespace Go.Proofs.YtkbdaiopahmfiacDoor
open Go.RowKit
set_option linter.unusedSimpArgs false
set_option linter.unusedVariables false

def SmallC (x : ACall) : Prop := x.name.size ≤ 281474976710656 ∧ x.dst.size ≤ 281474976710656 ∧ x.text.size ≤ 281474976710656
section
variable {t : TypeId} {N : Nat} {w w' : World} {X : Nat} {f f' : Value → Array Value} {v : Value} {rs : List ARec}
end

end Go.Proofs.YtkbdaiopahmfiacDoor

namespace Go.Proofs.YtkbdaiopahmfiacDoor
open Go.RowKit
set_option linter.unusedSimpArgs false
set_option linter.unusedVariables false

theorem fourK {w : World} {b : Nat} {x0 x1 x2 x3 : Value} {e : TypeId} (h : w.heap[b]? = some (.cells #[x0, x1, x2, x3] e (0, 0))) :
    w.cell? ⟨b, 0, none⟩ = some x0 ∧ w.cell? ⟨b, 1, none⟩ = some x1 ∧ w.cell? ⟨b, 2, none⟩ = some x2 ∧ w.cell? ⟨b, 3, none⟩ = some x3 ∧ ∀ j, w.frozen? ⟨b, j, none⟩ = false := by
  refine ⟨?_, ?_, ?_, ?_, fun j => frozen_of_row w b j _ _ h⟩ <;> rw [cell_of_row w b _ _ _ _ h] <;> rfl
theorem twoK {w : World} {b : Nat} {x0 x1 : Value} {e : TypeId} (h : w.heap[b]? = some (.cells #[x0, x1] e (0, 0))) :
    w.cell? ⟨b, 0, none⟩ = some x0 ∧ w.cell? ⟨b, 1, none⟩ = some x1 ∧ ∀ j, w.frozen? ⟨b, j, none⟩ = false := by
  refine ⟨?_, ?_, fun j => frozen_of_row w b j _ _ h⟩ <;> rw [cell_of_row w b _ _ _ _ h] <;> rfl

end Go.Proofs.YtkbdaiopahmfiacDoor

namespace Go.Proofs.YtkbdaiopahmfiacDoor
open Go.RowKit
set_option linter.unusedSimpArgs false
set_option linter.unusedVariables false

/-- The words' table lies in memory. -/
structure WTab (w : World) : Prop where
  c0 : w.cell? ⟨0, 0, none⟩ = some (.string ⟨#[109, 97, 107, 101]⟩)
  c1 : w.cell? ⟨0, 1, none⟩ = some (.string ⟨#[114, 101, 109, 111, 118, 101]⟩)
  c2 : w.cell? ⟨0, 2, none⟩ = some (.string ⟨#[114, 101, 110, 97, 109, 101]⟩)
  c3 : w.cell? ⟨0, 3, none⟩ = some (.string ⟨#[97, 112, 112, 101, 110, 100]⟩)
  c4 : w.cell? ⟨0, 4, none⟩ = some (.string ⟨#[114, 101, 97, 100]⟩)
  c5 : w.cell? ⟨0, 5, none⟩ = some (.string ⟨#[108, 105, 115, 116]⟩)
theorem cell_lt {w : World} {a : Addr} {v : Value} (h : w.cell? a = some v) : a.block < w.heap.size := by
  unfold World.cell? at h
  split at h
  · rename_i he; exact (Array.getElem?_eq_some_iff.1 he).1
  · cases h
theorem cell_on {w w' : World} {a : Addr} {v : Value} (hb : Below w.heap.size w w') (h : w.cell? a = some v) : w'.cell? a = some v := (hb.cell (cell_lt h)).trans h
theorem WTab.below {w w' : World} (h : WTab w) (hb : Below w.heap.size w w') : WTab w' :=
  ⟨cell_on hb h.c0, cell_on hb h.c1, cell_on hb h.c2, cell_on hb h.c3, cell_on hb h.c4, cell_on hb h.c5⟩

theorem str_eq (l : List UInt8) (s : ByteArray) : (l == s.toList) = decide (s.data.toList = l) := by
  rw [toList_data]
  by_cases h : s.data.toList = l
  · simp [h]
  · have : l ≠ s.data.toList := fun e => h e.symm
    simp [h, this]

theorem widx0 (w : World) : (Instr.index 45 (.agg #[.string ⟨#[109, 97, 107, 101]⟩, .string ⟨#[114, 101, 109, 111, 118, 101]⟩, .string ⟨#[114, 101, 110, 97, 109, 101]⟩, .string ⟨#[97, 112, 112, 101, 110, 100]⟩, .string ⟨#[114, 101, 97, 100]⟩, .string ⟨#[108, 105, 115, 116]⟩]) (.int .i64 0)).run Tryd.prog w = .ok (.string ⟨#[109, 97, 107, 101]⟩) w := by kernel_rfl
theorem widx1 (w : World) : (Instr.index 45 (.agg #[.string ⟨#[109, 97, 107, 101]⟩, .string ⟨#[114, 101, 109, 111, 118, 101]⟩, .string ⟨#[114, 101, 110, 97, 109, 101]⟩, .string ⟨#[97, 112, 112, 101, 110, 100]⟩, .string ⟨#[114, 101, 97, 100]⟩, .string ⟨#[108, 105, 115, 116]⟩]) (.int .i64 1)).run Tryd.prog w = .ok (.string ⟨#[114, 101, 109, 111, 118, 101]⟩) w := by kernel_rfl
theorem widx2 (w : World) : (Instr.index 45 (.agg #[.string ⟨#[109, 97, 107, 101]⟩, .string ⟨#[114, 101, 109, 111, 118, 101]⟩, .string ⟨#[114, 101, 110, 97, 109, 101]⟩, .string ⟨#[97, 112, 112, 101, 110, 100]⟩, .string ⟨#[114, 101, 97, 100]⟩, .string ⟨#[108, 105, 115, 116]⟩]) (.int .i64 2)).run Tryd.prog w = .ok (.string ⟨#[114, 101, 110, 97, 109, 101]⟩) w := by kernel_rfl
theorem widx3 (w : World) : (Instr.index 45 (.agg #[.string ⟨#[109, 97, 107, 101]⟩, .string ⟨#[114, 101, 109, 111, 118, 101]⟩, .string ⟨#[114, 101, 110, 97, 109, 101]⟩, .string ⟨#[97, 112, 112, 101, 110, 100]⟩, .string ⟨#[114, 101, 97, 100]⟩, .string ⟨#[108, 105, 115, 116]⟩]) (.int .i64 3)).run Tryd.prog w = .ok (.string ⟨#[97, 112, 112, 101, 110, 100]⟩) w := by kernel_rfl
theorem widx4 (w : World) : (Instr.index 45 (.agg #[.string ⟨#[109, 97, 107, 101]⟩, .string ⟨#[114, 101, 109, 111, 118, 101]⟩, .string ⟨#[114, 101, 110, 97, 109, 101]⟩, .string ⟨#[97, 112, 112, 101, 110, 100]⟩, .string ⟨#[114, 101, 97, 100]⟩, .string ⟨#[108, 105, 115, 116]⟩]) (.int .i64 4)).run Tryd.prog w = .ok (.string ⟨#[114, 101, 97, 100]⟩) w := by kernel_rfl
theorem widx5 (w : World) : (Instr.index 45 (.agg #[.string ⟨#[109, 97, 107, 101]⟩, .string ⟨#[114, 101, 109, 111, 118, 101]⟩, .string ⟨#[114, 101, 110, 97, 109, 101]⟩, .string ⟨#[97, 112, 112, 101, 110, 100]⟩, .string ⟨#[114, 101, 97, 100]⟩, .string ⟨#[108, 105, 115, 116]⟩]) (.int .i64 5)).run Tryd.prog w = .ok (.string ⟨#[108, 105, 115, 116]⟩) w := by kernel_rfl
set_option maxRecDepth 100000 in
set_option maxHeartbeats 4000000 in
theorem kindOf_any (s : ByteArray) (w : World) (hw : WTab w) :
    Calls Tryd.prog 32 #[.string s] w fun e w' => e = .returned (.int .i64 (kindL s.data.toList)) ∧ w' = w := by
  obtain ⟨c0, c1, c2, c3, c4, c5⟩ := hw
  obtain ⟨r, HR⟩ : ∃ r, Hid (kindL s.data.toList = r) := ⟨_, rfl⟩
  rw [unhide HR]
  have HE := hide (str_eq · s)
  go_enter Tryd.func32, Tryd.ntmps32
  go_wp2
  clear c0 c1 c2 c3 c4 c5
  go_loop [6] (fun i => ∃ k : Nat, k ≤ 6 ∧ i = .int .i64 k ∧ Hid (s.data.toList ∉ [wMake, wRemove, wRename, wAppend, wRead, wList].take k)) (fun i => 6 - (intOf i).toNat)
  case atStart => exact ⟨0, Nat.zero_le _, rfl, by show _ ∉ _; simp⟩
  case round =>
    obtain ⟨q, hq, rfl, HA⟩ := hrel
    have hq' : q = 0 ∨ q = 1 ∨ q = 2 ∨ q = 3 ∨ q = 4 ∨ q = 5 ∨ q = 6 := by omega
    rcases hq' with rfl | rfl | rfl | rfl | rfl | rfl | rfl
    · have hi := widx0 w
      by_cases hx : s.data.toList = wMake
      · have he := (unhide HE) wMake
        rw [decide_eq_true hx] at he
        unfold wMake at he
        have HK : Hid (r = 1) := by show r = 1; rw [← show kindL s.data.toList = r from unhide HR, hx]; rfl
        clear hx
        go_wp2
        go_ret
        exact ⟨by rw [unhide HK]; rfl, rfl⟩
      · have he := (unhide HE) wMake
        rw [decide_eq_false hx] at he
        unfold wMake at he
        have HA2 : Hid (s.data.toList ∉ [wMake, wRemove, wRename, wAppend, wRead, wList].take 1) := by
          have hn := unhide HA
          show _ ∉ _
          simp only [List.take, List.mem_cons, List.not_mem_nil, or_false, not_or] at hn ⊢
          simp only [hn, hx, not_false_eq_true, and_self]
        clear hx
        go_wp2
        go_round
        case rel => exact ⟨1, by omega, by go_num, HA2⟩
        case measure => simp [intOf]
    · have hi := widx1 w
      by_cases hx : s.data.toList = wRemove
      · have he := (unhide HE) wRemove
        rw [decide_eq_true hx] at he
        unfold wRemove at he
        have HK : Hid (r = 2) := by show r = 2; rw [← show kindL s.data.toList = r from unhide HR, hx]; rfl
        clear hx
        go_wp2
        go_ret
        exact ⟨by rw [unhide HK]; rfl, rfl⟩
      · have he := (unhide HE) wRemove
        rw [decide_eq_false hx] at he
        unfold wRemove at he
        have HA2 : Hid (s.data.toList ∉ [wMake, wRemove, wRename, wAppend, wRead, wList].take 2) := by
          have hn := unhide HA
          show _ ∉ _
          simp only [List.take, List.mem_cons, List.not_mem_nil, or_false, not_or] at hn ⊢
          simp only [hn, hx, not_false_eq_true, and_self]
        clear hx
        go_wp2
        go_round
        case rel => exact ⟨2, by omega, by go_num, HA2⟩
        case measure => simp [intOf]
    · have hi := widx2 w
      by_cases hx : s.data.toList = wRename
      · have he := (unhide HE) wRename
        rw [decide_eq_true hx] at he
        unfold wRename at he
        have HK : Hid (r = 3) := by show r = 3; rw [← show kindL s.data.toList = r from unhide HR, hx]; rfl
        clear hx
        go_wp2
        go_ret
        exact ⟨by rw [unhide HK]; rfl, rfl⟩
      · have he := (unhide HE) wRename
        rw [decide_eq_false hx] at he
        unfold wRename at he
        have HA2 : Hid (s.data.toList ∉ [wMake, wRemove, wRename, wAppend, wRead, wList].take 3) := by
          have hn := unhide HA
          show _ ∉ _
          simp only [List.take, List.mem_cons, List.not_mem_nil, or_false, not_or] at hn ⊢
          simp only [hn, hx, not_false_eq_true, and_self]
        clear hx
        go_wp2
        go_round
        case rel => exact ⟨3, by omega, by go_num, HA2⟩
        case measure => simp [intOf]
    · have hi := widx3 w
      by_cases hx : s.data.toList = wAppend
      · have he := (unhide HE) wAppend
        rw [decide_eq_true hx] at he
        unfold wAppend at he
        have HK : Hid (r = 4) := by show r = 4; rw [← show kindL s.data.toList = r from unhide HR, hx]; rfl
        clear hx
        go_wp2
        go_ret
        exact ⟨by rw [unhide HK]; rfl, rfl⟩
      · have he := (unhide HE) wAppend
        rw [decide_eq_false hx] at he
        unfold wAppend at he
        have HA2 : Hid (s.data.toList ∉ [wMake, wRemove, wRename, wAppend, wRead, wList].take 4) := by
          have hn := unhide HA
          show _ ∉ _
          simp only [List.take, List.mem_cons, List.not_mem_nil, or_false, not_or] at hn ⊢
          simp only [hn, hx, not_false_eq_true, and_self]
        clear hx
        go_wp2
        go_round
        case rel => exact ⟨4, by omega, by go_num, HA2⟩
        case measure => simp [intOf]
    · have hi := widx4 w
      by_cases hx : s.data.toList = wRead
      · have he := (unhide HE) wRead
        rw [decide_eq_true hx] at he
        unfold wRead at he
        have HK : Hid (r = 5) := by show r = 5; rw [← show kindL s.data.toList = r from unhide HR, hx]; rfl
        clear hx
        go_wp2
        go_ret
        exact ⟨by rw [unhide HK]; rfl, rfl⟩
      · have he := (unhide HE) wRead
        rw [decide_eq_false hx] at he
        unfold wRead at he
        have HA2 : Hid (s.data.toList ∉ [wMake, wRemove, wRename, wAppend, wRead, wList].take 5) := by
          have hn := unhide HA
          show _ ∉ _
          simp only [List.take, List.mem_cons, List.not_mem_nil, or_false, not_or] at hn ⊢
          simp only [hn, hx, not_false_eq_true, and_self]
        clear hx
        go_wp2
        go_round
        case rel => exact ⟨5, by omega, by go_num, HA2⟩
        case measure => simp [intOf]
    · have hi := widx5 w
      by_cases hx : s.data.toList = wList
      · have he := (unhide HE) wList
        rw [decide_eq_true hx] at he
        unfold wList at he
        have HK : Hid (r = 6) := by show r = 6; rw [← show kindL s.data.toList = r from unhide HR, hx]; rfl
        clear hx
        go_wp2
        go_ret
        exact ⟨by rw [unhide HK]; rfl, rfl⟩
      · have he := (unhide HE) wList
        rw [decide_eq_false hx] at he
        unfold wList at he
        have HA2 : Hid (s.data.toList ∉ [wMake, wRemove, wRename, wAppend, wRead, wList].take 6) := by
          have hn := unhide HA
          show _ ∉ _
          simp only [List.take, List.mem_cons, List.not_mem_nil, or_false, not_or] at hn ⊢
          simp only [hn, hx, not_false_eq_true, and_self]
        clear hx
        go_wp2
        go_round
        case rel => exact ⟨6, by omega, by go_num, HA2⟩
        case measure => simp [intOf]
    · have HK : Hid (r = 0) := by
        show r = 0
        rw [← show kindL s.data.toList = r from unhide HR]
        have hn := unhide HA
        simp only [List.take, List.mem_cons, List.not_mem_nil, or_false, not_or] at hn
        unfold kindL
        rw [if_neg hn.1, if_neg hn.2.1, if_neg hn.2.2.1, if_neg hn.2.2.2.1, if_neg hn.2.2.2.2.1, if_neg hn.2.2.2.2.2]
      go_wp2
      go_ret
      exact ⟨by rw [unhide HK]; rfl, rfl⟩

end Go.Proofs.YtkbdaiopahmfiacDoor

namespace Go.Proofs.YtkbdaiopahmfiacDoor
open Go.RowKit
set_option linter.unusedSimpArgs false
set_option linter.unusedVariables false

/-- Where the words behind a kind's own lie in a call. -/
def offs (k : Int) : List Nat := if k = 1 ∨ k = 2 ∨ k = 5 then [1] else if k = 3 then [1, 2] else if k = 4 then [1, 3] else []
/-- A row of pointers into the call at block C. -/
def PAt (w : World) (lo : Nat) (a : Option Addr) (C : Nat) (O : List Nat) : Prop :=
  O = [] ∨ ∃ g cur, a = some ⟨g, 0, none⟩ ∧ lo ≤ g ∧ w.heap[g]? = some (.cells cur 49 (0, 0)) ∧ ∀ (j o : Nat), O[j]? = some o → cur[j]? = some (.pointer (some ⟨C, o, none⟩))

set_option maxRecDepth 100000 in
set_option maxHeartbeats 4000000 in
theorem parts_one (k : Int) (C : Nat) (w : World) (hk : k = 1 ∨ k = 2 ∨ k = 5) (h : w.cell? ⟨C, 0, none⟩ = some (.int .i64 k)) :
    Calls Tryd.prog 16 #[.pointer (some ⟨C, 0, none⟩)] w fun e w' => e = .returned (.slice (some ⟨w.heap.size, 0, none⟩) 1 1) ∧ w' = w.alloc (.cells #[.pointer (some ⟨C, 1, none⟩)] 49) := by
  rcases hk with rfl | rfl | rfl
  · go_enter Tryd.func16, Tryd.ntmps16
    go_wp2
    go_ret
    exact ⟨rfl, rfl⟩
  · go_enter Tryd.func16, Tryd.ntmps16
    go_wp2
    go_ret
    exact ⟨rfl, rfl⟩
  · go_enter Tryd.func16, Tryd.ntmps16
    go_wp2
    go_ret
    exact ⟨rfl, rfl⟩
set_option maxRecDepth 100000 in
set_option maxHeartbeats 4000000 in
theorem parts_none (k : Int) (C : Nat) (w : World) (hk : k = 0 ∨ k = 6) (h : w.cell? ⟨C, 0, none⟩ = some (.int .i64 k)) :
    Calls Tryd.prog 16 #[.pointer (some ⟨C, 0, none⟩)] w fun e w' => e = .returned (.slice none 0 0) ∧ w' = w := by
  rcases hk with rfl | rfl
  · go_enter Tryd.func16, Tryd.ntmps16
    go_wp2
    go_ret
    exact ⟨rfl, rfl⟩
  · go_enter Tryd.func16, Tryd.ntmps16
    go_wp2
    go_ret
    exact ⟨rfl, rfl⟩
set_option maxRecDepth 100000 in
set_option maxHeartbeats 4000000 in
theorem parts_ren (C : Nat) (w : World) (h : w.cell? ⟨C, 0, none⟩ = some (.int .i64 3)) :
    Calls Tryd.prog 16 #[.pointer (some ⟨C, 0, none⟩)] w fun e w' => e = .returned (.slice (some ⟨w.heap.size, 0, none⟩) 2 2) ∧ Below w.heap.size w w' ∧ w'.heap[w.heap.size]? = some (.cells #[.pointer (some ⟨C, 1, none⟩), .pointer (some ⟨C, 2, none⟩)] 49 (0, 0)) := by
  go_enter Tryd.func16, Tryd.ntmps16
  go_wp2
  go_region
  go_wp2
  go_ret
  exact ⟨rfl, (((Below.refl _ _).alloc (Nat.le_refl _) _)).drew, heap_alloc_new _ _⟩
set_option maxRecDepth 100000 in
set_option maxHeartbeats 4000000 in
theorem parts_app (C : Nat) (w : World) (h : w.cell? ⟨C, 0, none⟩ = some (.int .i64 4)) :
    Calls Tryd.prog 16 #[.pointer (some ⟨C, 0, none⟩)] w fun e w' => e = .returned (.slice (some ⟨w.heap.size, 0, none⟩) 2 2) ∧ Below w.heap.size w w' ∧ w'.heap[w.heap.size]? = some (.cells #[.pointer (some ⟨C, 1, none⟩), .pointer (some ⟨C, 3, none⟩)] 49 (0, 0)) := by
  go_enter Tryd.func16, Tryd.ntmps16
  go_wp2
  go_region
  go_wp2
  go_ret
  exact ⟨rfl, (((Below.refl _ _).alloc (Nat.le_refl _) _)).drew, heap_alloc_new _ _⟩
theorem parts_any (k : Int) (C : Nat) (w : World) (hk : 0 ≤ k ∧ k ≤ 6) (h : w.cell? ⟨C, 0, none⟩ = some (.int .i64 k)) :
    Calls Tryd.prog 16 #[.pointer (some ⟨C, 0, none⟩)] w fun e w' => ∃ a, e = .returned (.slice a (offs k).length (offs k).length) ∧ PAt w' w.heap.size a C (offs k) ∧ Below w.heap.size w w' := by
  have hk' : (k = 1 ∨ k = 2 ∨ k = 5) ∨ (k = 0 ∨ k = 6) ∨ k = 3 ∨ k = 4 := by omega
  rcases hk' with h1 | h1 | rfl | rfl
  · have eo : offs k = [1] := by rw [offs, if_pos h1]
    refine (parts_one k C w h1 h).mono ?_
    rintro e w' ⟨rfl, rfl⟩
    rw [eo]
    refine ⟨_, rfl, Or.inr ⟨_, _, rfl, Nat.le_refl _, heap_alloc_new _ _, ?_⟩, (Below.refl _ _).alloc (Nat.le_refl _) _⟩
    intro j o hj
    match j, hj with
    | 0, hj => simp at hj; subst hj; rfl
    | j + 1, hj => simp at hj
  · have eo : offs k = [] := by rcases h1 with rfl | rfl <;> rfl
    refine (parts_none k C w h1 h).mono ?_
    rintro e w' ⟨rfl, rfl⟩
    rw [eo]
    exact ⟨_, rfl, Or.inl rfl, Below.refl _ _⟩
  · refine (parts_ren C w h).mono ?_
    rintro e w' ⟨rfl, hb, hg⟩
    refine ⟨_, rfl, Or.inr ⟨_, _, rfl, Nat.le_refl _, hg, ?_⟩, hb⟩
    intro j o hj
    have hj' : [1, 2][j]? = some o := hj
    match j, hj' with
    | 0, hj => simp at hj; subst hj; rfl
    | 1, hj => simp at hj; subst hj; rfl
    | j + 2, hj => simp at hj
  · refine (parts_app C w h).mono ?_
    rintro e w' ⟨rfl, hb, hg⟩
    refine ⟨_, rfl, Or.inr ⟨_, _, rfl, Nat.le_refl _, hg, ?_⟩, hb⟩
    intro j o hj
    have hj' : [1, 3][j]? = some o := hj
    match j, hj' with
    | 0, hj => simp at hj; subst hj; rfl
    | 1, hj => simp at hj; subst hj; rfl
    | j + 2, hj => simp at hj

end Go.Proofs.YtkbdaiopahmfiacDoor

namespace Go.Proofs.YtkbdaiopahmfiacDoor
open Go.RowKit
set_option linter.unusedSimpArgs false
set_option linter.unusedVariables false

theorem info23s : (Tryd.prog.info? 23).map (·.size) = some 4 := by kernel_rfl

end Go.Proofs.YtkbdaiopahmfiacDoor

namespace Go.Proofs.YtkbdaiopahmfiacDoor
open Go.RowKit
set_option linter.unusedSimpArgs false
set_option linter.unusedVariables false

theorem kindL_range (l : List UInt8) : 0 ≤ kindL l ∧ kindL l ≤ 6 := by
  unfold kindL
  repeat' split
  all_goals omega
theorem offs_len (k : Int) : (offs k).length = np k := by
  unfold offs np
  by_cases h1 : k = 1 ∨ k = 2 ∨ k = 5
  · rw [if_pos h1, if_pos h1]; rfl
  rw [if_neg h1, if_neg h1]
  by_cases h3 : k = 3
  · rw [if_pos h3, if_pos (Or.inl h3)]; rfl
  rw [if_neg h3]
  by_cases h4 : k = 4
  · rw [if_pos h4, if_pos (Or.inr h4)]; rfl
  rw [if_neg h4, if_neg (by omega)]; rfl
theorem offs_in (k : Int) (j o : Nat) (h : (offs k)[j]? = some o) : 1 ≤ o ∧ o < 4 := by
  unfold offs at h
  have hm := List.mem_of_getElem? h
  split at hm
  · simp at hm; omega
  split at hm
  · simp at hm; omega
  split at hm
  · simp at hm; omega
  · simp at hm
/-- A call's cells, some of them set. -/
def rdA (k : Int) (L : List (Nat × List UInt8)) : Array Value := L.foldl (fun A p => A.setIfInBounds p.1 (.string (B p.2))) #[.int .i64 k, .string ⟨#[]⟩, .string ⟨#[]⟩, .string ⟨#[]⟩]
theorem rdA_snoc (k : Int) (L : List (Nat × List UInt8)) (o : Nat) (x : List UInt8) : rdA k (L ++ [(o, x)]) = (rdA k L).setIfInBounds o (.string (B x)) := by
  unfold rdA; rw [List.foldl_append]; rfl
theorem rdA_size (k : Int) (L : List (Nat × List UInt8)) : (rdA k L).size = 4 := by
  unfold rdA
  suffices h : ∀ A : Array Value, A.size = 4 → (L.foldl (fun A p => A.setIfInBounds p.1 (.string (B p.2))) A).size = 4 from h _ rfl
  induction L with
  | nil => exact fun A h => h
  | cons p L ih => exact fun A h => ih _ (by simp [h])
theorem rdA_full (P : List (List UInt8)) (k : Int) (hk : 0 ≤ k ∧ k ≤ 6) (h0 : k ≠ 0) (hl : np k + 1 = P.length) :
    rdA k ((offs k).zip P.tail) = #[.int .i64 k, .string (B (P.getD 1 [])), .string (if k = 3 then B (P.getD 2 []) else ⟨#[]⟩), .string (if k = 4 then B (P.getD 2 []) else ⟨#[]⟩)] := by
  have hk' : k = 1 ∨ k = 2 ∨ k = 3 ∨ k = 4 ∨ k = 5 ∨ k = 6 := by omega
  rcases hk' with rfl | rfl | rfl | rfl | rfl | rfl
  · match P, hl with
    | [p, x], _ => rfl
  · match P, hl with
    | [p, x], _ => rfl
  · match P, hl with
    | [p, x, y], _ => rfl
  · match P, hl with
    | [p, x, y], _ => rfl
  · match P, hl with
    | [p, x], _ => rfl
  · match P, hl with
    | [p], _ => rfl
/-- A whole call stored where the answer lies. -/
theorem store4 {w W : World} {C : Array Value} (hx : W.heap[w.heap.size]? = some (.cells C 23 (0, 0))) (hb : Below w.heap.size w W) (a b c d : Value) :
    (W.setRow w.heap.size #[a, b, c, d]).heap[w.heap.size]? = some (.cells #[a, b, c, d] 23 (0, 0)) ∧ Below w.heap.size w (W.setRow w.heap.size #[a, b, c, d]) :=
  ⟨setRow_heap W w.heap.size _ _ 23 (0, 0) hx, hb.os, hb.tape, hb.output, by simp [World.setRow]; exact hb.size, fun k hk => (setRow_other W w.heap.size k _ (by omega)).trans (hb.block k hk)⟩

set_option maxRecDepth 100000 in
set_option maxHeartbeats 4000000 in
theorem lread_any (g cap : Nat) (P : List (List UInt8)) (w : World) (hw : WTab w) (h1 : 1 ≤ P.length) (h3 : P.length ≤ 3) (hP : ∀ (j : Nat) (x : List UInt8), P[j]? = some x → w.cell? ⟨g, j, none⟩ = some (.string (B x))) :
    Calls Tryd.prog 20 #[.slice (some ⟨g, 0, none⟩) P.length cap] w fun e w' => e = .returned (.tuple #[.agg #[.int .i64 (aRead P).1.kind, .string (aRead P).1.name, .string (aRead P).1.dst, .string (aRead P).1.text], .bool (aRead P).2]) ∧ Below w.heap.size w w' := by
  obtain ⟨x0, hx0⟩ : ∃ x, P[0]? = some x := ⟨_, List.getElem?_eq_getElem (by omega)⟩
  have hd0 : P.getD 0 [] = x0 := by rw [List.getD_eq_getElem?_getD, hx0]; rfl
  have hc0 := hP 0 x0 hx0
  obtain ⟨k, hk⟩ : ∃ k, kindL x0 = k := ⟨_, rfl⟩
  have hkr := kindL_range x0
  rw [hk] at hkr
  obtain ⟨n, hn⟩ : ∃ n, P.length = n := ⟨_, rfl⟩
  obtain ⟨R, HR⟩ : ∃ R, Hid (aRead P = R) := ⟨_, rfl⟩
  have HRE : Hid (R = if k = 0 ∨ np k + 1 ≠ n then (noCall, false) else (⟨k, B (P.getD 1 []), if k = 3 then B (P.getD 2 []) else ⟨#[]⟩, if k = 4 then B (P.getD 2 []) else ⟨#[]⟩⟩, true)) := by
    show R = _
    rw [← show aRead P = R from unhide HR, aRead, hd0, hk, hn]
  rw [show aRead P = R from unhide HR, hn]
  have HP := hide hP
  obtain ⟨V0, hV0⟩ : ∃ V, V = w.alloc (.cells #[.int .i64 0, .string ⟨#[]⟩, .string ⟨#[]⟩, .string ⟨#[]⟩] 23) := ⟨_, rfl⟩
  have hb0 : Below w.heap.size w V0 := by rw [hV0]; exact (Below.refl _ _).alloc (Nat.le_refl _) _
  have HK : Hid (∀ (W : World), WTab W → Calls Tryd.prog 32 #[.string (B x0)] W fun e w' => e = .returned (.int .i64 k) ∧ w' = W) := fun W hW => by
    have := kindOf_any (B x0) W hW
    rw [B_data, hk] at this
    exact this
  have hc0a := cell_on hb0 hc0
  rw [hV0] at hc0a
  have HV0 := hide hV0
  have HB0 := hide hb0
  have HW := hide hw
  have hi0 : (0 : Int) < (n : Int) := by omega
  clear hV0 hP hx0 hd0 hw hk hb0 HR
  go_enter Tryd.func20, Tryd.ntmps20
  go_wp2_with fail
  rw [← unhide HV0]
  refine ((unhide HK) V0 ((unhide HW).below (unhide HB0))).mono ?_
  rintro e w1 ⟨rfl, rfl⟩
  have hX0 : w1.heap[w.heap.size]? = some (.cells #[.int .i64 0, .string ⟨#[]⟩, .string ⟨#[]⟩, .string ⟨#[]⟩] 23 (0, 0)) := by rw [unhide HV0]; exact heap_alloc_new _ _
  have hXl : w.heap.size < w1.heap.size := (Array.getElem?_eq_some_iff.1 hX0).1
  obtain ⟨V1, hV1⟩ : ∃ V, V = w1.alloc (.cells #[.int .i64 k, .string ⟨#[]⟩, .string ⟨#[]⟩, .string ⟨#[]⟩] 23) := ⟨_, rfl⟩
  have hC1 : V1.heap[w1.heap.size]? = some (.cells #[.int .i64 k, .string ⟨#[]⟩, .string ⟨#[]⟩, .string ⟨#[]⟩] 23 (0, 0)) := by rw [hV1]; exact heap_alloc_new _ _
  have hX1 : V1.heap[w.heap.size]? = some (.cells #[.int .i64 0, .string ⟨#[]⟩, .string ⟨#[]⟩, .string ⟨#[]⟩] 23 (0, 0)) := by rw [hV1, Below.heap_alloc _ _ _ hXl]; exact hX0
  have hB1 : Below w.heap.size w V1 := by rw [hV1]; exact (unhide HB0).alloc (by omega) _
  have HPA := hide (parts_any k w1.heap.size V1 hkr (by rw [cell_of_row _ _ _ _ _ _ hC1]; rfl))
  obtain ⟨m, hm⟩ : ∃ m, (offs k).length = m := ⟨_, rfl⟩
  rw [hm] at HPA
  have hmn : np k = m := by rw [← offs_len, hm]
  have HC1 := hide hC1
  have HX1 := hide hX1
  have HB1 := hide hB1
  have HV1 := hide hV1
  clear hC1 hX1 hB1 hV1 hc0 hc0a hX0 HK
  go_wp2_with fail
  rw [← unhide HV1]
  refine (unhide HPA).mono ?_
  rintro e w2 ⟨a, rfl, hpa, b2⟩
  have hX2 := (b2.block _ (Array.getElem?_eq_some_iff.1 (unhide HX1)).1).trans (unhide HX1)
  have hC2 := (b2.block _ (Array.getElem?_eq_some_iff.1 (unhide HC1)).1).trans (unhide HC1)
  have hB2 := (unhide HB1).trans (b2.mono (unhide HB1).size)
  have hCl : w1.heap.size < V1.heap.size := (Array.getElem?_eq_some_iff.1 (unhide HC1)).1
  obtain ⟨cc0, _, _, _, _⟩ := fourK hC2
  have HPAT := hide hpa
  have HX2 := hide hX2
  have HC2 := hide hC2
  have HB2 := hide hB2
  have hwr : wrap64 ((n : Int) - 1) = (n : Int) - 1 := by unfold wrap64; omega
  have hwr2 : IntKind.i64.wrap ((n : Int) - 1) = (n : Int) - 1 := by rw [IntKind.wrap_i64]; omega
  have HM := hide hm
  clear hpa b2 hX2 hC2 hB2 HPA HC1 HX1 HV1 hm
  by_cases hk0 : k = 0
  · have hRR : R = (noCall, false) := by rw [unhide HRE, if_pos (Or.inl hk0)]
    have hkb : (k == 0) = true := by simpa using hk0
    clear hk0 hkr HRE
    obtain ⟨hz, hBZ⟩ := store4 (unhide HX2) (unhide HB2) (.int .i64 0) (.string ⟨#[]⟩) (.string ⟨#[]⟩) (.string ⟨#[]⟩)
    obtain ⟨V5, hV5⟩ : ∃ V5, V5 = w2.setRow w.heap.size #[.int .i64 0, .string ⟨#[]⟩, .string ⟨#[]⟩, .string ⟨#[]⟩] := ⟨_, rfl⟩
    rw [← hV5] at hz hBZ
    obtain ⟨z0, z1, z2, z3, _⟩ := fourK hz
    have hX2 := unhide HX2
    go_wp2_with (refine wpList_store_row rfl 23 _ _ rfl w.heap.size #[.int .i64 0, .string ⟨#[]⟩, .string ⟨#[]⟩, .string ⟨#[]⟩] rfl rfl 23 _ hX2 info23s rfl (by simp [Value.oneCell']) ?_)
    rw [← hV5]
    refine bodyPost_ret (v := .tuple #[.agg #[.int .i64 0, .string ⟨#[]⟩, .string ⟨#[]⟩, .string ⟨#[]⟩], .bool false]) (by simp [results, Tryd.results20, go_sem, z0, z1, z2, z3]) rfl ⟨by rw [hRR]; rfl, hBZ⟩
  · have hkb : (k == 0) = false := by simpa using hk0
    by_cases hnm : m + 1 = n
    · have hne : ((m : Int) != (n : Int) - 1) = false := by simp; omega
      have hRR : R = (⟨k, B (P.getD 1 []), if k = 3 then B (P.getD 2 []) else ⟨#[]⟩, if k = 4 then B (P.getD 2 []) else ⟨#[]⟩⟩, true) := by rw [unhide HRE, if_neg (fun h => by rcases h with h | h; exact hk0 h; exact h (by omega))]
      have HFULL := hide (rdA_full P k hkr hk0 (by omega))
      have HRR := hide hRR
      have hm2 : m ≤ 2 := by omega
      have HNM := hide hnm
      have HN := hide hn
      clear hk0 HRE hRR hnm hmn hn h1 h3 hi0 hkr
      go_wp2_with fail
      go_loopw [28] (fun i wr => ∃ q : Nat, q ≤ m ∧ i = .int .i64 (q : Int) ∧ Hid (wr.heap[w1.heap.size]? = some (.cells (rdA k (((offs k).zip P.tail).take q)) 23 (0, 0))) ∧ Hid (wr.heap[w.heap.size]? = some (.cells #[.int .i64 0, .string ⟨#[]⟩, .string ⟨#[]⟩, .string ⟨#[]⟩] 23 (0, 0))) ∧ Hid (Below w.heap.size w wr) ∧ Hid (PAt wr V1.heap.size a w1.heap.size (offs k))) (fun i _ => m - (intOf i).toNat)
      case atStart => exact ⟨0, Nat.zero_le _, rfl, unhide HC2, unhide HX2, unhide HB2, unhide HPAT⟩
      case round =>
        clear HC2 HX2 HB2 HPAT cc0 hne hwr hwr2
        obtain ⟨q, hq, rfl, HC, HX, HB, HPT⟩ := hrel
        by_cases hlt : (q : Int) < (m : Int)
        · have hql : q < m := by omega
          rcases unhide HPT with h0 | ⟨g2, cur, rfl, hg2, hgr, hcur⟩
          · have := unhide HM; rw [h0] at this; simp at this; omega
          obtain ⟨o, ho⟩ : ∃ o, (offs k)[q]? = some o := ⟨_, List.getElem?_eq_getElem (by rw [unhide HM]; exact hql)⟩
          obtain ⟨x, hx⟩ : ∃ x, P[q + 1]? = some x := ⟨_, List.getElem?_eq_getElem (by have := unhide HN; have := unhide HNM; omega)⟩
          have hpx := cell_on (w := w) (w' := wr) (unhide HB) ((unhide HP) (q + 1) x hx)
          have hor := offs_in k q o ho
          have hptr : wr.cell? ⟨g2, q, none⟩ = some (.pointer (some ⟨w1.heap.size, o, none⟩)) := by rw [cell_of_row _ _ _ _ _ _ hgr]; exact hcur q o ho
          have hsz := rdA_size k (((offs k).zip P.tail).take q)
          obtain ⟨v0, hv0⟩ : ∃ v, wr.cell? ⟨w1.heap.size, o, none⟩ = some v := ⟨_, by rw [cell_of_row _ _ _ _ _ _ (unhide HC)]; exact Array.getElem?_eq_getElem (by rw [hsz]; omega)⟩
          have hfz := frozen_of_row wr w1.heap.size o _ _ (unhide HC)
          have hq0 : (0 : Int) ≤ (q : Int) := by omega
          have hqn : (q : Int) + 1 < (n : Int) := by have := unhide HNM; omega
          have hq1 : (0 : Int) ≤ (q : Int) + 1 := by omega
          have hn1 : ((q : Int) + 1).toNat = q + 1 := by omega
          have hw1 : wrap64 ((q : Int) + 1) = (q : Int) + 1 := by unfold wrap64; omega
          have hzip : ((offs k).zip P.tail)[q]? = some (o, x) := by
            rw [List.getElem?_zip_eq_some]
            exact ⟨ho, by rw [List.getElem?_tail]; exact hx⟩
          have HC2 : Hid ((wr.setCell ⟨w1.heap.size, o, none⟩ (.string (B x))).heap[w1.heap.size]? = some (.cells (rdA k (((offs k).zip P.tail).take (q + 1))) 23 (0, 0))) := by
            show _ = _
            rw [heap_setCell_same (unhide HC), List.take_add_one, hzip]
            show _ = some (Obj.cells (rdA k (_ ++ [(o, x)])) _ _)
            rw [rdA_snoc]
          have HX2 : Hid ((wr.setCell ⟨w1.heap.size, o, none⟩ (.string (B x))).heap[w.heap.size]? = some (.cells #[.int .i64 0, .string ⟨#[]⟩, .string ⟨#[]⟩, .string ⟨#[]⟩] 23 (0, 0))) := (Below.heap_setCell _ _ _ _ (by simp; omega)).trans (unhide HX)
          have HB2 : Hid (Below w.heap.size w (wr.setCell ⟨w1.heap.size, o, none⟩ (.string (B x)))) := (unhide HB).setCell (by simp; omega) _
          have HP2 : Hid (PAt (wr.setCell ⟨w1.heap.size, o, none⟩ (.string (B x))) V1.heap.size (some ⟨g2, 0, none⟩) w1.heap.size (offs k)) := Or.inr ⟨g2, cur, rfl, hg2, (Below.heap_setCell _ _ _ _ (by simp; omega)).trans hgr, hcur⟩
          clear hgr hcur ho hx hor hsz hzip HC HX HB HPT hql
          go_wp2
          go_roundw
          case rel => exact ⟨q + 1, by omega, by go_num, HC2, HX2, HB2, HP2⟩
          case measure => simp [intOf]; omega
        · obtain rfl : q = m := by omega
          have hC := unhide HC
          have htk : ((offs k).zip P.tail).take q = (offs k).zip P.tail := List.take_of_length_le (by rw [List.length_zip, unhide HM]; omega)
          rw [htk, unhide HFULL] at hC
          obtain ⟨y0, y1, y2, y3, _⟩ := fourK hC
          have hX := unhide HX
          obtain ⟨hz, hBZ⟩ := store4 hX (unhide HB) (.int .i64 k) (.string (B (P.getD 1 []))) (.string (if k = 3 then B (P.getD 2 []) else ⟨#[]⟩)) (.string (if k = 4 then B (P.getD 2 []) else ⟨#[]⟩))
          have hRR := unhide HRR
          generalize B (P.getD 1 []) = na at *
          generalize (if k = 3 then B (P.getD 2 []) else ⟨#[]⟩) = nb at *
          generalize (if k = 4 then B (P.getD 2 []) else ⟨#[]⟩) = nc at *
          obtain ⟨V5, hV5⟩ : ∃ V5, V5 = wr.setRow w.heap.size #[.int .i64 k, .string na, .string nb, .string nc] := ⟨_, rfl⟩
          rw [← hV5] at hz hBZ
          obtain ⟨z0, z1, z2, z3, _⟩ := fourK hz
          clear hC hz htk HFULL HRR HC HX HB HPT
          go_wp2_with (refine wpList_store_row rfl 23 _ _ rfl w.heap.size #[.int .i64 k, .string na, .string nb, .string nc] rfl rfl 23 _ hX info23s rfl (by simp [Value.oneCell']) ?_)
          rw [← hV5]
          refine bodyPost_ret (v := .tuple #[.agg #[.int .i64 k, .string na, .string nb, .string nc], .bool true]) (by simp [results, Tryd.results20, go_sem, z0, z1, z2, z3]) rfl ⟨by first | rfl | (rw [hRR]; rfl), hBZ⟩
    · have hne : ((m : Int) != (n : Int) - 1) = true := by simp; omega
      have hRR : R = (noCall, false) := by rw [unhide HRE, if_pos (Or.inr (by omega))]
      clear hk0 hkr HRE hnm hmn
      obtain ⟨hz, hBZ⟩ := store4 (unhide HX2) (unhide HB2) (.int .i64 0) (.string ⟨#[]⟩) (.string ⟨#[]⟩) (.string ⟨#[]⟩)
      obtain ⟨V5, hV5⟩ : ∃ V5, V5 = w2.setRow w.heap.size #[.int .i64 0, .string ⟨#[]⟩, .string ⟨#[]⟩, .string ⟨#[]⟩] := ⟨_, rfl⟩
      rw [← hV5] at hz hBZ
      obtain ⟨z0, z1, z2, z3, _⟩ := fourK hz
      have hX2 := unhide HX2
      go_wp2_with (refine wpList_store_row rfl 23 _ _ rfl w.heap.size #[.int .i64 0, .string ⟨#[]⟩, .string ⟨#[]⟩, .string ⟨#[]⟩] rfl rfl 23 _ hX2 info23s rfl (by simp [Value.oneCell']) ?_)
      rw [← hV5]
      refine bodyPost_ret (v := .tuple #[.agg #[.int .i64 0, .string ⟨#[]⟩, .string ⟨#[]⟩, .string ⟨#[]⟩], .bool false]) (by simp [results, Tryd.results20, go_sem, z0, z1, z2, z3]) rfl ⟨by first | rfl | (rw [hRR]; rfl), hBZ⟩

end Go.Proofs.YtkbdaiopahmfiacDoor

namespace Go.Proofs.YtkbdaiopahmfiacDoor
open Go.RowKit
set_option linter.unusedSimpArgs false
set_option linter.unusedVariables false

/-- What a line's functions read of memory. -/
structure LW (w : World) : Prop where
  tab : WTab w
  ml : ∃ m, w.cell? ⟨1, 0, none⟩ = some (.int .i64 m)
  pw : Lib.TabIs Tryd.prog w "internal/strconv.uint64pow10" .u64 Lib.pow10Tab
theorem TabIs_on {n : String} {k : IntKind} {zs : List Int} {w w' : World} (h : Lib.TabIs Tryd.prog w n k zs) (hb : Below w.heap.size w w') : Lib.TabIs Tryd.prog w' n k zs := by
  unfold Lib.TabIs World.var? at h ⊢
  cases hg : Tryd.prog.globalNamed n with
  | none => rw [hg] at h; simp at h
  | some g =>
    rw [hg] at h
    simp only [Option.bind_some] at h ⊢
    have hlt : g < w.heap.size := by
      rcases Nat.lt_or_ge g w.heap.size with h1 | h1
      · exact h1
      · rw [Array.getElem?_eq_none h1] at h; simp at h
    rw [hb.block g hlt]
    exact h
theorem LW.below {w w' : World} (h : LW w) (hb : Below w.heap.size w w') : LW w' := by
  obtain ⟨m, hm⟩ := h.ml
  exact ⟨h.tab.below hb, ⟨m, cell_on hb hm⟩, TabIs_on h.pw hb⟩
theorem cutB_len (l : List UInt8) : (cutB l).1.length ≤ l.length ∧ (cutB l).2.1.length ≤ l.length := by
  obtain ⟨h1, h2, _⟩ := cutB_back l
  cases h : (cutB l).2.2 with
  | true =>
    have e := congrArg List.length (h1 h)
    simp only [List.length_append, List.length_cons] at e
    omega
  | false =>
    have e := congrArg List.length (h2 h).1
    rw [(h2 h).2]
    simp only [List.length_nil]
    omega
theorem pcs_short (l : List UInt8) : ∀ x, x ∈ pcs l → x.length ≤ l.length := by
  have h1 := cutB_len l
  have h2 := cutB_len (cutB l).2.1
  intro x hx
  unfold pcs at hx
  split at hx
  · simp at hx; rw [hx]; exact Nat.le_refl _
  split at hx
  · simp at hx; rcases hx with rfl | rfl <;> omega
  · simp at hx; rcases hx with rfl | rfl | rfl <;> omega
theorem offs_le (k : Int) : (offs k).length ≤ 2 := by
  unfold offs
  split
  · decide
  split
  · decide
  split
  · decide
  · decide
theorem lB_size (l : List UInt8) : (B l).size = l.length := by show l.toArray.size = _; simp
theorem getD_short {P : List (List UInt8)} {M : Nat} (h : ∀ x, x ∈ P → x.length ≤ M) (j : Nat) : (B (P.getD j [])).size ≤ M := by
  rw [lB_size, List.getD_eq_getElem?_getD]
  cases hj : P[j]? with
  | none => simp
  | some x => exact h x (List.mem_of_getElem? hj)
theorem aRead_facts {P : List (List UInt8)} {M : Nat} (h : ∀ x, x ∈ P → x.length ≤ M) : (0 ≤ (aRead P).1.kind ∧ (aRead P).1.kind ≤ 6) ∧ (aRead P).1.name.size ≤ M ∧ (aRead P).1.dst.size ≤ M ∧ (aRead P).1.text.size ≤ M := by
  have h1 := getD_short h 1
  have h2 := getD_short h 2
  have hk := kindL_range (P.getD 0 [])
  have h0 : (⟨#[]⟩ : ByteArray).size ≤ M := Nat.zero_le _
  unfold aRead
  split
  · exact ⟨⟨by decide, by decide⟩, h0, h0, h0⟩
  · refine ⟨hk, h1, ?_, ?_⟩
    · dsimp only; split
      · exact h2
      · exact h0
    · dsimp only; split
      · exact h2
      · exact h0
theorem cells_at {D : List ByteArray} {N j : Nat} {x : ByteArray} (h : D[j]? = some x) : (Lib.cellsOf D N)[j]? = some (.string x) := by
  unfold Lib.cellsOf
  have hj := (List.getElem?_eq_some_iff.1 h).1
  simp only [List.getElem?_toArray]
  rw [List.getElem?_append_left (by simpa using hj), List.getElem?_map, h]
  rfl

set_option maxRecDepth 100000 in
set_option maxHeartbeats 4000000 in
theorem Parse_any (s : ByteArray) (w : World) (hw : LW w) (hs : s.size ≤ 1000000) :
    Calls Tryd.prog 10 #[.string s] w fun e w' => e = .returned (.tuple #[.agg #[.int .i64 (aParse s.data.toList).1.kind, .string (aParse s.data.toList).1.name, .string (aParse s.data.toList).1.dst, .string (aParse s.data.toList).1.text], .int .i64 (aParse s.data.toList).2]) ∧ Below w.heap.size w w' := by
  obtain ⟨l, hl⟩ : ∃ l, s.data.toList = l := ⟨_, rfl⟩
  have hll : l.length = s.size := by rw [← hl, bsize]
  obtain ⟨Q, HQ⟩ : ∃ Q, Hid (aParse l = Q) := ⟨_, rfl⟩
  have hpr := parse_read l
  rw [show aParse l = Q from unhide HQ] at hpr
  rw [hl, show aParse l = Q from unhide HQ]
  have hpl := pcs_len l
  obtain ⟨⟨hk0, hk6⟩, hsa, hsb, hsc⟩ := aRead_facts (pcs_short l)
  have hpb := pcs_bytes s
  rw [hl] at hpb
  obtain ⟨V0, hV0⟩ : ∃ V, V = w.alloc (.cells #[.int .i64 0, .string ⟨#[]⟩, .string ⟨#[]⟩, .string ⟨#[]⟩] 23) := ⟨_, rfl⟩
  have hb0 : Below w.heap.size w V0 := by rw [hV0]; exact (Below.refl _ _).alloc (Nat.le_refl _) _
  have hX0 : V0.heap[w.heap.size]? = some (.cells #[.int .i64 0, .string ⟨#[]⟩, .string ⟨#[]⟩, .string ⟨#[]⟩] 23 (0, 0)) := by rw [hV0]; exact heap_alloc_new _ _
  have hw0 := hw.below hb0
  obtain ⟨m, hm⟩ := hw0.ml
  have hsp := Tryd.strings_SplitN s ⟨#[32]⟩ 3 m V0 (by omega) hm (by decide) (by decide) (by decide)
  rw [hpb, List.length_map] at hsp
  obtain ⟨P, hP⟩ : ∃ P, pcs l = P := ⟨_, rfl⟩
  rw [hP] at hsp hpl hsa hsb hsc hpr hk0 hk6
  obtain ⟨cap, hcap⟩ : ∃ cap, min 3 (s.size + 1) = cap := ⟨_, rfl⟩
  rw [hcap] at hsp
  obtain ⟨n, hn⟩ : ∃ n, P.length = n := ⟨_, rfl⟩
  have HRD : Hid (∀ (W : World) (g : Nat), WTab W → (∀ (j : Nat) (x : List UInt8), P[j]? = some x → W.cell? ⟨g, j, none⟩ = some (.string (B x))) → _) := fun W g h1 h2 => lread_any g cap P W h1 hpl.1 hpl.2 h2
  obtain ⟨r, hr⟩ : ∃ r, aRead P = r := ⟨_, rfl⟩
  rw [hr] at HRD hpr hsa hsb hsc hk0 hk6
  obtain ⟨⟨k, na, nb, nc⟩, ok⟩ := r
  dsimp only at HRD hpr hsa hsb hsc hk0 hk6
  rw [hn] at HRD hsp
  have HSP := hide hsp
  have HV0 := hide hV0
  have HB0 := hide hb0
  have HX0 := hide hX0
  have HW0 := hide hw0
  have HPR := hide hpr
  have HS := hide (And.intro hsa (And.intro hsb hsc))
  have HK := hide (And.intro hk0 hk6)
  have HLS : Hid (l.length ≤ 1000000) := hide (by omega)
  clear hsp hV0 hb0 hX0 hw0 hpr hsa hsb hsc hk0 hk6 hpb hpl hm hll HQ hP hr hn hcap hl hw hs
  go_enter Tryd.func10, Tryd.ntmps10
  go_wp2_with fail
  rw [← unhide HV0]
  refine (unhide HSP).mono ?_
  rintro e w1 ⟨rfl, hw1⟩
  have b1 : Below V0.heap.size V0 w1 := by rw [hw1]; exact (Below.refl _ _).alloc (Nat.le_refl _) _
  have hg1 : w1.heap[V0.heap.size]? = some (.cells (Lib.cellsOf (P.map B) cap) 9 (0, 0)) := by rw [hw1]; exact heap_alloc_new _ _
  have hX1 := (b1.block _ (Array.getElem?_eq_some_iff.1 (unhide HX0)).1).trans (unhide HX0)
  have hB1 := (unhide HB0).trans (b1.mono (unhide HB0).size)
  have HRD1 := hide ((unhide HRD) w1 V0.heap.size ((unhide HW0).below b1).tab (fun j x hj => by
    rw [cell_of_row _ _ _ _ _ _ hg1]
    exact cells_at (by rw [List.getElem?_map, hj]; rfl)))
  have HX1 := hide hX1
  have HB1 := hide hB1
  clear hw1 b1 hg1 hX1 hB1 HRD HSP HX0 HB0 HV0
  go_wp2_with fail
  refine (unhide HRD1).mono ?_
  rintro e w2 ⟨rfl, b2⟩
  have hX2 := (b2.block _ (Array.getElem?_eq_some_iff.1 (unhide HX1)).1).trans (unhide HX1)
  have hXl : w.heap.size < w2.heap.size := (Array.getElem?_eq_some_iff.1 hX2).1
  have hB2 := (unhide HB1).trans (b2.mono (unhide HB1).size)
  obtain ⟨V3, hV3⟩ : ∃ V3, V3 = w2.alloc (.cells #[.int .i64 k, .string na, .string nb, .string nc] 23) := ⟨_, rfl⟩
  have hC3 : V3.heap[w2.heap.size]? = some (.cells #[.int .i64 k, .string na, .string nb, .string nc] 23 (0, 0)) := by rw [hV3]; exact heap_alloc_new _ _
  have hX3 : V3.heap[w.heap.size]? = some (.cells #[.int .i64 0, .string ⟨#[]⟩, .string ⟨#[]⟩, .string ⟨#[]⟩] 23 (0, 0)) := by rw [hV3, Below.heap_alloc _ _ _ hXl]; exact hX2
  have hB3 : Below w.heap.size w V3 := by rw [hV3]; exact hB2.alloc (by omega) _
  have HC3 := hide hC3
  have HX3 := hide hX3
  have HB3 := hide hB3
  have HX2 := hide hX2
  have HB2 := hide hB2
  clear b2 hX2 hB2 hC3 hX3 hB3 HX1 HB1 HRD1
  cases ok with
  | false =>
    have HQ : Hid (Q = (noCall, 12)) := hide (unhide HPR)
    have HV3 := hide hV3
    clear HPR hV3
    have hXa : (w2.alloc (.cells #[.int .i64 k, .string na, .string nb, .string nc] 23)).heap[w.heap.size]? = some (.cells #[.int .i64 0, .string ⟨#[]⟩, .string ⟨#[]⟩, .string ⟨#[]⟩] 23 (0, 0)) := by rw [← unhide HV3]; exact unhide HX3
    have hBa : Below w.heap.size w (w2.alloc (.cells #[.int .i64 k, .string na, .string nb, .string nc] 23)) := by rw [← unhide HV3]; exact unhide HB3
    have hX9 := hXa
    obtain ⟨hz, hBZ⟩ := store4 hX9 (hBa) (.int .i64 0) (.string ⟨#[]⟩) (.string ⟨#[]⟩) (.string ⟨#[]⟩)
    obtain ⟨V5, hV5⟩ : ∃ V5, V5 = (w2.alloc (.cells #[.int .i64 k, .string na, .string nb, .string nc] 23)).setRow w.heap.size #[.int .i64 0, .string ⟨#[]⟩, .string ⟨#[]⟩, .string ⟨#[]⟩] := ⟨_, rfl⟩
    rw [← hV5] at hz hBZ
    obtain ⟨z0, z1, z2, z3, _⟩ := fourK hz
    clear hz
    go_wp2_with (refine wpList_store_row rfl 23 _ _ rfl w.heap.size #[.int .i64 0, .string ⟨#[]⟩, .string ⟨#[]⟩, .string ⟨#[]⟩] rfl rfl 23 _ hX9 info23s rfl (by simp [Value.oneCell']) ?_)
    rw [← hV5]
    refine bodyPost_ret (v := .tuple #[.agg #[.int .i64 0, .string ⟨#[]⟩, .string ⟨#[]⟩, .string ⟨#[]⟩], .int .i64 12]) (by simp [results, Tryd.results10, go_sem, z0, z1, z2, z3]) rfl ⟨by first | rfl | (rw [unhide HQ]; rfl) | (rw [unhide HQ]), hBZ⟩
  | true =>
    obtain ⟨code, hcode⟩ : ∃ c, checkI ⟨k, na, nb, nc⟩ = c := ⟨_, rfl⟩
    have HQ0 : Hid (Q = if code ≠ 0 then (noCall, code) else (⟨k, na, nb, nc⟩, 0)) := hide (by rw [unhide HPR, ← hcode]; rfl)
    have hmx : (1000000 : Nat) ≤ maxLen := by decide
    have hS := unhide HS
    have hL := unhide HLS
    have hck := Check_any k na nb nc V3 (by omega) (by omega) (by omega)
    rw [hcode] at hck
    have HCK := hide hck
    have HCD := hide hcode
    have HV3 := hide hV3
    have HCL : Hid (na.size ≤ 281474976710656 ∧ nb.size ≤ 281474976710656 ∧ nc.size ≤ 281474976710656) := hide ⟨by omega, by omega, by omega⟩
    obtain ⟨c0, c1, c2, c3, _⟩ := fourK (unhide HC3)
    rw [unhide HV3] at c0 c1 c2 c3
    clear hck hcode HPR hS hL hmx hV3
    go_wp2_with fail
    rw [← unhide HV3]
    refine (unhide HCK).mono ?_
    rintro e w4 ⟨rfl, b4⟩
    have hX4 := (b4.block _ (Array.getElem?_eq_some_iff.1 (unhide HX3)).1).trans (unhide HX3)
    have hC4 := (b4.block _ (Array.getElem?_eq_some_iff.1 (unhide HC3)).1).trans (unhide HC3)
    have hB4 := (unhide HB3).trans (b4.mono (unhide HB3).size)
    have hCl : w2.heap.size < w4.heap.size := (Array.getElem?_eq_some_iff.1 hC4).1
    have HX4 := hide hX4
    have HC4 := hide hC4
    have HB4 := hide hB4
    clear b4 hX4 hC4 hB4 HCK HX3 HC3 HB3 HV3 c0 c1 c2 c3
    by_cases hc : code = 0
    · subst hc
      have HQ : Hid (Q = (⟨k, na, nb, nc⟩, 0)) := hide (unhide HQ0)
      have HPA := hide (parts_any k w2.heap.size w4 (unhide HK) (by rw [cell_of_row _ _ _ _ _ _ (unhide HC4)]; rfl))
      obtain ⟨m, hm⟩ : ∃ m, (offs k).length = m := ⟨_, rfl⟩
      rw [hm] at HPA
      have HM := hide hm
      clear HQ0 hm
      go_wp2_with fail
      refine (unhide HPA).mono ?_
      rintro e w5 ⟨a, rfl, hpa, b5⟩
      have HX5 := hide ((b5.block _ (Array.getElem?_eq_some_iff.1 (unhide HX4)).1).trans (unhide HX4))
      have HC5 := hide ((b5.block _ (Array.getElem?_eq_some_iff.1 (unhide HC4)).1).trans (unhide HC4))
      have HB5 := hide ((unhide HB4).trans (b5.mono (unhide HB4).size))
      have HP5 := hide hpa
      clear b5 hpa HX4 HC4 HB4 HPA
      go_wp2_with fail
      go_loopw [26] (fun i wr => ∃ q : Nat, q ≤ m ∧ i = .int .i64 (q : Int) ∧ Hid (wr.heap[w2.heap.size]? = some (.cells #[.int .i64 k, .string na, .string nb, .string nc] 23 (0, 0))) ∧ Hid (wr.heap[w.heap.size]? = some (.cells #[.int .i64 0, .string ⟨#[]⟩, .string ⟨#[]⟩, .string ⟨#[]⟩] 23 (0, 0))) ∧ Hid (Below w.heap.size w wr) ∧ Hid (PAt wr w4.heap.size a w2.heap.size (offs k))) (fun i _ => m - (intOf i).toNat)
      case atStart => exact ⟨0, Nat.zero_le _, rfl, unhide HC5, unhide HX5, unhide HB5, unhide HP5⟩
      case round =>
        clear HC5 HX5 HB5 HP5
        obtain ⟨q, hq, rfl, HC, HX, HB, HPT⟩ := hrel
        by_cases hlt : (q : Int) < (m : Int)
        · have hql : q < m := by omega
          rcases unhide HPT with h0 | ⟨g2, cur, rfl, hg2, hgr, hcur⟩
          · have := unhide HM; rw [h0] at this; simp at this; omega
          obtain ⟨o, ho⟩ : ∃ o, (offs k)[q]? = some o := ⟨_, List.getElem?_eq_getElem (by rw [unhide HM]; exact hql)⟩
          have hor := offs_in k q o ho
          have hptr : wr.cell? ⟨g2, q, none⟩ = some (.pointer (some ⟨w2.heap.size, o, none⟩)) := by rw [cell_of_row _ _ _ _ _ _ hgr]; exact hcur q o ho
          obtain ⟨x, hx, hxs⟩ : ∃ x : ByteArray, (#[.int .i64 k, .string na, .string nb, .string nc] : Array Value)[o]? = some (.string x) ∧ x.size ≤ 281474976710656 := by
            obtain ⟨s1, s2, s3⟩ := unhide HCL
            have : o = 1 ∨ o = 2 ∨ o = 3 := by omega
            rcases this with rfl | rfl | rfl
            · exact ⟨na, rfl, s1⟩
            · exact ⟨nb, rfl, s2⟩
            · exact ⟨nc, rfl, s3⟩
          have hv0 : wr.cell? ⟨w2.heap.size, o, none⟩ = some (.string x) := by rw [cell_of_row _ _ _ _ _ _ (unhide HC)]; exact hx
          have hq0 : (0 : Int) ≤ (q : Int) := by omega
          have hm2 : m ≤ 2 := by have := unhide HM; have := offs_le k; omega
          have HSC := hide (SClone_any x wr hxs)
          have HGR := hide hgr
          have HCUR := hide hcur
          have HXX := hide hx
          clear hgr hcur ho hor hql hx hxs
          go_wp2_with fail
          refine (unhide HSC).mono ?_
          rintro e w6 ⟨rfl, b6⟩
          have hC6 := (b6.block _ (Array.getElem?_eq_some_iff.1 (unhide HC)).1).trans (unhide HC)
          have hX6 := (b6.block _ (Array.getElem?_eq_some_iff.1 (unhide HX)).1).trans (unhide HX)
          have hG6 := (b6.block _ (Array.getElem?_eq_some_iff.1 (unhide HGR)).1).trans (unhide HGR)
          have hB6 := (unhide HB).trans (b6.mono (unhide HB).size)
          have hv6 : w6.cell? ⟨w2.heap.size, o, none⟩ = some (.string x) := by rw [cell_of_row _ _ _ _ _ _ hC6]; exact unhide HXX
          have hfz := frozen_of_row w6 w2.heap.size o _ _ hC6
          have HC7 : Hid ((w6.setCell ⟨w2.heap.size, o, none⟩ (.string x)).heap[w2.heap.size]? = some (.cells #[.int .i64 k, .string na, .string nb, .string nc] 23 (0, 0))) := set_same hC6 (unhide HXX)
          have HX7 : Hid ((w6.setCell ⟨w2.heap.size, o, none⟩ (.string x)).heap[w.heap.size]? = some (.cells #[.int .i64 0, .string ⟨#[]⟩, .string ⟨#[]⟩, .string ⟨#[]⟩] 23 (0, 0))) := (Below.heap_setCell _ _ _ _ (by simp; omega)).trans hX6
          have HB7 : Hid (Below w.heap.size w (w6.setCell ⟨w2.heap.size, o, none⟩ (.string x))) := below_set hB6 (by omega)
          have HP7 : Hid (PAt (w6.setCell ⟨w2.heap.size, o, none⟩ (.string x)) w4.heap.size (some ⟨g2, 0, none⟩) w2.heap.size (offs k)) := Or.inr ⟨g2, cur, rfl, hg2, (Below.heap_setCell _ _ _ _ (by simp; omega)).trans hG6, unhide HCUR⟩
          clear b6 hC6 hX6 hG6 hB6 hptr hv0 HC HX HB HPT HSC
          go_wp2
          go_roundw
          case rel => exact ⟨q + 1, by omega, by go_num, HC7, HX7, HB7, HP7⟩
          case measure => simp [intOf]; omega
        · obtain ⟨y0, y1, y2, y3, _⟩ := fourK (unhide HC)
          have hX9 := unhide HX
          obtain ⟨hz, hBZ⟩ := store4 hX9 (unhide HB) (.int .i64 k) (.string na) (.string nb) (.string nc)
          obtain ⟨V5, hV5⟩ : ∃ V5, V5 = wr.setRow w.heap.size #[.int .i64 k, .string na, .string nb, .string nc] := ⟨_, rfl⟩
          rw [← hV5] at hz hBZ
          obtain ⟨z0, z1, z2, z3, _⟩ := fourK hz
          clear hz
          go_wp2_with (refine wpList_store_row rfl 23 _ _ rfl w.heap.size #[.int .i64 k, .string na, .string nb, .string nc] rfl rfl 23 _ hX9 info23s rfl (by simp [Value.oneCell']) ?_)
          rw [← hV5]
          refine bodyPost_ret (v := .tuple #[.agg #[.int .i64 k, .string na, .string nb, .string nc], .int .i64 0]) (by simp [results, Tryd.results10, go_sem, z0, z1, z2, z3]) rfl ⟨by first | rfl | (rw [unhide HQ]; rfl) | (rw [unhide HQ]), hBZ⟩
    · have HQ : Hid (Q = (noCall, code)) := hide (by rw [unhide HQ0, if_pos hc])
      have hne : (code != 0) = true := by simpa using hc
      clear HQ0 hc
      have hX9 := unhide HX4
      obtain ⟨hz, hBZ⟩ := store4 hX9 (unhide HB4) (.int .i64 0) (.string ⟨#[]⟩) (.string ⟨#[]⟩) (.string ⟨#[]⟩)
      obtain ⟨V5, hV5⟩ : ∃ V5, V5 = w4.setRow w.heap.size #[.int .i64 0, .string ⟨#[]⟩, .string ⟨#[]⟩, .string ⟨#[]⟩] := ⟨_, rfl⟩
      rw [← hV5] at hz hBZ
      obtain ⟨z0, z1, z2, z3, _⟩ := fourK hz
      clear hz
      go_wp2_with (refine wpList_store_row rfl 23 _ _ rfl w.heap.size #[.int .i64 0, .string ⟨#[]⟩, .string ⟨#[]⟩, .string ⟨#[]⟩] rfl rfl 23 _ hX9 info23s rfl (by simp [Value.oneCell']) ?_)
      rw [← hV5]
      refine bodyPost_ret (v := .tuple #[.agg #[.int .i64 0, .string ⟨#[]⟩, .string ⟨#[]⟩, .string ⟨#[]⟩], .int .i64 code]) (by simp [results, Tryd.results10, go_sem, z0, z1, z2, z3]) rfl ⟨by first | rfl | (rw [unhide HQ]; rfl) | (rw [unhide HQ]), hBZ⟩

end Go.Proofs.YtkbdaiopahmfiacDoor

namespace Go.Proofs.YtkbdaiopahmfiacDoor
open Go.RowKit
set_option linter.unusedSimpArgs false
set_option linter.unusedVariables false

/-- The text that lies at a place of a call. -/
def fldL (x : ACall) (o : Nat) : ByteArray := if o = 1 then x.name else if o = 2 then x.dst else x.text
def accL (W : ByteArray) (x : ACall) (O : List Nat) : List UInt8 := W.data.toList ++ O.flatMap (fun o => 32 :: (fldL x o).data.toList)
def wordK (k : Int) : ByteArray := if k = 1 then ⟨#[109, 97, 107, 101]⟩ else if k = 2 then ⟨#[114, 101, 109, 111, 118, 101]⟩ else if k = 3 then ⟨#[114, 101, 110, 97, 109, 101]⟩ else if k = 4 then ⟨#[97, 112, 112, 101, 110, 100]⟩ else if k = 5 then ⟨#[114, 101, 97, 100]⟩ else ⟨#[108, 105, 115, 116]⟩
theorem wordK_size (k : Int) : (wordK k).size ≤ 6 := by
  unfold wordK
  repeat' split
  all_goals decide
theorem wordK_cell {w : World} (h : WTab w) {k : Int} (hk : 1 ≤ k ∧ k ≤ 6) : w.cell? ⟨0, (k - 1).toNat, none⟩ = some (.string (wordK k)) := by
  have hk' : k = 1 ∨ k = 2 ∨ k = 3 ∨ k = 4 ∨ k = 5 ∨ k = 6 := by omega
  rcases hk' with rfl | rfl | rfl | rfl | rfl | rfl
  · exact h.c0
  · exact h.c1
  · exact h.c2
  · exact h.c3
  · exact h.c4
  · exact h.c5
theorem accL_line (x : ACall) (hk : 1 ≤ x.kind ∧ x.kind ≤ 6) : accL (wordK x.kind) x (offs x.kind) = lineL x := by
  obtain ⟨k, a, b, t⟩ := x
  dsimp only at *
  have hk' : k = 1 ∨ k = 2 ∨ k = 3 ∨ k = 4 ∨ k = 5 ∨ k = 6 := by omega
  rcases hk' with rfl | rfl | rfl | rfl | rfl | rfl
  · simp [accL, wordK, offs, fldL, lineL, wMake]
  · simp [accL, wordK, offs, fldL, lineL, wRemove]
  · simp [accL, wordK, offs, fldL, lineL, wRename]
  · simp [accL, wordK, offs, fldL, lineL, wAppend]
  · simp [accL, wordK, offs, fldL, lineL, wRead]
  · simp [accL, wordK, offs, fldL, lineL, wList]
theorem accL_snoc (W : ByteArray) (x : ACall) (O : List Nat) (o : Nat) : accL W x (O ++ [o]) = accL W x O ++ [32] ++ (fldL x o).data.toList := by
  unfold accL; simp
theorem lflat_len (x : ACall) : ∀ (O : List Nat), (∀ o, o ∈ O → (fldL x o).size ≤ 8) → (O.flatMap (fun o => 32 :: (fldL x o).data.toList)).length ≤ 9 * O.length
  | [], _ => by simp
  | o :: O, h => by
    have h1 := h o (by simp)
    have h2 := lflat_len x O (fun p hp => h p (by simp [hp]))
    have h3 : (fldL x o).data.toList.length = (fldL x o).size := bsize _
    rw [List.flatMap_cons, List.length_append, List.length_cons, List.length_cons]
    omega
theorem fld_small {x : ACall} (h : checkI x = 0) : ∀ o, o ∈ offs x.kind → (fldL x o).size ≤ 8 := by
  have hz := check_zero h
  have hnm : x.kind ≠ 6 → x.name.size ≤ 5 := fun h6 => (nameB_size (named_name hz.2.2.2.1 h6)).2
  have hds : x.kind = 3 → x.dst.size ≤ 5 := fun h6 => (nameB_size (named_dst hz.2.2.2.1 h6)).2
  have htx : x.kind = 4 → x.text.size ≤ 8 := fun h6 => (textB_size (hz.2.2.2.2 h6)).2
  intro o ho
  unfold offs at ho
  split at ho
  · rename_i hk
    simp at ho
    subst ho
    have := hnm (by omega)
    simp [fldL]; omega
  split at ho
  · rename_i h1 hk
    simp at ho
    have h1 := hnm (by omega)
    have h2 := hds hk
    rcases ho with rfl | rfl
    · simp [fldL]; omega
    · simp [fldL]; omega
  split at ho
  · rename_i h1 h2 hk
    simp at ho
    have h1 := hnm (by omega)
    have h2 := htx hk
    rcases ho with rfl | rfl
    · simp [fldL]; omega
    · simp [fldL]; omega
  · simp at ho

set_option maxRecDepth 100000 in
set_option maxHeartbeats 4000000 in
theorem LCall_any (x : ACall) (w : World) (hw : LW w) (h1 : x.name.size ≤ maxLen) (h2 : x.dst.size ≤ maxLen) (h3 : x.text.size ≤ maxLen) :
    Calls Tryd.prog 8 #[.agg #[.int .i64 x.kind, .string x.name, .string x.dst, .string x.text]] w fun e w' => e = .returned (.tuple #[.string (B (aLine x).1), .int .i64 (aLine x).2]) ∧ Below w.heap.size w w' := by
  obtain ⟨Q, HQ⟩ : ∃ Q, Hid (aLine x = Q) := ⟨_, rfl⟩
  rw [show aLine x = Q from unhide HQ]
  have HF : Hid (checkI x = 0 → (1 ≤ x.kind ∧ x.kind ≤ 6) ∧ accL (wordK x.kind) x (offs x.kind) = lineL x ∧ ∀ o, o ∈ offs x.kind → (fldL x o).size ≤ 8) := hide fun h => by
    have hk := kinds6 h
    exact ⟨by omega, accL_line x (by omega), fld_small h⟩
  have HQ0 : Hid (Q = if checkI x ≠ 0 then ([], checkI x) else (lineL x, 0)) := hide (by rw [← show aLine x = Q from unhide HQ]; rfl)
  obtain ⟨V0, hV0⟩ : ∃ V, V = w.alloc (.cells #[.int .i64 x.kind, .string x.name, .string x.dst, .string x.text] 23) := ⟨_, rfl⟩
  have hb0 : Below w.heap.size w V0 := by rw [hV0]; exact (Below.refl _ _).alloc (Nat.le_refl _) _
  have hC0 : V0.heap[w.heap.size]? = some (.cells #[.int .i64 x.kind, .string x.name, .string x.dst, .string x.text] 23 (0, 0)) := by rw [hV0]; exact heap_alloc_new _ _
  have hck := Check_any x.kind x.name x.dst x.text V0 h1 h2 h3
  have hFO : ∀ o, 1 ≤ o ∧ o < 4 → (#[.int .i64 x.kind, .string x.name, .string x.dst, .string x.text] : Array Value)[o]? = some (.string (fldL x o)) := fun o ho => by
    have : o = 1 ∨ o = 2 ∨ o = 3 := by omega
    rcases this with rfl | rfl | rfl <;> simp [fldL]
  have HFO := hide hFO
  have HFL := hide (lflat_len x)
  have HSN := hide (accL_snoc (wordK x.kind) x)
  have hwk := wordK_size x.kind
  have HA0 : Hid (accL (wordK x.kind) x [] = (wordK x.kind).data.toList) := hide (by simp [accL])
  have HAL : Hid (∀ O : List Nat, (accL (wordK x.kind) x O).length = (wordK x.kind).size + (O.flatMap (fun o => 32 :: (fldL x o).data.toList)).length) := hide fun O => by unfold accL; rw [List.length_append, bsize]
  have HW0 := hide (hw.below hb0)
  obtain ⟨k, na, nb, nc⟩ := x
  dsimp only at *
  obtain ⟨code, hcode⟩ : ∃ c, checkI ⟨k, na, nb, nc⟩ = c := ⟨_, rfl⟩
  rw [hcode] at hck HF HQ0
  have HCK := hide hck
  have HV0 := hide hV0
  have HB0 := hide hb0
  have HC0 := hide hC0
  have HWK := hide hwk
  clear hck hV0 hb0 hC0 hwk hFO HQ hcode h1 h2 h3 hw
  go_enter Tryd.func8, Tryd.ntmps8
  go_wp2_with fail
  rw [← unhide HV0]
  refine (unhide HCK).mono ?_
  rintro e w1 ⟨rfl, b1⟩
  have hC1 := (b1.block _ (Array.getElem?_eq_some_iff.1 (unhide HC0)).1).trans (unhide HC0)
  have hCl : w.heap.size < w1.heap.size := (Array.getElem?_eq_some_iff.1 hC1).1
  have HB1 := hide ((unhide HB0).trans (b1.mono (unhide HB0).size))
  have HW1 := hide ((unhide HW0).below b1)
  have HC1 := hide hC1
  clear b1 hC1 HC0 HB0 HW0 HV0 HCK
  by_cases hc : code = 0
  · subst hc
    obtain ⟨hk, hlin, hsm⟩ := (unhide HF) rfl
    have HQ : Hid (Q = (lineL ⟨k, na, nb, nc⟩, 0)) := hide (unhide HQ0)
    obtain ⟨V2, hV2⟩ : ∃ V, V = w1.alloc (.cells #[.pointer none, .slice none 0 0] 40) := ⟨_, rfl⟩
    have hb2 : Below w1.heap.size w1 V2 := by rw [hV2]; exact (Below.refl _ _).alloc (Nat.le_refl _) _
    have hz2 : V2.heap.size = w1.heap.size + 1 := by rw [hV2]; exact al_size _ _
    have HY2 : Hid (YB w1.heap.size w1.heap.size [] V2) := by rw [hV2]; exact Lib.IsBuilderF.of (Lib.fresh_isBuilder 40 5 w1)
    have hwc := wordK_cell ((unhide HW1).below hb2).tab hk
    obtain ⟨c0, _, _, _, _⟩ := fourK ((hb2.block _ hCl).trans (unhide HC1))
    rw [hV2, show (k - 1).toNat = k.toNat - 1 by omega] at hwc
    rw [hV2] at c0
    have hk1 : (0 : Int) ≤ k - 1 := by omega
    have hk2 : k - 1 < 6 := by omega
    have hkw : wrap64 (k - 1) = k - 1 := by unfold wrap64; omega
    have hwk := unhide HWK
    have HWS := hide (WriteStr_l w1.heap.size w1.heap.size [] (wordK k) V2 (unhide HY2) (by simp only [List.length_nil]; omega) (by omega))
    have HV2 := hide hV2
    have HB2 := hide hb2
    have HZ2 := hide hz2
    have HLIN := hide hlin
    have HSM := hide hsm
    have HKR := hide hk
    clear hb2 hz2 hV2 hlin hsm hk HF HQ0 hwk HY2
    go_wp2_with fail
    rw [← unhide HV2]
    refine (unhide HWS).mono ?_
    rintro e w3 ⟨rfl, y3, b3, _⟩
    have hB13 := (unhide HB2).trans b3
    have hC3 := (hB13.block _ hCl).trans (unhide HC1)
    have hs3 : w1.heap.size < w3.heap.size := by have := b3.size; have := unhide HZ2; omega
    have HPA := hide (parts_any k w.heap.size w3 ⟨by omega, by omega⟩ (by rw [cell_of_row _ _ _ _ _ _ hC3]; rfl))
    obtain ⟨m, hm⟩ : ∃ m, (offs k).length = m := ⟨_, rfl⟩
    rw [hm] at HPA
    have HM := hide hm
    have HY3 := hide y3
    have HB13 := hide hB13
    clear y3 b3 hB13 hC3 hm HWS HV2 HB2 HZ2 hwc c0 hk1 hk2 hkw
    go_wp2_with fail
    refine (unhide HPA).mono ?_
    rintro e w4 ⟨a, rfl, hpa, b4⟩
    have HY4 := hide (YB_below (unhide HY3) b4)
    have HB4 := hide ((unhide HB13).trans (b4.mono (unhide HB13).size))
    have HP4 : Hid (PAt w4 (w1.heap.size + 1) a w.heap.size (offs k)) := by
      rcases hpa with h | ⟨g2, cur, h1, h2, h3, h4⟩
      · exact Or.inl h
      · exact Or.inr ⟨g2, cur, h1, by omega, h3, h4⟩
    clear hpa b4 HPA HY3 HB13
    go_wp2_with fail
    go_loopw [21] (fun i wr => ∃ q : Nat, q ≤ m ∧ i = .int .i64 (q : Int) ∧ Hid (YB w1.heap.size w1.heap.size (accL (wordK k) ⟨k, na, nb, nc⟩ ((offs k).take q)) wr) ∧ Hid (Below w1.heap.size w1 wr) ∧ Hid (PAt wr (w1.heap.size + 1) a w.heap.size (offs k))) (fun i _ => m - (intOf i).toNat)
    case atStart => exact ⟨0, Nat.zero_le _, rfl, by rw [List.take_zero, unhide HA0]; exact unhide HY4, unhide HB4, unhide HP4⟩
    case round =>
      clear HY4 HB4 HP4 hs3
      obtain ⟨q, hq, rfl, HY, HB, HPT⟩ := hrel
      by_cases hlt : (q : Int) < (m : Int)
      · have hql : q < m := by omega
        rcases unhide HPT with h0 | ⟨g2, cur, rfl, hg2, hgr, hcur⟩
        · have := unhide HM; rw [h0] at this; simp at this; omega
        obtain ⟨o, ho⟩ : ∃ o, (offs k)[q]? = some o := ⟨_, List.getElem?_eq_getElem (by rw [unhide HM]; exact hql)⟩
        have hor := offs_in k q o ho
        have hptr : wr.cell? ⟨g2, q, none⟩ = some (.pointer (some ⟨w.heap.size, o, none⟩)) := by rw [cell_of_row _ _ _ _ _ _ hgr]; exact hcur q o ho
        have hq0 : (0 : Int) ≤ (q : Int) := by omega
        have hm2 : m ≤ 2 := by have := unhide HM; have := offs_le k; omega
        have htk : (offs k).take (q + 1) = (offs k).take q ++ [o] := by rw [List.take_add_one, ho]; rfl
        have hsn := (unhide HSN) ((offs k).take q) o
        rw [← htk] at hsn
        have hfl := (unhide HFL) ((offs k).take q) (fun p hp => (unhide HSM) p (List.mem_of_mem_take hp))
        have hal := (unhide HAL) ((offs k).take q)
        have hwk := unhide HWK
        have htl : ((offs k).take q).length ≤ 2 := by rw [List.length_take]; have := offs_le k; omega
        have hfs := (unhide HSM) o (List.mem_of_getElem? ho)
        have hfo := (unhide HFO) o hor
        generalize fldL ⟨k, na, nb, nc⟩ o = f at hsn hfs hfo
        obtain ⟨acc, hacc⟩ : ∃ acc, accL (wordK k) ⟨k, na, nb, nc⟩ ((offs k).take q) = acc := ⟨_, rfl⟩
        rw [hacc] at hsn hal HY
        have hal2 : acc.length ≤ 24 := by rw [hal]; omega
        have HAL2 := hide hal2
        have HSN2 := hide hsn
        have HFS := hide hfs
        have HFO2 := hide hfo
        have HGR := hide hgr
        have HCUR := hide hcur
        have HWB := hide (WriteBlank_l w1.heap.size w1.heap.size acc wr (unhide HY) (by omega) (unhide HB).size)
        clear hgr hcur ho hor hql htk hsn hfl hal hwk htl hfs hfo hal2 hacc
        go_wp2_with fail
        refine (unhide HWB).mono ?_
        rintro e w5 ⟨rfl, y5, b5, k5⟩
        have hg5 := row_kept k5 (unhide HGR) (by omega) (by decide)
        have hB5 := (unhide HB).trans b5
        have hC5 := (hB5.block _ hCl).trans (unhide HC1)
        have hv5 : w5.cell? ⟨w.heap.size, o, none⟩ = some (.string f) := by rw [cell_of_row _ _ _ _ _ _ hC5]; exact unhide HFO2
        have HWS := hide (WriteStr_l w1.heap.size w1.heap.size (acc ++ [32]) f w5 y5 (by have := unhide HAL2; have := unhide HFS; simp only [List.length_append, List.length_cons, List.length_nil]; omega) hB5.size)
        have HG5 := hide hg5
        have HB5 := hide hB5
        clear y5 b5 k5 hg5 hB5 hC5 HWB HGR HPT HB HY hptr
        go_wp2_with fail
        refine (unhide HWS).mono ?_
        rintro e w6 ⟨rfl, y6, b6, k6⟩
        have HP6 : Hid (PAt w6 (w1.heap.size + 1) (some ⟨g2, 0, none⟩) w.heap.size (offs k)) := Or.inr ⟨g2, cur, rfl, hg2, row_kept k6 (unhide HG5) (by omega) (by decide), unhide HCUR⟩
        have HB6 := hide ((unhide HB5).trans b6)
        rw [← unhide HSN2] at y6
        have HY6 := hide y6
        clear y6 b6 k6 HWS hv5
        go_wp2
        go_roundw
        case rel => exact ⟨q + 1, by omega, by go_num, HY6, HB6, HP6⟩
        case measure => simp [intOf]; omega
      · obtain rfl : q = m := by omega
        have hfull : (offs k).take q = offs k := List.take_of_length_le (by rw [unhide HM]; omega)
        have hY := unhide HY
        rw [hfull, unhide HLIN] at hY
        have HST := hide (String_y w1.heap.size w1.heap.size _ wr hY (unhide HB).size)
        obtain ⟨res, hres⟩ : ∃ res : ByteArray, (⟨(lineL ⟨k, na, nb, nc⟩).toArray⟩ : ByteArray) = res := ⟨_, rfl⟩
        rw [hres] at HST
        have HQ2 : Hid (B Q.1 = res ∧ Q.2 = 0) := hide (by rw [unhide HQ, ← hres]; exact ⟨rfl, rfl⟩)
        clear hfull hY hres hlt
        go_wp2_with fail
        refine (unhide HST).mono ?_
        rintro e w5 ⟨rfl, b5⟩
        have HBE := hide ((unhide HB1).trans (((unhide HB).trans b5).mono (unhide HB1).size))
        clear b5
        go_wp2
        go_ret2
        exact ⟨by rw [(unhide HQ2).1, (unhide HQ2).2]; rfl, unhide HBE⟩
  · have HQ : Hid (Q = ([], code)) := hide (by rw [unhide HQ0, if_pos hc])
    have hne : (code != 0) = true := by simpa using hc
    clear HQ0 hc HF
    go_wp2
    go_ret2
    exact ⟨by rw [unhide HQ]; rfl, unhide HB1⟩

end Go.Proofs.YtkbdaiopahmfiacDoor

namespace Go.Proofs.YtkbdaiopahmfiacDoor
open Go.RowKit
set_option linter.unusedSimpArgs false
set_option linter.unusedVariables false

/-- What is behind an answer's first words. -/
def tailL (u : List UInt8) : List UInt8 := if u = [] then [] else 32 :: u
/-- An answer's line. -/
def ansL (d : Int) (u : List UInt8) : List UInt8 := (if d = 0 then [111, 107] else [110, 111, 32] ++ Lib.itoa d) ++ tailL u
end Go.Proofs.YtkbdaiopahmfiacDoor
