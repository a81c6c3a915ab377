/- Texts joined, what is needed of them: Lf Lk Kb Lg Lh Kc Li Lj Ll Vg Open OpenB OpenP Ec Eh Lc Ld Lm Ei Ej Kd. -/
import Derived.Test.YtffgolanmaenfacGreatDoorDj4
import Derived.ChangeOld
import Derived.Lib.AtoiAll
import Derived.Lib.AtoiAllCases
import Derived.Lib.IndexBytes
import Derived.Lib.IndexLaws
import Derived.Lib.IndexMore
import Derived.Lib.ItoaLen
import Derived.Lib.SmallJoins
import Derived.Lib.Split
import Derived.Lib.TrimByte
import Derived.OpenShut
import Derived.ProofKit
import Derived.Shelf.Unicode.PredsPay
import Derived.ShutString
import Derived.SizedLaws
namespace Go.Proofs.YtffgolanmaenfacGreatDoor
open Go.RowKit
set_option linter.unusedSimpArgs false
set_option linter.unusedVariables false

/-- The first blank, by the library's own index. -/
theorem cut_index (l : List UInt8) : (Lib.index l [32] = -1 ∧ cutB l = (l, [], false)) ∨ ∃ i : Nat, Lib.index l [32] = i ∧ cutB l = (l.take i, l.drop (i + 1), true) := by
  rw [Lib.index_one]
  induction l with
  | nil => exact Or.inl ⟨by simp [Lib.indexByte], rfl⟩
  | cons x xs ih =>
    by_cases hx : x = 32
    · exact Or.inr ⟨0, by simp [Lib.indexByte, hx], by simp [cutB, hx]⟩
    · rcases ih with ⟨h1, h2⟩ | ⟨i, h1, h2⟩
      · exact Or.inl ⟨by simp [Lib.indexByte, hx, h1], by rw [cutB, if_neg hx, h2]⟩
      · refine Or.inr ⟨i + 1, ?_, by rw [cutB, if_neg hx, h2]; simp⟩
        simp [Lib.indexByte, hx, h1]
/-- A line's pieces: three at most. -/
def pcs (l : List UInt8) : List (List UInt8) :=
  if (cutB l).2.2 = false then [l]
  else if (cutB (cutB l).2.1).2.2 = false then [(cutB l).1, (cutB l).2.1]
  else [(cutB l).1, (cutB (cutB l).2.1).1, (cutB (cutB l).2.1).2.1]
theorem splitK_cut (k : Nat) (l : List UInt8) : Lib.splitK [32] 0 (k + 1) l = if (cutB l).2.2 = false then [l] else (cutB l).1 :: Lib.splitK [32] 0 k (cutB l).2.1 := by
  rw [Lib.splitK]
  rcases cut_index l with ⟨h1, h2⟩ | ⟨i, h1, h2⟩
  · rw [h1, h2]; simp
  · have hne : ¬ ((Lib.index l [32] == -1) = true) := fun e => by have := beq_iff_eq.1 e; omega
    have e : (Lib.index l [32]).toNat = i := by omega
    rw [if_neg hne, e, h2]; simp
theorem pcs_split (l : List UInt8) : Lib.splitK [32] 0 (min 3 (l.length + 1) - 1) l = pcs l := by
  unfold pcs
  match l with
  | [] => rfl
  | [x] =>
    show Lib.splitK [32] 0 (0 + 1) [x] = _
    rw [splitK_cut]
    by_cases hx : x = 32
    · subst hx; rfl
    · simp [cutB, hx]
  | x :: y :: zs =>
    have : min 3 ((x :: y :: zs).length + 1) - 1 = 1 + 1 := by simp only [List.length_cons]; omega
    rw [this, splitK_cut, splitK_cut]
    generalize cutB (x :: y :: zs) = c
    obtain ⟨c1, c2, c3⟩ := c
    dsimp only
    generalize hd : cutB c2 = d
    obtain ⟨d1, d2, d3⟩ := d
    cases c3 <;> cases d3 <;> simp [Lib.splitK]
theorem map_B {L : List ByteArray} {M : List (List UInt8)} (h : L.map (·.data.toList) = M) : L = M.map B := by
  rw [← h, List.map_map]
  have : (B ∘ fun x : ByteArray => x.data.toList) = id := by funext x; exact data_B x
  rw [this, List.map_id]
theorem pcs_bytes (s : ByteArray) : Lib.splitB ⟨#[32]⟩ 0 (min 3 (s.size + 1) - 1) s = (pcs s.data.toList).map B := by
  apply map_B
  rw [Lib.splitB_data]
  have hl : s.size = s.data.toList.length := by cases s; rfl
  rw [hl]
  exact pcs_split _
theorem pcs_len (l : List UInt8) : 1 ≤ (pcs l).length ∧ (pcs l).length ≤ 3 := by
  unfold pcs
  split
  · simp
  · split <;> simp

/-- The kind of a word; 0: none. -/
def kindL (w : List UInt8) : Int := if w = wMake then 1 else if w = wRemove then 2 else if w = wRename then 3 else if w = wAppend then 4 else if w = wRead then 5 else if w = wList then 6 else 0
/-- How many words stand behind a kind's own. -/
def np (k : Int) : Nat := if k = 1 ∨ k = 2 ∨ k = 5 then 1 else if k = 3 ∨ k = 4 then 2 else 0
/-- The call of pieces. -/
def aRead (P : List (List UInt8)) : ACall × Bool :=
  if kindL (P.getD 0 []) = 0 ∨ np (kindL (P.getD 0 [])) + 1 ≠ P.length then (noCall, false)
  else (⟨kindL (P.getD 0 []), B (P.getD 1 []), if kindL (P.getD 0 []) = 3 then B (P.getD 2 []) else ⟨#[]⟩, if kindL (P.getD 0 []) = 4 then B (P.getD 2 []) else ⟨#[]⟩⟩, true)
theorem read_words (l : List UInt8) : aRead (pcs l) = if (wordsC l).2 = false then (noCall, false) else ((wordsC l).1, true) := by
  obtain ⟨_, p2, _⟩ := cutB_back l
  unfold pcs wordsC
  generalize cutB l = c at *
  obtain ⟨c1, c2, c3⟩ := c
  dsimp only at *
  obtain ⟨_, q2, _⟩ := cutB_back c2
  generalize hd : cutB c2 = d at *
  obtain ⟨d1, d2, d3⟩ := d
  dsimp only at *
  have hc : c3 = false → d1 = [] ∧ d3 = false := fun h => by
    rw [(p2 h).2] at hd
    simp [cutB] at hd
    exact ⟨hd.1, hd.2.2⟩
  have n12 : wMake ≠ wRemove := by decide
  have n13 : wMake ≠ wRename := by decide
  have n14 : wMake ≠ wAppend := by decide
  have n15 : wMake ≠ wRead := by decide
  have n16 : wMake ≠ wList := by decide
  have n23 : wRemove ≠ wRename := by decide
  have n24 : wRemove ≠ wAppend := by decide
  have n25 : wRemove ≠ wRead := by decide
  have n26 : wRemove ≠ wList := by decide
  have n34 : wRename ≠ wAppend := by decide
  have n35 : wRename ≠ wRead := by decide
  have n36 : wRename ≠ wList := by decide
  have n45 : wAppend ≠ wRead := by decide
  have n46 : wAppend ≠ wList := by decide
  have n56 : wRead ≠ wList := by decide
  have hk : ∀ P : List (List UInt8), P.getD 0 [] = c1 → aRead P = if kindL c1 = 0 ∨ np (kindL c1) + 1 ≠ P.length then (noCall, false) else (⟨kindL c1, B (P.getD 1 []), if kindL c1 = 3 then B (P.getD 2 []) else ⟨#[]⟩, if kindL c1 = 4 then B (P.getD 2 []) else ⟨#[]⟩⟩, true) := fun P h => by
    unfold aRead; rw [h]
  cases c3 with
  | false =>
    obtain ⟨h1, h2⟩ := hc rfl
    subst h1; subst h2
    rw [if_pos rfl, (p2 rfl).1, hk _ rfl]
    by_cases h1 : c1 = wList
    · subst h1; rfl
    by_cases h2 : c1 = wMake
    · subst h2; rfl
    by_cases h3 : c1 = wRemove
    · subst h3; rfl
    by_cases h4 : c1 = wRead
    · subst h4; rfl
    by_cases h5 : c1 = wRename
    · subst h5; rfl
    by_cases h6 : c1 = wAppend
    · subst h6; rfl
    simp [kindL, h1, h2, h3, h4, h5, h6]
  | true =>
    rw [if_neg (by decide)]
    cases d3 with
    | false =>
      rw [if_pos rfl, (q2 rfl).1, hk _ rfl]
      by_cases h1 : c1 = wList
      · subst h1; rfl
      by_cases h2 : c1 = wMake
      · subst h2; rfl
      by_cases h3 : c1 = wRemove
      · subst h3; rfl
      by_cases h4 : c1 = wRead
      · subst h4; rfl
      by_cases h5 : c1 = wRename
      · subst h5; rfl
      by_cases h6 : c1 = wAppend
      · subst h6; rfl
      simp [kindL, h1, h2, h3, h4, h5, h6]
    | true =>
      rw [if_neg (by decide), hk _ rfl]
      by_cases h1 : c1 = wList
      · subst h1; rfl
      by_cases h2 : c1 = wMake
      · subst h2; rfl
      by_cases h3 : c1 = wRemove
      · subst h3; rfl
      by_cases h4 : c1 = wRead
      · subst h4; rfl
      by_cases h5 : c1 = wRename
      · subst h5; rfl
      by_cases h6 : c1 = wAppend
      · subst h6; rfl
      simp [kindL, h1, h2, h3, h4, h5, h6]
theorem parse_read (l : List UInt8) : aParse l = if (aRead (pcs l)).2 = false then (noCall, 12) else if checkI (aRead (pcs l)).1 ≠ 0 then (noCall, checkI (aRead (pcs l)).1) else ((aRead (pcs l)).1, 0) := by
  rw [read_words]
  unfold aParse
  cases (wordsC l).2 <;> rfl

end Go.Proofs.YtffgolanmaenfacGreatDoor

namespace Go.Proofs.YtffgolanmaenfacGreatDoor
open Go.RowKit Go.Shelf
set_option linter.unusedSimpArgs false
set_option linter.unusedVariables false

def lws_ren : Go.Shelf.Ren := ⟨fun | 166 => 76 | 240 => 118 | 276 => 152 | n => n, fun | 0 => 0 | 3 => 3 | 4 => 4 | 5 => 5 | 9 => 9 | 20 => 20 | 37 => 42 | 70 => 41 | 72 => 44 | 75 => 87 | 80 => 55 | 164 => 219 | n => n, fun | n => n⟩
theorem lws : Go.Proofs.Lays.n166 Tryz.prog lws_ren := {
  mixed := by kernel_rfl
  f166 := Tryz.func76.trans (congrArg some (by kernel_rfl))
  f240 := Tryz.func118.trans (congrArg some (by kernel_rfl))
  f276 := Tryz.func152.trans (congrArg some (by kernel_rfl))
  t0 := Tryz.underlying0
  a0 := Tryz.isAgg0
  z0 := Tryz.sizeOf0
  v0 := Tryz.zeroValue0
  t3 := Tryz.underlying3
  a3 := Tryz.isAgg3
  z3 := Tryz.sizeOf3
  v3 := Tryz.zeroValue3
  t4 := Tryz.underlying4
  a4 := Tryz.isAgg4
  z4 := Tryz.sizeOf4
  v4 := Tryz.zeroValue4
  t9 := Tryz.underlying9
  a9 := Tryz.isAgg9
  z9 := Tryz.sizeOf9
  v9 := Tryz.zeroValue9
  t20 := Tryz.underlying20
  a20 := Tryz.isAgg20
  z20 := Tryz.sizeOf20
  v20 := Tryz.zeroValue20
  t37 := Tryz.underlying42
  a37 := Tryz.isAgg42
  z37 := Tryz.sizeOf42
  v37 := Tryz.zeroValue42
  t70 := Tryz.underlying41
  a70 := Tryz.isAgg41
  z70 := Tryz.sizeOf41
  v70 := Tryz.zeroValue41
  t72 := Tryz.underlying44
  a72 := Tryz.isAgg44
  z72 := Tryz.sizeOf44
  v72 := Tryz.zeroValue44
  t75 := Tryz.underlying87
  a75 := Tryz.isAgg87
  z75 := Tryz.sizeOf87
  v75 := Tryz.zeroValue87
  t164 := Tryz.underlying219
  a164 := Tryz.isAgg219
  z164 := Tryz.sizeOf219
  v164 := Tryz.zeroValue219 }
theorem lws_x : Builder.Extra Tryz.prog lws_ren := {
  sizeBuilder := by kernel_rfl
  liesBuilder := by kernel_rfl
  t5 := Tryz.underlying5
  a5 := Tryz.isAgg5
  z5 := Tryz.sizeOf5
  v5 := Tryz.zeroValue5
  infoByte := by kernel_rfl
  cellsByte := by kernel_rfl
  sizeByte := by kernel_rfl
  neB5 := by decide }
theorem WriteStr_l (B b : Nat) (bs : List UInt8) (s : ByteArray) (w : World) (h : YB B b bs w) (hlen : bs.length + s.size ≤ 1000000) (hBw : B ≤ w.heap.size) :
    Calls Tryz.prog 76 #[.pointer (some ⟨b, 0, none⟩), .string s] w fun e w' => e = .returned (.tuple #[.int .i64 s.size, .nilIface]) ∧ YB B b (bs ++ s.data.toList) w' ∧ Below B w w' ∧ Lib.OthersKept 5 (some b) w w' := by
  refine (Any.Builder_WriteString_k (ρ := lws_ren) lws lws_x B b _ s w h (by rw [Lib.byteCells_length]; omega) hBw).mono ?_
  rintro e w' ⟨rfl, h1, h2, h3⟩
  refine ⟨rfl, ?_, h2, h3⟩
  unfold YB
  rw [Lib.byteCells_append, ← strCells_bytes]
  exact .inr h1
/-- A byte that is a blank. -/
theorem WriteBlank_l (B b : Nat) (bs : List UInt8) (w : World) (h : YB B b bs w) (hlen : bs.length ≤ 1000000) (hBw : B ≤ w.heap.size) :
    Calls Tryz.prog 78 #[.pointer (some ⟨b, 0, none⟩), .int .u8 32] w fun e w' => e = .returned .nilIface ∧ YB B b (bs ++ [32]) w' ∧ Below B w w' ∧ Lib.OthersKept 5 (some b) w w' :=
  WriteByte_y B b bs 32 w h hlen hBw
/-- A builder outlasts what turns nothing old. -/
theorem YB_below {B b : Nat} {bs : List UInt8} {w w' : World} (h : YB B b bs w) (hb : Below w.heap.size w w') : YB B b bs w' := by
  have go : ∀ p, Lib.BuilderAtF 44 5 B b p (Lib.byteCells bs) w → Lib.BuilderAtF 44 5 B b p (Lib.byteCells bs) w' := by
    rintro p ⟨h1, v, h2, h3, h4⟩
    refine ⟨h1, v, (hb.block b (Array.getElem?_eq_some_iff.1 h2).1).trans h2, ?_, h4⟩
    obtain ⟨k1, k2⟩ := h3
    refine ⟨k1, ?_⟩
    rcases k2 with k2 | ⟨g, cap, cur, fz, e1, e2, e3, e4⟩
    · exact .inl k2
    · exact .inr ⟨g, cap, cur, fz, e1, e2, (hb.block g (Array.getElem?_eq_some_iff.1 e3).1).trans e3, e4⟩
  rcases h with h | h
  · exact .inl (go _ h)
  · exact .inr (go _ h)
/-- A row that is no builder's outlasts a builder's writing. -/
theorem row_kept {b g : Nat} {w w' : World} {cur : Array Value} {t : TypeId} {fz : Nat × Nat} (hk : Lib.OthersKept 5 (some b) w w') (hg : w.heap[g]? = some (.cells cur t fz)) (hb : g ≠ b) (ht : t ≠ 5) : w'.heap[g]? = some (.cells cur t fz) :=
  hk g _ hg (fun e => hb (Option.some.inj e)) (fun c fz e => by injection e with _ h _; exact absurd h ht)

end Go.Proofs.YtffgolanmaenfacGreatDoor

namespace Go.Proofs.YtffgolanmaenfacGreatDoor
open Go.RowKit
set_option linter.unusedSimpArgs false
set_option linter.unusedVariables false

theorem New_some (me : Int) (w : World) (h : ¬ (me < 0 ∨ 3 ≤ me)) : Calls Tryz.prog 24 #[.int .i64 me] w fun e w' => e = .returned (.pointer (some ⟨w.heap.size, 0, none⟩)) ∧ w' = w.alloc (.cells #[.int .i64 me, .slice none 0 0, .int .i64 0, .string ⟨#[]⟩, .string ⟨#[]⟩, .string ⟨#[]⟩, .bool false] 118) := by
  have h0 : ¬ me < 0 := by omega
  have h3 : ¬ (3 : Int) ≤ me := by omega
  clear h
  go_enter Tryz.func24, Tryz.ntmps24
  go_wp2
  go_ret
  exact ⟨rfl, rfl⟩
theorem seven {w : World} {b : Nat} {x0 x1 x2 x3 x4 x5 x6 : Value} {e : TypeId} (h : w.heap[b]? = some (.cells #[x0, x1, x2, x3, x4, x5, x6] e (0, 0))) :
    (w.cell? ⟨b, 0, none⟩ = some x0 ∧ w.cell? ⟨b, 1, none⟩ = some x1 ∧ w.cell? ⟨b, 2, none⟩ = some x2 ∧ w.cell? ⟨b, 3, none⟩ = some x3) ∧ (w.cell? ⟨b, 4, none⟩ = some x4 ∧ w.cell? ⟨b, 5, none⟩ = some x5 ∧ w.cell? ⟨b, 6, none⟩ = some x6) ∧ ∀ j, w.frozen? ⟨b, j, none⟩ = false := by
  refine ⟨⟨?_, ?_, ?_, ?_⟩, ⟨?_, ?_, ?_⟩, fun j => frozen_of_row w b j _ _ h⟩ <;> rw [cell_of_row w b _ _ _ _ h] <;> rfl
theorem eightK {w : World} {b : Nat} {x0 x1 x2 x3 x4 x5 x6 x7 : Value} {e : TypeId} (h : w.heap[b]? = some (.cells #[x0, x1, x2, x3, x4, x5, x6, x7] e (0, 0))) :
    (w.cell? ⟨b, 0, none⟩ = some x0 ∧ w.cell? ⟨b, 1, none⟩ = some x1 ∧ w.cell? ⟨b, 2, none⟩ = some x2 ∧ w.cell? ⟨b, 3, none⟩ = some x3) ∧ (w.cell? ⟨b, 4, none⟩ = some x4 ∧ w.cell? ⟨b, 5, none⟩ = some x5 ∧ w.cell? ⟨b, 6, none⟩ = some x6 ∧ w.cell? ⟨b, 7, none⟩ = some x7) ∧ ∀ j, w.frozen? ⟨b, j, none⟩ = false := by
  refine ⟨⟨?_, ?_, ?_, ?_⟩, ⟨?_, ?_, ?_, ?_⟩, fun j => frozen_of_row w b j _ _ h⟩ <;> rw [cell_of_row w b _ _ _ _ h] <;> rfl
theorem fourK {w : World} {b : Nat} {x0 x1 x2 x3 : Value} {e : TypeId} (h : w.heap[b]? = some (.cells #[x0, x1, x2, x3] e (0, 0))) :
    w.cell? ⟨b, 0, none⟩ = some x0 ∧ w.cell? ⟨b, 1, none⟩ = some x1 ∧ w.cell? ⟨b, 2, none⟩ = some x2 ∧ w.cell? ⟨b, 3, none⟩ = some x3 ∧ ∀ j, w.frozen? ⟨b, j, none⟩ = false := by
  refine ⟨?_, ?_, ?_, ?_, fun j => frozen_of_row w b j _ _ h⟩ <;> rw [cell_of_row w b _ _ _ _ h] <;> rfl
theorem twoK {w : World} {b : Nat} {x0 x1 : Value} {e : TypeId} (h : w.heap[b]? = some (.cells #[x0, x1] e (0, 0))) :
    w.cell? ⟨b, 0, none⟩ = some x0 ∧ w.cell? ⟨b, 1, none⟩ = some x1 ∧ ∀ j, w.frozen? ⟨b, j, none⟩ = false := by
  refine ⟨?_, ?_, fun j => frozen_of_row w b j _ _ h⟩ <;> rw [cell_of_row w b _ _ _ _ h] <;> rfl

theorem number_any {N : Nat} {w : World} {X : Nat} {v : Value} {c : ACli} (h : KRep N w X v c) : Calls Tryz.prog 191 #[.pointer (some ⟨X, 0, none⟩)] w fun e w' => e = .returned (.int .i64 c.no) ∧ w' = w := by
  obtain ⟨a, cap, rfl⟩ := h.o.form
  obtain ⟨⟨x0, x1, x2, x3⟩, ⟨x4, x5, x6⟩, xf⟩ := seven h.o.blk
  have hf := h.ok.few
  obtain ⟨n, hn⟩ : ∃ n, c.done.length = n := ⟨_, rfl⟩
  have hno : c.no = (n : Int) + 1 := by unfold ACli.no; rw [hn]
  have hw : wrap64 ((n : Int) + 1) = (n : Int) + 1 := by unfold wrap64; omega
  rw [hno]
  rw [hn] at x1
  clear h x0 x2 x3 x4 x5 x6
  go_enter Tryz.func191, Tryz.ntmps191
  go_wp2
  go_ret
  exact ⟨rfl, rfl⟩
end Go.Proofs.YtffgolanmaenfacGreatDoor

namespace Go.Proofs.YtffgolanmaenfacGreatDoor
open Go.RowKit
set_option linter.unusedSimpArgs false
set_option linter.unusedVariables false

/-- The words' table lies in memory. -/
structure WTab (w : World) : Prop where
  c0 : w.cell? ⟨3, 0, none⟩ = some (.string ⟨#[109, 97, 107, 101]⟩)
  c1 : w.cell? ⟨3, 1, none⟩ = some (.string ⟨#[114, 101, 109, 111, 118, 101]⟩)
  c2 : w.cell? ⟨3, 2, none⟩ = some (.string ⟨#[114, 101, 110, 97, 109, 101]⟩)
  c3 : w.cell? ⟨3, 3, none⟩ = some (.string ⟨#[97, 112, 112, 101, 110, 100]⟩)
  c4 : w.cell? ⟨3, 4, none⟩ = some (.string ⟨#[114, 101, 97, 100]⟩)
  c5 : w.cell? ⟨3, 5, none⟩ = some (.string ⟨#[108, 105, 115, 116]⟩)
theorem cell_lt {w : World} {a : Addr} {v : Value} (h : w.cell? a = some v) : a.block < w.heap.size := by
  unfold World.cell? at h
  split at h
  · rename_i he; exact (Array.getElem?_eq_some_iff.1 he).1
  · cases h
theorem cell_on {w w' : World} {a : Addr} {v : Value} (hb : Below w.heap.size w w') (h : w.cell? a = some v) : w'.cell? a = some v := (hb.cell (cell_lt h)).trans h
theorem WTab.below {w w' : World} (h : WTab w) (hb : Below w.heap.size w w') : WTab w' :=
  ⟨cell_on hb h.c0, cell_on hb h.c1, cell_on hb h.c2, cell_on hb h.c3, cell_on hb h.c4, cell_on hb h.c5⟩

theorem str_eq (l : List UInt8) (s : ByteArray) : (l == s.toList) = decide (s.data.toList = l) := by
  rw [toList_data]
  by_cases h : s.data.toList = l
  · simp [h]
  · have : l ≠ s.data.toList := fun e => h e.symm
    simp [h, this]

theorem widx0 (w : World) : (Instr.index 221 (.agg #[.string ⟨#[109, 97, 107, 101]⟩, .string ⟨#[114, 101, 109, 111, 118, 101]⟩, .string ⟨#[114, 101, 110, 97, 109, 101]⟩, .string ⟨#[97, 112, 112, 101, 110, 100]⟩, .string ⟨#[114, 101, 97, 100]⟩, .string ⟨#[108, 105, 115, 116]⟩]) (.int .i64 0)).run Tryz.prog w = .ok (.string ⟨#[109, 97, 107, 101]⟩) w := by kernel_rfl
theorem widx1 (w : World) : (Instr.index 221 (.agg #[.string ⟨#[109, 97, 107, 101]⟩, .string ⟨#[114, 101, 109, 111, 118, 101]⟩, .string ⟨#[114, 101, 110, 97, 109, 101]⟩, .string ⟨#[97, 112, 112, 101, 110, 100]⟩, .string ⟨#[114, 101, 97, 100]⟩, .string ⟨#[108, 105, 115, 116]⟩]) (.int .i64 1)).run Tryz.prog w = .ok (.string ⟨#[114, 101, 109, 111, 118, 101]⟩) w := by kernel_rfl
theorem widx2 (w : World) : (Instr.index 221 (.agg #[.string ⟨#[109, 97, 107, 101]⟩, .string ⟨#[114, 101, 109, 111, 118, 101]⟩, .string ⟨#[114, 101, 110, 97, 109, 101]⟩, .string ⟨#[97, 112, 112, 101, 110, 100]⟩, .string ⟨#[114, 101, 97, 100]⟩, .string ⟨#[108, 105, 115, 116]⟩]) (.int .i64 2)).run Tryz.prog w = .ok (.string ⟨#[114, 101, 110, 97, 109, 101]⟩) w := by kernel_rfl
theorem widx3 (w : World) : (Instr.index 221 (.agg #[.string ⟨#[109, 97, 107, 101]⟩, .string ⟨#[114, 101, 109, 111, 118, 101]⟩, .string ⟨#[114, 101, 110, 97, 109, 101]⟩, .string ⟨#[97, 112, 112, 101, 110, 100]⟩, .string ⟨#[114, 101, 97, 100]⟩, .string ⟨#[108, 105, 115, 116]⟩]) (.int .i64 3)).run Tryz.prog w = .ok (.string ⟨#[97, 112, 112, 101, 110, 100]⟩) w := by kernel_rfl
theorem widx4 (w : World) : (Instr.index 221 (.agg #[.string ⟨#[109, 97, 107, 101]⟩, .string ⟨#[114, 101, 109, 111, 118, 101]⟩, .string ⟨#[114, 101, 110, 97, 109, 101]⟩, .string ⟨#[97, 112, 112, 101, 110, 100]⟩, .string ⟨#[114, 101, 97, 100]⟩, .string ⟨#[108, 105, 115, 116]⟩]) (.int .i64 4)).run Tryz.prog w = .ok (.string ⟨#[114, 101, 97, 100]⟩) w := by kernel_rfl
theorem widx5 (w : World) : (Instr.index 221 (.agg #[.string ⟨#[109, 97, 107, 101]⟩, .string ⟨#[114, 101, 109, 111, 118, 101]⟩, .string ⟨#[114, 101, 110, 97, 109, 101]⟩, .string ⟨#[97, 112, 112, 101, 110, 100]⟩, .string ⟨#[114, 101, 97, 100]⟩, .string ⟨#[108, 105, 115, 116]⟩]) (.int .i64 5)).run Tryz.prog w = .ok (.string ⟨#[108, 105, 115, 116]⟩) w := by kernel_rfl
set_option maxRecDepth 100000 in
set_option maxHeartbeats 4000000 in
theorem kindOf_any (s : ByteArray) (w : World) (hw : WTab w) :
    Calls Tryz.prog 120 #[.string s] w fun e w' => e = .returned (.int .i64 (kindL s.data.toList)) ∧ w' = w := by
  obtain ⟨c0, c1, c2, c3, c4, c5⟩ := hw
  obtain ⟨r, HR⟩ : ∃ r, Hid (kindL s.data.toList = r) := ⟨_, rfl⟩
  rw [unhide HR]
  have HE := hide (str_eq · s)
  go_enter Tryz.func120, Tryz.ntmps120
  go_wp2
  clear c0 c1 c2 c3 c4 c5
  go_loop [6] (fun i => ∃ k : Nat, k ≤ 6 ∧ i = .int .i64 k ∧ Hid (s.data.toList ∉ [wMake, wRemove, wRename, wAppend, wRead, wList].take k)) (fun i => 6 - (intOf i).toNat)
  case atStart => exact ⟨0, Nat.zero_le _, rfl, by show _ ∉ _; simp⟩
  case round =>
    obtain ⟨q, hq, rfl, HA⟩ := hrel
    have hq' : q = 0 ∨ q = 1 ∨ q = 2 ∨ q = 3 ∨ q = 4 ∨ q = 5 ∨ q = 6 := by omega
    rcases hq' with rfl | rfl | rfl | rfl | rfl | rfl | rfl
    · have hi := widx0 w
      by_cases hx : s.data.toList = wMake
      · have he := (unhide HE) wMake
        rw [decide_eq_true hx] at he
        unfold wMake at he
        have HK : Hid (r = 1) := by show r = 1; rw [← show kindL s.data.toList = r from unhide HR, hx]; rfl
        clear hx
        go_wp2
        go_ret
        exact ⟨by rw [unhide HK]; rfl, rfl⟩
      · have he := (unhide HE) wMake
        rw [decide_eq_false hx] at he
        unfold wMake at he
        have HA2 : Hid (s.data.toList ∉ [wMake, wRemove, wRename, wAppend, wRead, wList].take 1) := by
          have hn := unhide HA
          show _ ∉ _
          simp only [List.take, List.mem_cons, List.not_mem_nil, or_false, not_or] at hn ⊢
          simp only [hn, hx, not_false_eq_true, and_self]
        clear hx
        go_wp2
        go_round
        case rel => exact ⟨1, by omega, by go_num, HA2⟩
        case measure => simp [intOf]
    · have hi := widx1 w
      by_cases hx : s.data.toList = wRemove
      · have he := (unhide HE) wRemove
        rw [decide_eq_true hx] at he
        unfold wRemove at he
        have HK : Hid (r = 2) := by show r = 2; rw [← show kindL s.data.toList = r from unhide HR, hx]; rfl
        clear hx
        go_wp2
        go_ret
        exact ⟨by rw [unhide HK]; rfl, rfl⟩
      · have he := (unhide HE) wRemove
        rw [decide_eq_false hx] at he
        unfold wRemove at he
        have HA2 : Hid (s.data.toList ∉ [wMake, wRemove, wRename, wAppend, wRead, wList].take 2) := by
          have hn := unhide HA
          show _ ∉ _
          simp only [List.take, List.mem_cons, List.not_mem_nil, or_false, not_or] at hn ⊢
          simp only [hn, hx, not_false_eq_true, and_self]
        clear hx
        go_wp2
        go_round
        case rel => exact ⟨2, by omega, by go_num, HA2⟩
        case measure => simp [intOf]
    · have hi := widx2 w
      by_cases hx : s.data.toList = wRename
      · have he := (unhide HE) wRename
        rw [decide_eq_true hx] at he
        unfold wRename at he
        have HK : Hid (r = 3) := by show r = 3; rw [← show kindL s.data.toList = r from unhide HR, hx]; rfl
        clear hx
        go_wp2
        go_ret
        exact ⟨by rw [unhide HK]; rfl, rfl⟩
      · have he := (unhide HE) wRename
        rw [decide_eq_false hx] at he
        unfold wRename at he
        have HA2 : Hid (s.data.toList ∉ [wMake, wRemove, wRename, wAppend, wRead, wList].take 3) := by
          have hn := unhide HA
          show _ ∉ _
          simp only [List.take, List.mem_cons, List.not_mem_nil, or_false, not_or] at hn ⊢
          simp only [hn, hx, not_false_eq_true, and_self]
        clear hx
        go_wp2
        go_round
        case rel => exact ⟨3, by omega, by go_num, HA2⟩
        case measure => simp [intOf]
    · have hi := widx3 w
      by_cases hx : s.data.toList = wAppend
      · have he := (unhide HE) wAppend
        rw [decide_eq_true hx] at he
        unfold wAppend at he
        have HK : Hid (r = 4) := by show r = 4; rw [← show kindL s.data.toList = r from unhide HR, hx]; rfl
        clear hx
        go_wp2
        go_ret
        exact ⟨by rw [unhide HK]; rfl, rfl⟩
      · have he := (unhide HE) wAppend
        rw [decide_eq_false hx] at he
        unfold wAppend at he
        have HA2 : Hid (s.data.toList ∉ [wMake, wRemove, wRename, wAppend, wRead, wList].take 4) := by
          have hn := unhide HA
          show _ ∉ _
          simp only [List.take, List.mem_cons, List.not_mem_nil, or_false, not_or] at hn ⊢
          simp only [hn, hx, not_false_eq_true, and_self]
        clear hx
        go_wp2
        go_round
        case rel => exact ⟨4, by omega, by go_num, HA2⟩
        case measure => simp [intOf]
    · have hi := widx4 w
      by_cases hx : s.data.toList = wRead
      · have he := (unhide HE) wRead
        rw [decide_eq_true hx] at he
        unfold wRead at he
        have HK : Hid (r = 5) := by show r = 5; rw [← show kindL s.data.toList = r from unhide HR, hx]; rfl
        clear hx
        go_wp2
        go_ret
        exact ⟨by rw [unhide HK]; rfl, rfl⟩
      · have he := (unhide HE) wRead
        rw [decide_eq_false hx] at he
        unfold wRead at he
        have HA2 : Hid (s.data.toList ∉ [wMake, wRemove, wRename, wAppend, wRead, wList].take 5) := by
          have hn := unhide HA
          show _ ∉ _
          simp only [List.take, List.mem_cons, List.not_mem_nil, or_false, not_or] at hn ⊢
          simp only [hn, hx, not_false_eq_true, and_self]
        clear hx
        go_wp2
        go_round
        case rel => exact ⟨5, by omega, by go_num, HA2⟩
        case measure => simp [intOf]
    · have hi := widx5 w
      by_cases hx : s.data.toList = wList
      · have he := (unhide HE) wList
        rw [decide_eq_true hx] at he
        unfold wList at he
        have HK : Hid (r = 6) := by show r = 6; rw [← show kindL s.data.toList = r from unhide HR, hx]; rfl
        clear hx
        go_wp2
        go_ret
        exact ⟨by rw [unhide HK]; rfl, rfl⟩
      · have he := (unhide HE) wList
        rw [decide_eq_false hx] at he
        unfold wList at he
        have HA2 : Hid (s.data.toList ∉ [wMake, wRemove, wRename, wAppend, wRead, wList].take 6) := by
          have hn := unhide HA
          show _ ∉ _
          simp only [List.take, List.mem_cons, List.not_mem_nil, or_false, not_or] at hn ⊢
          simp only [hn, hx, not_false_eq_true, and_self]
        clear hx
        go_wp2
        go_round
        case rel => exact ⟨6, by omega, by go_num, HA2⟩
        case measure => simp [intOf]
    · have HK : Hid (r = 0) := by
        show r = 0
        rw [← show kindL s.data.toList = r from unhide HR]
        have hn := unhide HA
        simp only [List.take, List.mem_cons, List.not_mem_nil, or_false, not_or] at hn
        unfold kindL
        rw [if_neg hn.1, if_neg hn.2.1, if_neg hn.2.2.1, if_neg hn.2.2.2.1, if_neg hn.2.2.2.2.1, if_neg hn.2.2.2.2.2]
      go_wp2
      go_ret
      exact ⟨by rw [unhide HK]; rfl, rfl⟩

end Go.Proofs.YtffgolanmaenfacGreatDoor

namespace Go.Proofs.YtffgolanmaenfacGreatDoor
open Go.RowKit
set_option linter.unusedSimpArgs false
set_option linter.unusedVariables false

/-- Where the words behind a kind's own lie in a call. -/
def offs (k : Int) : List Nat := if k = 1 ∨ k = 2 ∨ k = 5 then [1] else if k = 3 then [1, 2] else if k = 4 then [1, 3] else []
/-- A row of pointers into the call at block C. -/
def PAt (w : World) (lo : Nat) (a : Option Addr) (C : Nat) (O : List Nat) : Prop :=
  O = [] ∨ ∃ g cur, a = some ⟨g, 0, none⟩ ∧ lo ≤ g ∧ w.heap[g]? = some (.cells cur 166 (0, 0)) ∧ ∀ (j o : Nat), O[j]? = some o → cur[j]? = some (.pointer (some ⟨C, o, none⟩))

set_option maxRecDepth 100000 in
set_option maxHeartbeats 4000000 in
theorem parts_one (k : Int) (C : Nat) (w : World) (hk : k = 1 ∨ k = 2 ∨ k = 5) (h : w.cell? ⟨C, 0, none⟩ = some (.int .i64 k)) :
    Calls Tryz.prog 82 #[.pointer (some ⟨C, 0, none⟩)] w fun e w' => e = .returned (.slice (some ⟨w.heap.size, 0, none⟩) 1 1) ∧ w' = w.alloc (.cells #[.pointer (some ⟨C, 1, none⟩)] 166) := by
  rcases hk with rfl | rfl | rfl
  · go_enter Tryz.func82, Tryz.ntmps82
    go_wp2
    go_ret
    exact ⟨rfl, rfl⟩
  · go_enter Tryz.func82, Tryz.ntmps82
    go_wp2
    go_ret
    exact ⟨rfl, rfl⟩
  · go_enter Tryz.func82, Tryz.ntmps82
    go_wp2
    go_ret
    exact ⟨rfl, rfl⟩
set_option maxRecDepth 100000 in
set_option maxHeartbeats 4000000 in
theorem parts_none (k : Int) (C : Nat) (w : World) (hk : k = 0 ∨ k = 6) (h : w.cell? ⟨C, 0, none⟩ = some (.int .i64 k)) :
    Calls Tryz.prog 82 #[.pointer (some ⟨C, 0, none⟩)] w fun e w' => e = .returned (.slice none 0 0) ∧ w' = w := by
  rcases hk with rfl | rfl
  · go_enter Tryz.func82, Tryz.ntmps82
    go_wp2
    go_ret
    exact ⟨rfl, rfl⟩
  · go_enter Tryz.func82, Tryz.ntmps82
    go_wp2
    go_ret
    exact ⟨rfl, rfl⟩
set_option maxRecDepth 100000 in
set_option maxHeartbeats 4000000 in
theorem parts_ren (C : Nat) (w : World) (h : w.cell? ⟨C, 0, none⟩ = some (.int .i64 3)) :
    Calls Tryz.prog 82 #[.pointer (some ⟨C, 0, none⟩)] w fun e w' => e = .returned (.slice (some ⟨w.heap.size, 0, none⟩) 2 2) ∧ Below w.heap.size w w' ∧ w'.heap[w.heap.size]? = some (.cells #[.pointer (some ⟨C, 1, none⟩), .pointer (some ⟨C, 2, none⟩)] 166 (0, 0)) := by
  go_enter Tryz.func82, Tryz.ntmps82
  go_wp2
  go_region
  go_wp2
  go_ret
  exact ⟨rfl, (((Below.refl _ _).alloc (Nat.le_refl _) _)).drew, heap_alloc_new _ _⟩
set_option maxRecDepth 100000 in
set_option maxHeartbeats 4000000 in
theorem parts_app (C : Nat) (w : World) (h : w.cell? ⟨C, 0, none⟩ = some (.int .i64 4)) :
    Calls Tryz.prog 82 #[.pointer (some ⟨C, 0, none⟩)] w fun e w' => e = .returned (.slice (some ⟨w.heap.size, 0, none⟩) 2 2) ∧ Below w.heap.size w w' ∧ w'.heap[w.heap.size]? = some (.cells #[.pointer (some ⟨C, 1, none⟩), .pointer (some ⟨C, 3, none⟩)] 166 (0, 0)) := by
  go_enter Tryz.func82, Tryz.ntmps82
  go_wp2
  go_region
  go_wp2
  go_ret
  exact ⟨rfl, (((Below.refl _ _).alloc (Nat.le_refl _) _)).drew, heap_alloc_new _ _⟩
theorem parts_any (k : Int) (C : Nat) (w : World) (hk : 0 ≤ k ∧ k ≤ 6) (h : w.cell? ⟨C, 0, none⟩ = some (.int .i64 k)) :
    Calls Tryz.prog 82 #[.pointer (some ⟨C, 0, none⟩)] w fun e w' => ∃ a, e = .returned (.slice a (offs k).length (offs k).length) ∧ PAt w' w.heap.size a C (offs k) ∧ Below w.heap.size w w' := by
  have hk' : (k = 1 ∨ k = 2 ∨ k = 5) ∨ (k = 0 ∨ k = 6) ∨ k = 3 ∨ k = 4 := by omega
  rcases hk' with h1 | h1 | rfl | rfl
  · have eo : offs k = [1] := by rw [offs, if_pos h1]
    refine (parts_one k C w h1 h).mono ?_
    rintro e w' ⟨rfl, rfl⟩
    rw [eo]
    refine ⟨_, rfl, Or.inr ⟨_, _, rfl, Nat.le_refl _, heap_alloc_new _ _, ?_⟩, (Below.refl _ _).alloc (Nat.le_refl _) _⟩
    intro j o hj
    match j, hj with
    | 0, hj => simp at hj; subst hj; rfl
    | j + 1, hj => simp at hj
  · have eo : offs k = [] := by rcases h1 with rfl | rfl <;> rfl
    refine (parts_none k C w h1 h).mono ?_
    rintro e w' ⟨rfl, rfl⟩
    rw [eo]
    exact ⟨_, rfl, Or.inl rfl, Below.refl _ _⟩
  · refine (parts_ren C w h).mono ?_
    rintro e w' ⟨rfl, hb, hg⟩
    refine ⟨_, rfl, Or.inr ⟨_, _, rfl, Nat.le_refl _, hg, ?_⟩, hb⟩
    intro j o hj
    have hj' : [1, 2][j]? = some o := hj
    match j, hj' with
    | 0, hj => simp at hj; subst hj; rfl
    | 1, hj => simp at hj; subst hj; rfl
    | j + 2, hj => simp at hj
  · refine (parts_app C w h).mono ?_
    rintro e w' ⟨rfl, hb, hg⟩
    refine ⟨_, rfl, Or.inr ⟨_, _, rfl, Nat.le_refl _, hg, ?_⟩, hb⟩
    intro j o hj
    have hj' : [1, 3][j]? = some o := hj
    match j, hj' with
    | 0, hj => simp at hj; subst hj; rfl
    | 1, hj => simp at hj; subst hj; rfl
    | j + 2, hj => simp at hj

end Go.Proofs.YtffgolanmaenfacGreatDoor

namespace Go.Proofs.YtffgolanmaenfacGreatDoor
open Go.RowKit
set_option linter.unusedSimpArgs false
set_option linter.unusedVariables false

theorem info100s : (Tryz.prog.info? 100).map (·.size) = some 2 := by kernel_rfl
theorem info70s : (Tryz.prog.info? 70).map (·.size) = some 4 := by kernel_rfl

set_option maxRecDepth 100000 in
set_option maxHeartbeats 4000000 in
theorem cloneAnswer_any (d : Int) (u : ByteArray) (w : World) (hu : u.size ≤ 281474976710656) : Calls Tryz.prog 174 #[.agg #[.int .i64 d, .string u]] w fun e w' => e = .returned (.agg #[.int .i64 d, .string u]) ∧ Below w.heap.size w w' := by
  obtain ⟨V, hV⟩ : ∃ V, V = (w.alloc (.cells #[.int .i64 d, .string u] 100)).alloc (.cells #[.int .i64 0, .string ⟨#[]⟩] 100) := ⟨_, rfl⟩
  have hB0 : Below w.heap.size w V := by rw [hV]; exact ((Below.refl _ _).alloc (Nat.le_refl _) _).alloc (by simp) _
  have hX0 : V.heap[w.heap.size]? = some (.cells #[.int .i64 d, .string u] 100 (0, 0)) := by rw [hV, Below.heap_alloc _ _ _ (by simp)]; exact heap_alloc_new _ _
  have hY0 : V.heap[w.heap.size + 1]? = some (.cells #[.int .i64 0, .string ⟨#[]⟩] 100 (0, 0)) := by rw [hV]; have := heap_alloc_new (w.alloc (.cells #[.int .i64 d, .string u] 100)) (.cells #[.int .i64 0, .string ⟨#[]⟩] 100); simpa using this
  have HC1 := hide (fun W => SClone_any u W hu)
  obtain ⟨x0, x1, xf⟩ := twoK hX0
  have HV := hide hV
  have HB0 := hide hB0
  have HX0 := hide hX0
  have HY0 := hide hY0
  clear hB0 hX0 hY0 hV
  go_enter Tryz.func174, Tryz.ntmps174
  go_wp2_with fail
  rw [← unhide HV]
  refine ((unhide HC1) _).mono ?_
  rintro e w1 ⟨rfl, b1⟩
  clear x0 x1 xf
  have hX1 := (b1.block _ (Array.getElem?_eq_some_iff.1 (unhide HX0)).1).trans (unhide HX0)
  have hY1 := (b1.block _ (Array.getElem?_eq_some_iff.1 (unhide HY0)).1).trans (unhide HY0)
  have hS1 := set_same (j := 1) (x := .string u) hX1 rfl
  have hT1 : (w1.setCell ⟨w.heap.size, 1, none⟩ (.string u)).heap[w.heap.size + 1]? = _ := (Below.heap_setCell w1 _ _ _ (by simp)).trans hY1
  have hbx := below_set (j := 1) (x := .string u) ((unhide HB0).trans (b1.mono (unhide HB0).size)) (Nat.le_refl w.heap.size)
  obtain ⟨V1, hV1⟩ : ∃ V, V = w1.setCell ⟨w.heap.size, 1, none⟩ (.string u) := ⟨_, rfl⟩
  rw [← hV1] at hS1 hT1 hbx
  obtain ⟨V5, hV5⟩ : ∃ V, V = V1.setRow (w.heap.size + 1) #[.int .i64 d, .string u] := ⟨_, rfl⟩
  have hZ : V5.heap[w.heap.size + 1]? = some (.cells #[.int .i64 d, .string u] 100 (0, 0)) := by rw [hV5]; exact setRow_heap V1 (w.heap.size + 1) _ _ 100 (0, 0) hT1
  have hB5 : Below w.heap.size w V5 := by
    have h := hbx
    rw [hV5]
    exact ⟨h.os, h.tape, h.output, by simp [World.setRow]; exact h.size, fun k hk => (setRow_other V1 (w.heap.size + 1) k _ (by omega)).trans (h.block k hk)⟩
  obtain ⟨z0, z1, _⟩ := twoK hZ
  obtain ⟨x0, x1, xf⟩ := twoK hX1
  have HB5 := hide hB5
  rw [hV1] at hV5
  have hYn := (Below.heap_setCell w1 ⟨w.heap.size, 1, none⟩ (.string u) (w.heap.size + 1) (by simp)).trans hY1
  clear hB5 hZ hX1 hY1 hS1 hT1 hbx hV1 b1
  go_wp2_with (refine wpList_store_row rfl 100 _ _ rfl (w.heap.size + 1) #[.int .i64 d, .string u] rfl rfl 100 _ hYn info100s rfl (by simp [Value.oneCell']) ?_)
  rw [← hV5]
  refine bodyPost_ret (v := .agg #[.int .i64 d, .string u]) (by simp [results, Tryz.results174, go_sem, z0, z1]) rfl ⟨rfl, unhide HB5⟩

theorem keep_set {W : World} {b i j : Nat} {u v : Value} (hi : W.cell? ⟨b, i, none⟩ = some u) (hj : W.cell? ⟨b, j, none⟩ = some v) : (W.setCell ⟨b, i, none⟩ u).cell? ⟨b, j, none⟩ = some v := by
  by_cases h : i = j
  · subst h
    rw [hi] at hj
    rw [World.cell?_setCell_same _ _ _ hi]
    exact hj
  · rw [World.cell?_setCell_other _ _ _ _ (by simp [h])]
    exact hj
theorem keep3 {W : World} {b i1 i2 i3 : Nat} {u1 u2 u3 : Value} (h : W.cell? ⟨b, i1, none⟩ = some u1 ∧ W.cell? ⟨b, i2, none⟩ = some u2 ∧ W.cell? ⟨b, i3, none⟩ = some u3) {i : Nat} {u : Value} (hi : W.cell? ⟨b, i, none⟩ = some u) :
    (W.setCell ⟨b, i, none⟩ u).cell? ⟨b, i1, none⟩ = some u1 ∧ (W.setCell ⟨b, i, none⟩ u).cell? ⟨b, i2, none⟩ = some u2 ∧ (W.setCell ⟨b, i, none⟩ u).cell? ⟨b, i3, none⟩ = some u3 := ⟨keep_set hi h.1, keep_set hi h.2.1, keep_set hi h.2.2⟩

set_option maxRecDepth 100000 in
set_option maxHeartbeats 4000000 in
theorem cloneCall_any (x : ACall) (w : World) (hx : SmallC x) : Calls Tryz.prog 173 #[.agg #[.int .i64 x.kind, .string x.name, .string x.dst, .string x.text]] w fun e w' => e = .returned (.agg #[.int .i64 x.kind, .string x.name, .string x.dst, .string x.text]) ∧ Below w.heap.size w w' := by
  obtain ⟨h1, h2, h3⟩ := hx
  obtain ⟨k, a, b, t⟩ := x
  dsimp only at *
  obtain ⟨V, hV⟩ : ∃ V, V = (w.alloc (.cells #[.int .i64 k, .string a, .string b, .string t] 70)).alloc (.cells #[.int .i64 0, .string ⟨#[]⟩, .string ⟨#[]⟩, .string ⟨#[]⟩] 70) := ⟨_, rfl⟩
  have hB0 : Below w.heap.size w V := by rw [hV]; exact ((Below.refl _ _).alloc (Nat.le_refl _) _).alloc (by simp) _
  have hX0 : V.heap[w.heap.size]? = some (.cells #[.int .i64 k, .string a, .string b, .string t] 70 (0, 0)) := by rw [hV, Below.heap_alloc _ _ _ (by simp)]; exact heap_alloc_new _ _
  have hY0 : V.heap[w.heap.size + 1]? = some (.cells #[.int .i64 0, .string ⟨#[]⟩, .string ⟨#[]⟩, .string ⟨#[]⟩] 70 (0, 0)) := by rw [hV]; have := heap_alloc_new (w.alloc (.cells #[.int .i64 k, .string a, .string b, .string t] 70)) (.cells #[.int .i64 0, .string ⟨#[]⟩, .string ⟨#[]⟩, .string ⟨#[]⟩] 70); simpa using this
  have hzV : w.heap.size + 1 < V.heap.size := (Array.getElem?_eq_some_iff.1 hY0).1
  have HC1 := hide (fun W => SClone_any a W h1)
  have HC2 := hide (fun W => SClone_any b W h2)
  have HC3 := hide (fun W => SClone_any t W h3)
  obtain ⟨x0, x1, x2, x3, xf⟩ := fourK hX0
  have HV := hide hV
  have HB0 := hide hB0
  have HX0 := hide hX0
  have HY0 := hide hY0
  clear hB0 hX0 hY0 hV h1 h2 h3
  go_enter Tryz.func173, Tryz.ntmps173
  go_wp2_with fail
  rw [← unhide HV]
  have HF : Hid (∀ W, Below V.heap.size V W → W.cell? ⟨w.heap.size, 1, none⟩ = some (.string a) ∧ W.cell? ⟨w.heap.size, 2, none⟩ = some (.string b) ∧ W.cell? ⟨w.heap.size, 3, none⟩ = some (.string t) ∧ W.frozen? ⟨w.heap.size, 1, none⟩ = false ∧ W.frozen? ⟨w.heap.size, 2, none⟩ = false ∧ W.frozen? ⟨w.heap.size, 3, none⟩ = false) := fun W hW => by
    obtain ⟨_, y1, y2, y3, yf⟩ := fourK ((hW.block _ (by omega)).trans (unhide HX0))
    exact ⟨y1, y2, y3, yf _, yf _, yf _⟩
  have xf1 := xf 1
  have xf2 := xf 2
  have xf3 := xf 3
  clear xf
  go_region_held3 (fun W => W.cell? ⟨w.heap.size, 1, none⟩ = some (.string a) ∧ W.cell? ⟨w.heap.size, 2, none⟩ = some (.string b) ∧ W.cell? ⟨w.heap.size, 3, none⟩ = some (.string t)) (first | (go_keep; done) | (exact keep3 (by assumption) (And.left (by assumption))) | (exact keep3 (by assumption) (And.left (And.right (by assumption)))) | (exact keep3 (by assumption) (And.right (And.right (by assumption))))) (first
    | (go_at_call 83; refine ((unhide HC1) _).mono ?_; rintro e w1 ⟨rfl, b1⟩; have bV1 := (below_drew V).trans b1; obtain ⟨p1, p2, p3, p4, p5, p6⟩ := (unhide HF) w1 bV1)
    | (go_at_call 83; refine ((unhide HC2) _).mono ?_; rintro e w2 ⟨rfl, b2⟩; have bV2 := bV1.trans (b2.mono bV1.size); obtain ⟨q1, q2, q3, q4, q5, q6⟩ := (unhide HF) w2 bV2)
    | (go_at_call 83; refine ((unhide HC3) _).mono ?_; rintro e w3 ⟨rfl, b3⟩; have bV3 := bV2.trans (b3.mono bV2.size); obtain ⟨r1, r2, r3, r4, r5, r6⟩ := (unhide HF) w3 bV3))
  all_goals
    have hX3 := (bV3.block _ (by omega)).trans (unhide HX0)
    have hY3 := (bV3.block _ hzV).trans (unhide HY0)
    have hX4 := set_same (j := 3) (x := .string t) (set_same (j := 2) (x := .string b) (set_same (j := 1) (x := .string a) hX3 rfl) rfl) rfl
    obtain ⟨W4, hW4⟩ : ∃ W, W = ((w3.setCell ⟨w.heap.size, 1, none⟩ (.string a)).setCell ⟨w.heap.size, 2, none⟩ (.string b)).setCell ⟨w.heap.size, 3, none⟩ (.string t) := ⟨_, rfl⟩
    have hY4 : W4.heap[w.heap.size + 1]? = some (.cells #[.int .i64 0, .string ⟨#[]⟩, .string ⟨#[]⟩, .string ⟨#[]⟩] 70 (0, 0)) := by
      rw [hW4, Below.heap_setCell _ _ _ _ (by simp), Below.heap_setCell _ _ _ _ (by simp), Below.heap_setCell _ _ _ _ (by simp)]
      exact hY3
    have hB4 : Below w.heap.size w W4 := by
      rw [hW4]
      exact below_set (below_set (below_set ((unhide HB0).trans (bV3.mono (unhide HB0).size)) (Nat.le_refl _)) (Nat.le_refl _)) (Nat.le_refl _)
    rw [← hW4] at hX4
    obtain ⟨m0, m1, m2, m3, mf⟩ := fourK hX4
    obtain ⟨V5, hV5⟩ : ∃ V, V = W4.setRow (w.heap.size + 1) #[.int .i64 k, .string a, .string b, .string t] := ⟨_, rfl⟩
    have hZ : V5.heap[w.heap.size + 1]? = some (.cells #[.int .i64 k, .string a, .string b, .string t] 70 (0, 0)) := by rw [hV5]; exact setRow_heap W4 (w.heap.size + 1) _ _ 70 (0, 0) hY4
    have hB5 : Below w.heap.size w V5 := by
      rw [hV5]
      exact ⟨hB4.os, hB4.tape, hB4.output, by simp [World.setRow]; exact hB4.size, fun k hk => (setRow_other W4 (w.heap.size + 1) k _ (by omega)).trans (hB4.block k hk)⟩
    obtain ⟨z0, z1, z2, z3, _⟩ := fourK hZ
    have HB5 := hide hB5
    rw [← hW4]
    clear hB5 hZ hX3 hY3 hX4 hB4 hW4 p1 p2 p3 p4 p5 p6 q1 q2 q3 q4 q5 q6 r1 r2 r3 r4 r5 r6 b1 b2 b3 bV1 bV2 bV3 x0 x1 x2 x3 xf1 xf2 xf3 mf
    go_wp2_with (refine wpList_store_row rfl 70 _ _ rfl (w.heap.size + 1) #[.int .i64 k, .string a, .string b, .string t] rfl rfl 70 _ hY4 info70s rfl (by simp [Value.oneCell']) ?_)
    rw [← hV5]
    refine bodyPost_ret (v := .agg #[.int .i64 k, .string a, .string b, .string t]) (by simp [results, Tryz.results173, go_sem, z0, z1, z2, z3]) rfl ⟨rfl, unhide HB5⟩

end Go.Proofs.YtffgolanmaenfacGreatDoor

namespace Go.Proofs.YtffgolanmaenfacGreatDoor
open Go.RowKit
set_option linter.unusedSimpArgs false
set_option linter.unusedVariables false

theorem kindL_range (l : List UInt8) : 0 ≤ kindL l ∧ kindL l ≤ 6 := by
  unfold kindL
  repeat' split
  all_goals omega
theorem offs_len (k : Int) : (offs k).length = np k := by
  unfold offs np
  by_cases h1 : k = 1 ∨ k = 2 ∨ k = 5
  · rw [if_pos h1, if_pos h1]; rfl
  rw [if_neg h1, if_neg h1]
  by_cases h3 : k = 3
  · rw [if_pos h3, if_pos (Or.inl h3)]; rfl
  rw [if_neg h3]
  by_cases h4 : k = 4
  · rw [if_pos h4, if_pos (Or.inr h4)]; rfl
  rw [if_neg h4, if_neg (by omega)]; rfl
theorem offs_in (k : Int) (j o : Nat) (h : (offs k)[j]? = some o) : 1 ≤ o ∧ o < 4 := by
  unfold offs at h
  have hm := List.mem_of_getElem? h
  split at hm
  · simp at hm; omega
  split at hm
  · simp at hm; omega
  split at hm
  · simp at hm; omega
  · simp at hm
/-- A call's cells, some of them set. -/
def rdA (k : Int) (L : List (Nat × List UInt8)) : Array Value := L.foldl (fun A p => A.setIfInBounds p.1 (.string (B p.2))) #[.int .i64 k, .string ⟨#[]⟩, .string ⟨#[]⟩, .string ⟨#[]⟩]
theorem rdA_snoc (k : Int) (L : List (Nat × List UInt8)) (o : Nat) (x : List UInt8) : rdA k (L ++ [(o, x)]) = (rdA k L).setIfInBounds o (.string (B x)) := by
  unfold rdA; rw [List.foldl_append]; rfl
theorem rdA_size (k : Int) (L : List (Nat × List UInt8)) : (rdA k L).size = 4 := by
  unfold rdA
  suffices h : ∀ A : Array Value, A.size = 4 → (L.foldl (fun A p => A.setIfInBounds p.1 (.string (B p.2))) A).size = 4 from h _ rfl
  induction L with
  | nil => exact fun A h => h
  | cons p L ih => exact fun A h => ih _ (by simp [h])
theorem rdA_full (P : List (List UInt8)) (k : Int) (hk : 0 ≤ k ∧ k ≤ 6) (h0 : k ≠ 0) (hl : np k + 1 = P.length) :
    rdA k ((offs k).zip P.tail) = #[.int .i64 k, .string (B (P.getD 1 [])), .string (if k = 3 then B (P.getD 2 []) else ⟨#[]⟩), .string (if k = 4 then B (P.getD 2 []) else ⟨#[]⟩)] := by
  have hk' : k = 1 ∨ k = 2 ∨ k = 3 ∨ k = 4 ∨ k = 5 ∨ k = 6 := by omega
  rcases hk' with rfl | rfl | rfl | rfl | rfl | rfl
  · match P, hl with
    | [p, x], _ => rfl
  · match P, hl with
    | [p, x], _ => rfl
  · match P, hl with
    | [p, x, y], _ => rfl
  · match P, hl with
    | [p, x, y], _ => rfl
  · match P, hl with
    | [p, x], _ => rfl
  · match P, hl with
    | [p], _ => rfl
/-- A whole call stored where the answer lies. -/
theorem store4 {w W : World} {C : Array Value} (hx : W.heap[w.heap.size]? = some (.cells C 70 (0, 0))) (hb : Below w.heap.size w W) (a b c d : Value) :
    (W.setRow w.heap.size #[a, b, c, d]).heap[w.heap.size]? = some (.cells #[a, b, c, d] 70 (0, 0)) ∧ Below w.heap.size w (W.setRow w.heap.size #[a, b, c, d]) :=
  ⟨setRow_heap W w.heap.size _ _ 70 (0, 0) hx, hb.os, hb.tape, hb.output, by simp [World.setRow]; exact hb.size, fun k hk => (setRow_other W w.heap.size k _ (by omega)).trans (hb.block k hk)⟩

set_option maxRecDepth 100000 in
set_option maxHeartbeats 4000000 in
theorem lread_any (g cap : Nat) (P : List (List UInt8)) (w : World) (hw : WTab w) (h1 : 1 ≤ P.length) (h3 : P.length ≤ 3) (hP : ∀ (j : Nat) (x : List UInt8), P[j]? = some x → w.cell? ⟨g, j, none⟩ = some (.string (B x))) :
    Calls Tryz.prog 79 #[.slice (some ⟨g, 0, none⟩) P.length cap] w fun e w' => e = .returned (.tuple #[.agg #[.int .i64 (aRead P).1.kind, .string (aRead P).1.name, .string (aRead P).1.dst, .string (aRead P).1.text], .bool (aRead P).2]) ∧ Below w.heap.size w w' := by
  obtain ⟨x0, hx0⟩ : ∃ x, P[0]? = some x := ⟨_, List.getElem?_eq_getElem (by omega)⟩
  have hd0 : P.getD 0 [] = x0 := by rw [List.getD_eq_getElem?_getD, hx0]; rfl
  have hc0 := hP 0 x0 hx0
  obtain ⟨k, hk⟩ : ∃ k, kindL x0 = k := ⟨_, rfl⟩
  have hkr := kindL_range x0
  rw [hk] at hkr
  obtain ⟨n, hn⟩ : ∃ n, P.length = n := ⟨_, rfl⟩
  obtain ⟨R, HR⟩ : ∃ R, Hid (aRead P = R) := ⟨_, rfl⟩
  have HRE : Hid (R = if k = 0 ∨ np k + 1 ≠ n then (noCall, false) else (⟨k, B (P.getD 1 []), if k = 3 then B (P.getD 2 []) else ⟨#[]⟩, if k = 4 then B (P.getD 2 []) else ⟨#[]⟩⟩, true)) := by
    show R = _
    rw [← show aRead P = R from unhide HR, aRead, hd0, hk, hn]
  rw [show aRead P = R from unhide HR, hn]
  have HP := hide hP
  obtain ⟨V0, hV0⟩ : ∃ V, V = w.alloc (.cells #[.int .i64 0, .string ⟨#[]⟩, .string ⟨#[]⟩, .string ⟨#[]⟩] 70) := ⟨_, rfl⟩
  have hb0 : Below w.heap.size w V0 := by rw [hV0]; exact (Below.refl _ _).alloc (Nat.le_refl _) _
  have HK : Hid (∀ (W : World), WTab W → Calls Tryz.prog 120 #[.string (B x0)] W fun e w' => e = .returned (.int .i64 k) ∧ w' = W) := fun W hW => by
    have := kindOf_any (B x0) W hW
    rw [B_data, hk] at this
    exact this
  have hc0a := cell_on hb0 hc0
  rw [hV0] at hc0a
  have HV0 := hide hV0
  have HB0 := hide hb0
  have HW := hide hw
  have hi0 : (0 : Int) < (n : Int) := by omega
  clear hV0 hP hx0 hd0 hw hk hb0 HR
  go_enter Tryz.func79, Tryz.ntmps79
  go_wp2_with fail
  rw [← unhide HV0]
  refine ((unhide HK) V0 ((unhide HW).below (unhide HB0))).mono ?_
  rintro e w1 ⟨rfl, rfl⟩
  have hX0 : w1.heap[w.heap.size]? = some (.cells #[.int .i64 0, .string ⟨#[]⟩, .string ⟨#[]⟩, .string ⟨#[]⟩] 70 (0, 0)) := by rw [unhide HV0]; exact heap_alloc_new _ _
  have hXl : w.heap.size < w1.heap.size := (Array.getElem?_eq_some_iff.1 hX0).1
  obtain ⟨V1, hV1⟩ : ∃ V, V = w1.alloc (.cells #[.int .i64 k, .string ⟨#[]⟩, .string ⟨#[]⟩, .string ⟨#[]⟩] 70) := ⟨_, rfl⟩
  have hC1 : V1.heap[w1.heap.size]? = some (.cells #[.int .i64 k, .string ⟨#[]⟩, .string ⟨#[]⟩, .string ⟨#[]⟩] 70 (0, 0)) := by rw [hV1]; exact heap_alloc_new _ _
  have hX1 : V1.heap[w.heap.size]? = some (.cells #[.int .i64 0, .string ⟨#[]⟩, .string ⟨#[]⟩, .string ⟨#[]⟩] 70 (0, 0)) := by rw [hV1, Below.heap_alloc _ _ _ hXl]; exact hX0
  have hB1 : Below w.heap.size w V1 := by rw [hV1]; exact (unhide HB0).alloc (by omega) _
  have HPA := hide (parts_any k w1.heap.size V1 hkr (by rw [cell_of_row _ _ _ _ _ _ hC1]; rfl))
  obtain ⟨m, hm⟩ : ∃ m, (offs k).length = m := ⟨_, rfl⟩
  rw [hm] at HPA
  have hmn : np k = m := by rw [← offs_len, hm]
  have HC1 := hide hC1
  have HX1 := hide hX1
  have HB1 := hide hB1
  have HV1 := hide hV1
  clear hC1 hX1 hB1 hV1 hc0 hc0a hX0 HK
  go_wp2_with fail
  rw [← unhide HV1]
  refine (unhide HPA).mono ?_
  rintro e w2 ⟨a, rfl, hpa, b2⟩
  have hX2 := (b2.block _ (Array.getElem?_eq_some_iff.1 (unhide HX1)).1).trans (unhide HX1)
  have hC2 := (b2.block _ (Array.getElem?_eq_some_iff.1 (unhide HC1)).1).trans (unhide HC1)
  have hB2 := (unhide HB1).trans (b2.mono (unhide HB1).size)
  have hCl : w1.heap.size < V1.heap.size := (Array.getElem?_eq_some_iff.1 (unhide HC1)).1
  obtain ⟨cc0, _, _, _, _⟩ := fourK hC2
  have HPAT := hide hpa
  have HX2 := hide hX2
  have HC2 := hide hC2
  have HB2 := hide hB2
  have hwr : wrap64 ((n : Int) - 1) = (n : Int) - 1 := by unfold wrap64; omega
  have hwr2 : IntKind.i64.wrap ((n : Int) - 1) = (n : Int) - 1 := by rw [IntKind.wrap_i64]; omega
  have HM := hide hm
  clear hpa b2 hX2 hC2 hB2 HPA HC1 HX1 HV1 hm
  by_cases hk0 : k = 0
  · have hRR : R = (noCall, false) := by rw [unhide HRE, if_pos (Or.inl hk0)]
    have hkb : (k == 0) = true := by simpa using hk0
    clear hk0 hkr HRE
    obtain ⟨hz, hBZ⟩ := store4 (unhide HX2) (unhide HB2) (.int .i64 0) (.string ⟨#[]⟩) (.string ⟨#[]⟩) (.string ⟨#[]⟩)
    obtain ⟨V5, hV5⟩ : ∃ V5, V5 = w2.setRow w.heap.size #[.int .i64 0, .string ⟨#[]⟩, .string ⟨#[]⟩, .string ⟨#[]⟩] := ⟨_, rfl⟩
    rw [← hV5] at hz hBZ
    obtain ⟨z0, z1, z2, z3, _⟩ := fourK hz
    have hX2 := unhide HX2
    go_wp2_with (refine wpList_store_row rfl 70 _ _ rfl w.heap.size #[.int .i64 0, .string ⟨#[]⟩, .string ⟨#[]⟩, .string ⟨#[]⟩] rfl rfl 70 _ hX2 info70s rfl (by simp [Value.oneCell']) ?_)
    rw [← hV5]
    refine bodyPost_ret (v := .tuple #[.agg #[.int .i64 0, .string ⟨#[]⟩, .string ⟨#[]⟩, .string ⟨#[]⟩], .bool false]) (by simp [results, Tryz.results79, go_sem, z0, z1, z2, z3]) rfl ⟨by rw [hRR]; rfl, hBZ⟩
  · have hkb : (k == 0) = false := by simpa using hk0
    by_cases hnm : m + 1 = n
    · have hne : ((m : Int) != (n : Int) - 1) = false := by simp; omega
      have hRR : R = (⟨k, B (P.getD 1 []), if k = 3 then B (P.getD 2 []) else ⟨#[]⟩, if k = 4 then B (P.getD 2 []) else ⟨#[]⟩⟩, true) := by rw [unhide HRE, if_neg (fun h => by rcases h with h | h; exact hk0 h; exact h (by omega))]
      have HFULL := hide (rdA_full P k hkr hk0 (by omega))
      have HRR := hide hRR
      have hm2 : m ≤ 2 := by omega
      have HNM := hide hnm
      have HN := hide hn
      clear hk0 HRE hRR hnm hmn hn h1 h3 hi0 hkr
      go_wp2_with fail
      go_loopw [28] (fun i wr => ∃ q : Nat, q ≤ m ∧ i = .int .i64 (q : Int) ∧ Hid (wr.heap[w1.heap.size]? = some (.cells (rdA k (((offs k).zip P.tail).take q)) 70 (0, 0))) ∧ Hid (wr.heap[w.heap.size]? = some (.cells #[.int .i64 0, .string ⟨#[]⟩, .string ⟨#[]⟩, .string ⟨#[]⟩] 70 (0, 0))) ∧ Hid (Below w.heap.size w wr) ∧ Hid (PAt wr V1.heap.size a w1.heap.size (offs k))) (fun i _ => m - (intOf i).toNat)
      case atStart => exact ⟨0, Nat.zero_le _, rfl, unhide HC2, unhide HX2, unhide HB2, unhide HPAT⟩
      case round =>
        clear HC2 HX2 HB2 HPAT cc0 hne hwr hwr2
        obtain ⟨q, hq, rfl, HC, HX, HB, HPT⟩ := hrel
        by_cases hlt : (q : Int) < (m : Int)
        · have hql : q < m := by omega
          rcases unhide HPT with h0 | ⟨g2, cur, rfl, hg2, hgr, hcur⟩
          · have := unhide HM; rw [h0] at this; simp at this; omega
          obtain ⟨o, ho⟩ : ∃ o, (offs k)[q]? = some o := ⟨_, List.getElem?_eq_getElem (by rw [unhide HM]; exact hql)⟩
          obtain ⟨x, hx⟩ : ∃ x, P[q + 1]? = some x := ⟨_, List.getElem?_eq_getElem (by have := unhide HN; have := unhide HNM; omega)⟩
          have hpx := cell_on (w := w) (w' := wr) (unhide HB) ((unhide HP) (q + 1) x hx)
          have hor := offs_in k q o ho
          have hptr : wr.cell? ⟨g2, q, none⟩ = some (.pointer (some ⟨w1.heap.size, o, none⟩)) := by rw [cell_of_row _ _ _ _ _ _ hgr]; exact hcur q o ho
          have hsz := rdA_size k (((offs k).zip P.tail).take q)
          obtain ⟨v0, hv0⟩ : ∃ v, wr.cell? ⟨w1.heap.size, o, none⟩ = some v := ⟨_, by rw [cell_of_row _ _ _ _ _ _ (unhide HC)]; exact Array.getElem?_eq_getElem (by rw [hsz]; omega)⟩
          have hfz := frozen_of_row wr w1.heap.size o _ _ (unhide HC)
          have hq0 : (0 : Int) ≤ (q : Int) := by omega
          have hqn : (q : Int) + 1 < (n : Int) := by have := unhide HNM; omega
          have hq1 : (0 : Int) ≤ (q : Int) + 1 := by omega
          have hn1 : ((q : Int) + 1).toNat = q + 1 := by omega
          have hw1 : wrap64 ((q : Int) + 1) = (q : Int) + 1 := by unfold wrap64; omega
          have hzip : ((offs k).zip P.tail)[q]? = some (o, x) := by
            rw [List.getElem?_zip_eq_some]
            exact ⟨ho, by rw [List.getElem?_tail]; exact hx⟩
          have HC2 : Hid ((wr.setCell ⟨w1.heap.size, o, none⟩ (.string (B x))).heap[w1.heap.size]? = some (.cells (rdA k (((offs k).zip P.tail).take (q + 1))) 70 (0, 0))) := by
            show _ = _
            rw [heap_setCell_same (unhide HC), List.take_add_one, hzip]
            show _ = some (Obj.cells (rdA k (_ ++ [(o, x)])) _ _)
            rw [rdA_snoc]
          have HX2 : Hid ((wr.setCell ⟨w1.heap.size, o, none⟩ (.string (B x))).heap[w.heap.size]? = some (.cells #[.int .i64 0, .string ⟨#[]⟩, .string ⟨#[]⟩, .string ⟨#[]⟩] 70 (0, 0))) := (Below.heap_setCell _ _ _ _ (by simp; omega)).trans (unhide HX)
          have HB2 : Hid (Below w.heap.size w (wr.setCell ⟨w1.heap.size, o, none⟩ (.string (B x)))) := (unhide HB).setCell (by simp; omega) _
          have HP2 : Hid (PAt (wr.setCell ⟨w1.heap.size, o, none⟩ (.string (B x))) V1.heap.size (some ⟨g2, 0, none⟩) w1.heap.size (offs k)) := Or.inr ⟨g2, cur, rfl, hg2, (Below.heap_setCell _ _ _ _ (by simp; omega)).trans hgr, hcur⟩
          clear hgr hcur ho hx hor hsz hzip HC HX HB HPT hql
          go_wp2
          go_roundw
          case rel => exact ⟨q + 1, by omega, by go_num, HC2, HX2, HB2, HP2⟩
          case measure => simp [intOf]; omega
        · obtain rfl : q = m := by omega
          have hC := unhide HC
          have htk : ((offs k).zip P.tail).take q = (offs k).zip P.tail := List.take_of_length_le (by rw [List.length_zip, unhide HM]; omega)
          rw [htk, unhide HFULL] at hC
          obtain ⟨y0, y1, y2, y3, _⟩ := fourK hC
          have hX := unhide HX
          obtain ⟨hz, hBZ⟩ := store4 hX (unhide HB) (.int .i64 k) (.string (B (P.getD 1 []))) (.string (if k = 3 then B (P.getD 2 []) else ⟨#[]⟩)) (.string (if k = 4 then B (P.getD 2 []) else ⟨#[]⟩))
          have hRR := unhide HRR
          generalize B (P.getD 1 []) = na at *
          generalize (if k = 3 then B (P.getD 2 []) else ⟨#[]⟩) = nb at *
          generalize (if k = 4 then B (P.getD 2 []) else ⟨#[]⟩) = nc at *
          obtain ⟨V5, hV5⟩ : ∃ V5, V5 = wr.setRow w.heap.size #[.int .i64 k, .string na, .string nb, .string nc] := ⟨_, rfl⟩
          rw [← hV5] at hz hBZ
          obtain ⟨z0, z1, z2, z3, _⟩ := fourK hz
          clear hC hz htk HFULL HRR HC HX HB HPT
          go_wp2_with (refine wpList_store_row rfl 70 _ _ rfl w.heap.size #[.int .i64 k, .string na, .string nb, .string nc] rfl rfl 70 _ hX info70s rfl (by simp [Value.oneCell']) ?_)
          rw [← hV5]
          refine bodyPost_ret (v := .tuple #[.agg #[.int .i64 k, .string na, .string nb, .string nc], .bool true]) (by simp [results, Tryz.results79, go_sem, z0, z1, z2, z3]) rfl ⟨by first | rfl | (rw [hRR]; rfl), hBZ⟩
    · have hne : ((m : Int) != (n : Int) - 1) = true := by simp; omega
      have hRR : R = (noCall, false) := by rw [unhide HRE, if_pos (Or.inr (by omega))]
      clear hk0 hkr HRE hnm hmn
      obtain ⟨hz, hBZ⟩ := store4 (unhide HX2) (unhide HB2) (.int .i64 0) (.string ⟨#[]⟩) (.string ⟨#[]⟩) (.string ⟨#[]⟩)
      obtain ⟨V5, hV5⟩ : ∃ V5, V5 = w2.setRow w.heap.size #[.int .i64 0, .string ⟨#[]⟩, .string ⟨#[]⟩, .string ⟨#[]⟩] := ⟨_, rfl⟩
      rw [← hV5] at hz hBZ
      obtain ⟨z0, z1, z2, z3, _⟩ := fourK hz
      have hX2 := unhide HX2
      go_wp2_with (refine wpList_store_row rfl 70 _ _ rfl w.heap.size #[.int .i64 0, .string ⟨#[]⟩, .string ⟨#[]⟩, .string ⟨#[]⟩] rfl rfl 70 _ hX2 info70s rfl (by simp [Value.oneCell']) ?_)
      rw [← hV5]
      refine bodyPost_ret (v := .tuple #[.agg #[.int .i64 0, .string ⟨#[]⟩, .string ⟨#[]⟩, .string ⟨#[]⟩], .bool false]) (by simp [results, Tryz.results79, go_sem, z0, z1, z2, z3]) rfl ⟨by first | rfl | (rw [hRR]; rfl), hBZ⟩

end Go.Proofs.YtffgolanmaenfacGreatDoor

namespace Go.Proofs.YtffgolanmaenfacGreatDoor
open Go.RowKit
set_option linter.unusedSimpArgs false
set_option linter.unusedVariables false

/-- What a line's functions read of memory. -/
structure LW (w : World) : Prop where
  tab : WTab w
  ml : ∃ m, w.cell? ⟨0, 0, none⟩ = some (.int .i64 m)
  pw : Lib.TabIs Tryz.prog w "internal/strconv.uint64pow10" .u64 Lib.pow10Tab
theorem TabIs_on {n : String} {k : IntKind} {zs : List Int} {w w' : World} (h : Lib.TabIs Tryz.prog w n k zs) (hb : Below w.heap.size w w') : Lib.TabIs Tryz.prog w' n k zs := by
  unfold Lib.TabIs World.var? at h ⊢
  cases hg : Tryz.prog.globalNamed n with
  | none => rw [hg] at h; simp at h
  | some g =>
    rw [hg] at h
    simp only [Option.bind_some] at h ⊢
    have hlt : g < w.heap.size := by
      rcases Nat.lt_or_ge g w.heap.size with h1 | h1
      · exact h1
      · rw [Array.getElem?_eq_none h1] at h; simp at h
    rw [hb.block g hlt]
    exact h
theorem LW.below {w w' : World} (h : LW w) (hb : Below w.heap.size w w') : LW w' := by
  obtain ⟨m, hm⟩ := h.ml
  exact ⟨h.tab.below hb, ⟨m, cell_on hb hm⟩, TabIs_on h.pw hb⟩
theorem cutB_len (l : List UInt8) : (cutB l).1.length ≤ l.length ∧ (cutB l).2.1.length ≤ l.length := by
  obtain ⟨h1, h2, _⟩ := cutB_back l
  cases h : (cutB l).2.2 with
  | true =>
    have e := congrArg List.length (h1 h)
    simp only [List.length_append, List.length_cons] at e
    omega
  | false =>
    have e := congrArg List.length (h2 h).1
    rw [(h2 h).2]
    simp only [List.length_nil]
    omega
theorem pcs_short (l : List UInt8) : ∀ x, x ∈ pcs l → x.length ≤ l.length := by
  have h1 := cutB_len l
  have h2 := cutB_len (cutB l).2.1
  intro x hx
  unfold pcs at hx
  split at hx
  · simp at hx; rw [hx]; exact Nat.le_refl _
  split at hx
  · simp at hx; rcases hx with rfl | rfl <;> omega
  · simp at hx; rcases hx with rfl | rfl | rfl <;> omega
theorem offs_le (k : Int) : (offs k).length ≤ 2 := by
  unfold offs
  split
  · decide
  split
  · decide
  split
  · decide
  · decide
theorem lB_size (l : List UInt8) : (B l).size = l.length := by show l.toArray.size = _; simp
theorem getD_short {P : List (List UInt8)} {M : Nat} (h : ∀ x, x ∈ P → x.length ≤ M) (j : Nat) : (B (P.getD j [])).size ≤ M := by
  rw [lB_size, List.getD_eq_getElem?_getD]
  cases hj : P[j]? with
  | none => simp
  | some x => exact h x (List.mem_of_getElem? hj)
theorem aRead_facts {P : List (List UInt8)} {M : Nat} (h : ∀ x, x ∈ P → x.length ≤ M) : (0 ≤ (aRead P).1.kind ∧ (aRead P).1.kind ≤ 6) ∧ (aRead P).1.name.size ≤ M ∧ (aRead P).1.dst.size ≤ M ∧ (aRead P).1.text.size ≤ M := by
  have h1 := getD_short h 1
  have h2 := getD_short h 2
  have hk := kindL_range (P.getD 0 [])
  have h0 : (⟨#[]⟩ : ByteArray).size ≤ M := Nat.zero_le _
  unfold aRead
  split
  · exact ⟨⟨by decide, by decide⟩, h0, h0, h0⟩
  · refine ⟨hk, h1, ?_, ?_⟩
    · dsimp only; split
      · exact h2
      · exact h0
    · dsimp only; split
      · exact h2
      · exact h0
theorem cells_at {D : List ByteArray} {N j : Nat} {x : ByteArray} (h : D[j]? = some x) : (Lib.cellsOf D N)[j]? = some (.string x) := by
  unfold Lib.cellsOf
  have hj := (List.getElem?_eq_some_iff.1 h).1
  simp only [List.getElem?_toArray]
  rw [List.getElem?_append_left (by simpa using hj), List.getElem?_map, h]
  rfl

set_option maxRecDepth 100000 in
set_option maxHeartbeats 4000000 in
theorem Parse_any (s : ByteArray) (w : World) (hw : LW w) (hs : s.size ≤ 1000000) :
    Calls Tryz.prog 49 #[.string s] w fun e w' => e = .returned (.tuple #[.agg #[.int .i64 (aParse s.data.toList).1.kind, .string (aParse s.data.toList).1.name, .string (aParse s.data.toList).1.dst, .string (aParse s.data.toList).1.text], .int .i64 (aParse s.data.toList).2]) ∧ Below w.heap.size w w' := by
  obtain ⟨l, hl⟩ : ∃ l, s.data.toList = l := ⟨_, rfl⟩
  have hll : l.length = s.size := by rw [← hl, bsize]
  obtain ⟨Q, HQ⟩ : ∃ Q, Hid (aParse l = Q) := ⟨_, rfl⟩
  have hpr := parse_read l
  rw [show aParse l = Q from unhide HQ] at hpr
  rw [hl, show aParse l = Q from unhide HQ]
  have hpl := pcs_len l
  obtain ⟨⟨hk0, hk6⟩, hsa, hsb, hsc⟩ := aRead_facts (pcs_short l)
  have hpb := pcs_bytes s
  rw [hl] at hpb
  obtain ⟨V0, hV0⟩ : ∃ V, V = w.alloc (.cells #[.int .i64 0, .string ⟨#[]⟩, .string ⟨#[]⟩, .string ⟨#[]⟩] 70) := ⟨_, rfl⟩
  have hb0 : Below w.heap.size w V0 := by rw [hV0]; exact (Below.refl _ _).alloc (Nat.le_refl _) _
  have hX0 : V0.heap[w.heap.size]? = some (.cells #[.int .i64 0, .string ⟨#[]⟩, .string ⟨#[]⟩, .string ⟨#[]⟩] 70 (0, 0)) := by rw [hV0]; exact heap_alloc_new _ _
  have hw0 := hw.below hb0
  obtain ⟨m, hm⟩ := hw0.ml
  have hsp := Tryz.strings_SplitN s ⟨#[32]⟩ 3 m V0 (by omega) hm (by decide) (by decide) (by decide)
  rw [hpb, List.length_map] at hsp
  obtain ⟨P, hP⟩ : ∃ P, pcs l = P := ⟨_, rfl⟩
  rw [hP] at hsp hpl hsa hsb hsc hpr hk0 hk6
  obtain ⟨cap, hcap⟩ : ∃ cap, min 3 (s.size + 1) = cap := ⟨_, rfl⟩
  rw [hcap] at hsp
  obtain ⟨n, hn⟩ : ∃ n, P.length = n := ⟨_, rfl⟩
  have HRD : Hid (∀ (W : World) (g : Nat), WTab W → (∀ (j : Nat) (x : List UInt8), P[j]? = some x → W.cell? ⟨g, j, none⟩ = some (.string (B x))) → _) := fun W g h1 h2 => lread_any g cap P W h1 hpl.1 hpl.2 h2
  obtain ⟨r, hr⟩ : ∃ r, aRead P = r := ⟨_, rfl⟩
  rw [hr] at HRD hpr hsa hsb hsc hk0 hk6
  obtain ⟨⟨k, na, nb, nc⟩, ok⟩ := r
  dsimp only at HRD hpr hsa hsb hsc hk0 hk6
  rw [hn] at HRD hsp
  have HSP := hide hsp
  have HV0 := hide hV0
  have HB0 := hide hb0
  have HX0 := hide hX0
  have HW0 := hide hw0
  have HPR := hide hpr
  have HS := hide (And.intro hsa (And.intro hsb hsc))
  have HK := hide (And.intro hk0 hk6)
  have HLS : Hid (l.length ≤ 1000000) := hide (by omega)
  clear hsp hV0 hb0 hX0 hw0 hpr hsa hsb hsc hk0 hk6 hpb hpl hm hll HQ hP hr hn hcap hl hw hs
  go_enter Tryz.func49, Tryz.ntmps49
  go_wp2_with fail
  rw [← unhide HV0]
  refine (unhide HSP).mono ?_
  rintro e w1 ⟨rfl, hw1⟩
  have b1 : Below V0.heap.size V0 w1 := by rw [hw1]; exact (Below.refl _ _).alloc (Nat.le_refl _) _
  have hg1 : w1.heap[V0.heap.size]? = some (.cells (Lib.cellsOf (P.map B) cap) 9 (0, 0)) := by rw [hw1]; exact heap_alloc_new _ _
  have hX1 := (b1.block _ (Array.getElem?_eq_some_iff.1 (unhide HX0)).1).trans (unhide HX0)
  have hB1 := (unhide HB0).trans (b1.mono (unhide HB0).size)
  have HRD1 := hide ((unhide HRD) w1 V0.heap.size ((unhide HW0).below b1).tab (fun j x hj => by
    rw [cell_of_row _ _ _ _ _ _ hg1]
    exact cells_at (by rw [List.getElem?_map, hj]; rfl)))
  have HX1 := hide hX1
  have HB1 := hide hB1
  clear hw1 b1 hg1 hX1 hB1 HRD HSP HX0 HB0 HV0
  go_wp2_with fail
  refine (unhide HRD1).mono ?_
  rintro e w2 ⟨rfl, b2⟩
  have hX2 := (b2.block _ (Array.getElem?_eq_some_iff.1 (unhide HX1)).1).trans (unhide HX1)
  have hXl : w.heap.size < w2.heap.size := (Array.getElem?_eq_some_iff.1 hX2).1
  have hB2 := (unhide HB1).trans (b2.mono (unhide HB1).size)
  obtain ⟨V3, hV3⟩ : ∃ V3, V3 = w2.alloc (.cells #[.int .i64 k, .string na, .string nb, .string nc] 70) := ⟨_, rfl⟩
  have hC3 : V3.heap[w2.heap.size]? = some (.cells #[.int .i64 k, .string na, .string nb, .string nc] 70 (0, 0)) := by rw [hV3]; exact heap_alloc_new _ _
  have hX3 : V3.heap[w.heap.size]? = some (.cells #[.int .i64 0, .string ⟨#[]⟩, .string ⟨#[]⟩, .string ⟨#[]⟩] 70 (0, 0)) := by rw [hV3, Below.heap_alloc _ _ _ hXl]; exact hX2
  have hB3 : Below w.heap.size w V3 := by rw [hV3]; exact hB2.alloc (by omega) _
  have HC3 := hide hC3
  have HX3 := hide hX3
  have HB3 := hide hB3
  have HX2 := hide hX2
  have HB2 := hide hB2
  clear b2 hX2 hB2 hC3 hX3 hB3 HX1 HB1 HRD1
  cases ok with
  | false =>
    have HQ : Hid (Q = (noCall, 12)) := hide (unhide HPR)
    have HV3 := hide hV3
    clear HPR hV3
    have hXa : (w2.alloc (.cells #[.int .i64 k, .string na, .string nb, .string nc] 70)).heap[w.heap.size]? = some (.cells #[.int .i64 0, .string ⟨#[]⟩, .string ⟨#[]⟩, .string ⟨#[]⟩] 70 (0, 0)) := by rw [← unhide HV3]; exact unhide HX3
    have hBa : Below w.heap.size w (w2.alloc (.cells #[.int .i64 k, .string na, .string nb, .string nc] 70)) := by rw [← unhide HV3]; exact unhide HB3
    have hX9 := hXa
    obtain ⟨hz, hBZ⟩ := store4 hX9 (hBa) (.int .i64 0) (.string ⟨#[]⟩) (.string ⟨#[]⟩) (.string ⟨#[]⟩)
    obtain ⟨V5, hV5⟩ : ∃ V5, V5 = (w2.alloc (.cells #[.int .i64 k, .string na, .string nb, .string nc] 70)).setRow w.heap.size #[.int .i64 0, .string ⟨#[]⟩, .string ⟨#[]⟩, .string ⟨#[]⟩] := ⟨_, rfl⟩
    rw [← hV5] at hz hBZ
    obtain ⟨z0, z1, z2, z3, _⟩ := fourK hz
    clear hz
    go_wp2_with (refine wpList_store_row rfl 70 _ _ rfl w.heap.size #[.int .i64 0, .string ⟨#[]⟩, .string ⟨#[]⟩, .string ⟨#[]⟩] rfl rfl 70 _ hX9 info70s rfl (by simp [Value.oneCell']) ?_)
    rw [← hV5]
    refine bodyPost_ret (v := .tuple #[.agg #[.int .i64 0, .string ⟨#[]⟩, .string ⟨#[]⟩, .string ⟨#[]⟩], .int .i64 12]) (by simp [results, Tryz.results49, go_sem, z0, z1, z2, z3]) rfl ⟨by first | rfl | (rw [unhide HQ]; rfl) | (rw [unhide HQ]), hBZ⟩
  | true =>
    obtain ⟨code, hcode⟩ : ∃ c, checkI ⟨k, na, nb, nc⟩ = c := ⟨_, rfl⟩
    have HQ0 : Hid (Q = if code ≠ 0 then (noCall, code) else (⟨k, na, nb, nc⟩, 0)) := hide (by rw [unhide HPR, ← hcode]; rfl)
    have hmx : (1000000 : Nat) ≤ maxLen := by decide
    have hS := unhide HS
    have hL := unhide HLS
    have hck := Check_any k na nb nc V3 (by omega) (by omega) (by omega)
    rw [hcode] at hck
    have HCK := hide hck
    have HCD := hide hcode
    have HV3 := hide hV3
    have HCL : Hid (na.size ≤ 281474976710656 ∧ nb.size ≤ 281474976710656 ∧ nc.size ≤ 281474976710656) := hide ⟨by omega, by omega, by omega⟩
    obtain ⟨c0, c1, c2, c3, _⟩ := fourK (unhide HC3)
    rw [unhide HV3] at c0 c1 c2 c3
    clear hck hcode HPR hS hL hmx hV3
    go_wp2_with fail
    rw [← unhide HV3]
    refine (unhide HCK).mono ?_
    rintro e w4 ⟨rfl, b4⟩
    have hX4 := (b4.block _ (Array.getElem?_eq_some_iff.1 (unhide HX3)).1).trans (unhide HX3)
    have hC4 := (b4.block _ (Array.getElem?_eq_some_iff.1 (unhide HC3)).1).trans (unhide HC3)
    have hB4 := (unhide HB3).trans (b4.mono (unhide HB3).size)
    have hCl : w2.heap.size < w4.heap.size := (Array.getElem?_eq_some_iff.1 hC4).1
    have HX4 := hide hX4
    have HC4 := hide hC4
    have HB4 := hide hB4
    clear b4 hX4 hC4 hB4 HCK HX3 HC3 HB3 HV3 c0 c1 c2 c3
    by_cases hc : code = 0
    · subst hc
      have HQ : Hid (Q = (⟨k, na, nb, nc⟩, 0)) := hide (unhide HQ0)
      have HPA := hide (parts_any k w2.heap.size w4 (unhide HK) (by rw [cell_of_row _ _ _ _ _ _ (unhide HC4)]; rfl))
      obtain ⟨m, hm⟩ : ∃ m, (offs k).length = m := ⟨_, rfl⟩
      rw [hm] at HPA
      have HM := hide hm
      clear HQ0 hm
      go_wp2_with fail
      refine (unhide HPA).mono ?_
      rintro e w5 ⟨a, rfl, hpa, b5⟩
      have HX5 := hide ((b5.block _ (Array.getElem?_eq_some_iff.1 (unhide HX4)).1).trans (unhide HX4))
      have HC5 := hide ((b5.block _ (Array.getElem?_eq_some_iff.1 (unhide HC4)).1).trans (unhide HC4))
      have HB5 := hide ((unhide HB4).trans (b5.mono (unhide HB4).size))
      have HP5 := hide hpa
      clear b5 hpa HX4 HC4 HB4 HPA
      go_wp2_with fail
      go_loopw [26] (fun i wr => ∃ q : Nat, q ≤ m ∧ i = .int .i64 (q : Int) ∧ Hid (wr.heap[w2.heap.size]? = some (.cells #[.int .i64 k, .string na, .string nb, .string nc] 70 (0, 0))) ∧ Hid (wr.heap[w.heap.size]? = some (.cells #[.int .i64 0, .string ⟨#[]⟩, .string ⟨#[]⟩, .string ⟨#[]⟩] 70 (0, 0))) ∧ Hid (Below w.heap.size w wr) ∧ Hid (PAt wr w4.heap.size a w2.heap.size (offs k))) (fun i _ => m - (intOf i).toNat)
      case atStart => exact ⟨0, Nat.zero_le _, rfl, unhide HC5, unhide HX5, unhide HB5, unhide HP5⟩
      case round =>
        clear HC5 HX5 HB5 HP5
        obtain ⟨q, hq, rfl, HC, HX, HB, HPT⟩ := hrel
        by_cases hlt : (q : Int) < (m : Int)
        · have hql : q < m := by omega
          rcases unhide HPT with h0 | ⟨g2, cur, rfl, hg2, hgr, hcur⟩
          · have := unhide HM; rw [h0] at this; simp at this; omega
          obtain ⟨o, ho⟩ : ∃ o, (offs k)[q]? = some o := ⟨_, List.getElem?_eq_getElem (by rw [unhide HM]; exact hql)⟩
          have hor := offs_in k q o ho
          have hptr : wr.cell? ⟨g2, q, none⟩ = some (.pointer (some ⟨w2.heap.size, o, none⟩)) := by rw [cell_of_row _ _ _ _ _ _ hgr]; exact hcur q o ho
          obtain ⟨x, hx, hxs⟩ : ∃ x : ByteArray, (#[.int .i64 k, .string na, .string nb, .string nc] : Array Value)[o]? = some (.string x) ∧ x.size ≤ 281474976710656 := by
            obtain ⟨s1, s2, s3⟩ := unhide HCL
            have : o = 1 ∨ o = 2 ∨ o = 3 := by omega
            rcases this with rfl | rfl | rfl
            · exact ⟨na, rfl, s1⟩
            · exact ⟨nb, rfl, s2⟩
            · exact ⟨nc, rfl, s3⟩
          have hv0 : wr.cell? ⟨w2.heap.size, o, none⟩ = some (.string x) := by rw [cell_of_row _ _ _ _ _ _ (unhide HC)]; exact hx
          have hq0 : (0 : Int) ≤ (q : Int) := by omega
          have hm2 : m ≤ 2 := by have := unhide HM; have := offs_le k; omega
          have HSC := hide (SClone_any x wr hxs)
          have HGR := hide hgr
          have HCUR := hide hcur
          have HXX := hide hx
          clear hgr hcur ho hor hql hx hxs
          go_wp2_with fail
          refine (unhide HSC).mono ?_
          rintro e w6 ⟨rfl, b6⟩
          have hC6 := (b6.block _ (Array.getElem?_eq_some_iff.1 (unhide HC)).1).trans (unhide HC)
          have hX6 := (b6.block _ (Array.getElem?_eq_some_iff.1 (unhide HX)).1).trans (unhide HX)
          have hG6 := (b6.block _ (Array.getElem?_eq_some_iff.1 (unhide HGR)).1).trans (unhide HGR)
          have hB6 := (unhide HB).trans (b6.mono (unhide HB).size)
          have hv6 : w6.cell? ⟨w2.heap.size, o, none⟩ = some (.string x) := by rw [cell_of_row _ _ _ _ _ _ hC6]; exact unhide HXX
          have hfz := frozen_of_row w6 w2.heap.size o _ _ hC6
          have HC7 : Hid ((w6.setCell ⟨w2.heap.size, o, none⟩ (.string x)).heap[w2.heap.size]? = some (.cells #[.int .i64 k, .string na, .string nb, .string nc] 70 (0, 0))) := set_same hC6 (unhide HXX)
          have HX7 : Hid ((w6.setCell ⟨w2.heap.size, o, none⟩ (.string x)).heap[w.heap.size]? = some (.cells #[.int .i64 0, .string ⟨#[]⟩, .string ⟨#[]⟩, .string ⟨#[]⟩] 70 (0, 0))) := (Below.heap_setCell _ _ _ _ (by simp; omega)).trans hX6
          have HB7 : Hid (Below w.heap.size w (w6.setCell ⟨w2.heap.size, o, none⟩ (.string x))) := below_set hB6 (by omega)
          have HP7 : Hid (PAt (w6.setCell ⟨w2.heap.size, o, none⟩ (.string x)) w4.heap.size (some ⟨g2, 0, none⟩) w2.heap.size (offs k)) := Or.inr ⟨g2, cur, rfl, hg2, (Below.heap_setCell _ _ _ _ (by simp; omega)).trans hG6, unhide HCUR⟩
          clear b6 hC6 hX6 hG6 hB6 hptr hv0 HC HX HB HPT HSC
          go_wp2
          go_roundw
          case rel => exact ⟨q + 1, by omega, by go_num, HC7, HX7, HB7, HP7⟩
          case measure => simp [intOf]; omega
        · obtain ⟨y0, y1, y2, y3, _⟩ := fourK (unhide HC)
          have hX9 := unhide HX
          obtain ⟨hz, hBZ⟩ := store4 hX9 (unhide HB) (.int .i64 k) (.string na) (.string nb) (.string nc)
          obtain ⟨V5, hV5⟩ : ∃ V5, V5 = wr.setRow w.heap.size #[.int .i64 k, .string na, .string nb, .string nc] := ⟨_, rfl⟩
          rw [← hV5] at hz hBZ
          obtain ⟨z0, z1, z2, z3, _⟩ := fourK hz
          clear hz
          go_wp2_with (refine wpList_store_row rfl 70 _ _ rfl w.heap.size #[.int .i64 k, .string na, .string nb, .string nc] rfl rfl 70 _ hX9 info70s rfl (by simp [Value.oneCell']) ?_)
          rw [← hV5]
          refine bodyPost_ret (v := .tuple #[.agg #[.int .i64 k, .string na, .string nb, .string nc], .int .i64 0]) (by simp [results, Tryz.results49, go_sem, z0, z1, z2, z3]) rfl ⟨by first | rfl | (rw [unhide HQ]; rfl) | (rw [unhide HQ]), hBZ⟩
    · have HQ : Hid (Q = (noCall, code)) := hide (by rw [unhide HQ0, if_pos hc])
      have hne : (code != 0) = true := by simpa using hc
      clear HQ0 hc
      have hX9 := unhide HX4
      obtain ⟨hz, hBZ⟩ := store4 hX9 (unhide HB4) (.int .i64 0) (.string ⟨#[]⟩) (.string ⟨#[]⟩) (.string ⟨#[]⟩)
      obtain ⟨V5, hV5⟩ : ∃ V5, V5 = w4.setRow w.heap.size #[.int .i64 0, .string ⟨#[]⟩, .string ⟨#[]⟩, .string ⟨#[]⟩] := ⟨_, rfl⟩
      rw [← hV5] at hz hBZ
      obtain ⟨z0, z1, z2, z3, _⟩ := fourK hz
      clear hz
      go_wp2_with (refine wpList_store_row rfl 70 _ _ rfl w.heap.size #[.int .i64 0, .string ⟨#[]⟩, .string ⟨#[]⟩, .string ⟨#[]⟩] rfl rfl 70 _ hX9 info70s rfl (by simp [Value.oneCell']) ?_)
      rw [← hV5]
      refine bodyPost_ret (v := .tuple #[.agg #[.int .i64 0, .string ⟨#[]⟩, .string ⟨#[]⟩, .string ⟨#[]⟩], .int .i64 code]) (by simp [results, Tryz.results49, go_sem, z0, z1, z2, z3]) rfl ⟨by first | rfl | (rw [unhide HQ]; rfl) | (rw [unhide HQ]), hBZ⟩

end Go.Proofs.YtffgolanmaenfacGreatDoor

namespace Go.Proofs.YtffgolanmaenfacGreatDoor
open Go.RowKit
set_option linter.unusedSimpArgs false
set_option linter.unusedVariables false

/-- The text that lies at a place of a call. -/
def fldL (x : ACall) (o : Nat) : ByteArray := if o = 1 then x.name else if o = 2 then x.dst else x.text
def accL (W : ByteArray) (x : ACall) (O : List Nat) : List UInt8 := W.data.toList ++ O.flatMap (fun o => 32 :: (fldL x o).data.toList)
def wordK (k : Int) : ByteArray := if k = 1 then ⟨#[109, 97, 107, 101]⟩ else if k = 2 then ⟨#[114, 101, 109, 111, 118, 101]⟩ else if k = 3 then ⟨#[114, 101, 110, 97, 109, 101]⟩ else if k = 4 then ⟨#[97, 112, 112, 101, 110, 100]⟩ else if k = 5 then ⟨#[114, 101, 97, 100]⟩ else ⟨#[108, 105, 115, 116]⟩
theorem wordK_size (k : Int) : (wordK k).size ≤ 6 := by
  unfold wordK
  repeat' split
  all_goals decide
theorem wordK_cell {w : World} (h : WTab w) {k : Int} (hk : 1 ≤ k ∧ k ≤ 6) : w.cell? ⟨3, (k - 1).toNat, none⟩ = some (.string (wordK k)) := by
  have hk' : k = 1 ∨ k = 2 ∨ k = 3 ∨ k = 4 ∨ k = 5 ∨ k = 6 := by omega
  rcases hk' with rfl | rfl | rfl | rfl | rfl | rfl
  · exact h.c0
  · exact h.c1
  · exact h.c2
  · exact h.c3
  · exact h.c4
  · exact h.c5
theorem accL_line (x : ACall) (hk : 1 ≤ x.kind ∧ x.kind ≤ 6) : accL (wordK x.kind) x (offs x.kind) = lineL x := by
  obtain ⟨k, a, b, t⟩ := x
  dsimp only at *
  have hk' : k = 1 ∨ k = 2 ∨ k = 3 ∨ k = 4 ∨ k = 5 ∨ k = 6 := by omega
  rcases hk' with rfl | rfl | rfl | rfl | rfl | rfl
  · simp [accL, wordK, offs, fldL, lineL, wMake]
  · simp [accL, wordK, offs, fldL, lineL, wRemove]
  · simp [accL, wordK, offs, fldL, lineL, wRename]
  · simp [accL, wordK, offs, fldL, lineL, wAppend]
  · simp [accL, wordK, offs, fldL, lineL, wRead]
  · simp [accL, wordK, offs, fldL, lineL, wList]
theorem accL_snoc (W : ByteArray) (x : ACall) (O : List Nat) (o : Nat) : accL W x (O ++ [o]) = accL W x O ++ [32] ++ (fldL x o).data.toList := by
  unfold accL; simp
theorem lflat_len (x : ACall) : ∀ (O : List Nat), (∀ o, o ∈ O → (fldL x o).size ≤ 8) → (O.flatMap (fun o => 32 :: (fldL x o).data.toList)).length ≤ 9 * O.length
  | [], _ => by simp
  | o :: O, h => by
    have h1 := h o (by simp)
    have h2 := lflat_len x O (fun p hp => h p (by simp [hp]))
    have h3 : (fldL x o).data.toList.length = (fldL x o).size := bsize _
    rw [List.flatMap_cons, List.length_append, List.length_cons, List.length_cons]
    omega
theorem fld_small {x : ACall} (h : checkI x = 0) : ∀ o, o ∈ offs x.kind → (fldL x o).size ≤ 8 := by
  have hz := check_zero h
  have hnm : x.kind ≠ 6 → x.name.size ≤ 5 := fun h6 => (nameB_size (named_name hz.2.2.2.1 h6)).2
  have hds : x.kind = 3 → x.dst.size ≤ 5 := fun h6 => (nameB_size (named_dst hz.2.2.2.1 h6)).2
  have htx : x.kind = 4 → x.text.size ≤ 8 := fun h6 => (textB_size (hz.2.2.2.2 h6)).2
  intro o ho
  unfold offs at ho
  split at ho
  · rename_i hk
    simp at ho
    subst ho
    have := hnm (by omega)
    simp [fldL]; omega
  split at ho
  · rename_i h1 hk
    simp at ho
    have h1 := hnm (by omega)
    have h2 := hds hk
    rcases ho with rfl | rfl
    · simp [fldL]; omega
    · simp [fldL]; omega
  split at ho
  · rename_i h1 h2 hk
    simp at ho
    have h1 := hnm (by omega)
    have h2 := htx hk
    rcases ho with rfl | rfl
    · simp [fldL]; omega
    · simp [fldL]; omega
  · simp at ho

set_option maxRecDepth 100000 in
set_option maxHeartbeats 4000000 in
theorem LCall_any (x : ACall) (w : World) (hw : LW w) (h1 : x.name.size ≤ maxLen) (h2 : x.dst.size ≤ maxLen) (h3 : x.text.size ≤ maxLen) :
    Calls Tryz.prog 172 #[.agg #[.int .i64 x.kind, .string x.name, .string x.dst, .string x.text]] w fun e w' => e = .returned (.tuple #[.string (B (aLine x).1), .int .i64 (aLine x).2]) ∧ Below w.heap.size w w' := by
  obtain ⟨Q, HQ⟩ : ∃ Q, Hid (aLine x = Q) := ⟨_, rfl⟩
  rw [show aLine x = Q from unhide HQ]
  have HF : Hid (checkI x = 0 → (1 ≤ x.kind ∧ x.kind ≤ 6) ∧ accL (wordK x.kind) x (offs x.kind) = lineL x ∧ ∀ o, o ∈ offs x.kind → (fldL x o).size ≤ 8) := hide fun h => by
    have hk := kinds6 h
    exact ⟨by omega, accL_line x (by omega), fld_small h⟩
  have HQ0 : Hid (Q = if checkI x ≠ 0 then ([], checkI x) else (lineL x, 0)) := hide (by rw [← show aLine x = Q from unhide HQ]; rfl)
  obtain ⟨V0, hV0⟩ : ∃ V, V = w.alloc (.cells #[.int .i64 x.kind, .string x.name, .string x.dst, .string x.text] 70) := ⟨_, rfl⟩
  have hb0 : Below w.heap.size w V0 := by rw [hV0]; exact (Below.refl _ _).alloc (Nat.le_refl _) _
  have hC0 : V0.heap[w.heap.size]? = some (.cells #[.int .i64 x.kind, .string x.name, .string x.dst, .string x.text] 70 (0, 0)) := by rw [hV0]; exact heap_alloc_new _ _
  have hck := Check_any x.kind x.name x.dst x.text V0 h1 h2 h3
  have hFO : ∀ o, 1 ≤ o ∧ o < 4 → (#[.int .i64 x.kind, .string x.name, .string x.dst, .string x.text] : Array Value)[o]? = some (.string (fldL x o)) := fun o ho => by
    have : o = 1 ∨ o = 2 ∨ o = 3 := by omega
    rcases this with rfl | rfl | rfl <;> simp [fldL]
  have HFO := hide hFO
  have HFL := hide (lflat_len x)
  have HSN := hide (accL_snoc (wordK x.kind) x)
  have hwk := wordK_size x.kind
  have HA0 : Hid (accL (wordK x.kind) x [] = (wordK x.kind).data.toList) := hide (by simp [accL])
  have HAL : Hid (∀ O : List Nat, (accL (wordK x.kind) x O).length = (wordK x.kind).size + (O.flatMap (fun o => 32 :: (fldL x o).data.toList)).length) := hide fun O => by unfold accL; rw [List.length_append, bsize]
  have HW0 := hide (hw.below hb0)
  obtain ⟨k, na, nb, nc⟩ := x
  dsimp only at *
  obtain ⟨code, hcode⟩ : ∃ c, checkI ⟨k, na, nb, nc⟩ = c := ⟨_, rfl⟩
  rw [hcode] at hck HF HQ0
  have HCK := hide hck
  have HV0 := hide hV0
  have HB0 := hide hb0
  have HC0 := hide hC0
  have HWK := hide hwk
  clear hck hV0 hb0 hC0 hwk hFO HQ hcode h1 h2 h3 hw
  go_enter Tryz.func172, Tryz.ntmps172
  go_wp2_with fail
  rw [← unhide HV0]
  refine (unhide HCK).mono ?_
  rintro e w1 ⟨rfl, b1⟩
  have hC1 := (b1.block _ (Array.getElem?_eq_some_iff.1 (unhide HC0)).1).trans (unhide HC0)
  have hCl : w.heap.size < w1.heap.size := (Array.getElem?_eq_some_iff.1 hC1).1
  have HB1 := hide ((unhide HB0).trans (b1.mono (unhide HB0).size))
  have HW1 := hide ((unhide HW0).below b1)
  have HC1 := hide hC1
  clear b1 hC1 HC0 HB0 HW0 HV0 HCK
  by_cases hc : code = 0
  · subst hc
    obtain ⟨hk, hlin, hsm⟩ := (unhide HF) rfl
    have HQ : Hid (Q = (lineL ⟨k, na, nb, nc⟩, 0)) := hide (unhide HQ0)
    obtain ⟨V2, hV2⟩ : ∃ V, V = w1.alloc (.cells #[.pointer none, .slice none 0 0] 44) := ⟨_, rfl⟩
    have hb2 : Below w1.heap.size w1 V2 := by rw [hV2]; exact (Below.refl _ _).alloc (Nat.le_refl _) _
    have hz2 : V2.heap.size = w1.heap.size + 1 := by rw [hV2]; exact al_size _ _
    have HY2 : Hid (YB w1.heap.size w1.heap.size [] V2) := by rw [hV2]; exact Lib.IsBuilderF.of (Lib.fresh_isBuilder 44 5 w1)
    have hwc := wordK_cell ((unhide HW1).below hb2).tab hk
    obtain ⟨c0, _, _, _, _⟩ := fourK ((hb2.block _ hCl).trans (unhide HC1))
    rw [hV2, show (k - 1).toNat = k.toNat - 1 by omega] at hwc
    rw [hV2] at c0
    have hk1 : (0 : Int) ≤ k - 1 := by omega
    have hk2 : k - 1 < 6 := by omega
    have hkw : wrap64 (k - 1) = k - 1 := by unfold wrap64; omega
    have hwk := unhide HWK
    have HWS := hide (WriteStr_l w1.heap.size w1.heap.size [] (wordK k) V2 (unhide HY2) (by simp only [List.length_nil]; omega) (by omega))
    have HV2 := hide hV2
    have HB2 := hide hb2
    have HZ2 := hide hz2
    have HLIN := hide hlin
    have HSM := hide hsm
    have HKR := hide hk
    clear hb2 hz2 hV2 hlin hsm hk HF HQ0 hwk HY2
    go_wp2_with fail
    rw [← unhide HV2]
    refine (unhide HWS).mono ?_
    rintro e w3 ⟨rfl, y3, b3, _⟩
    have hB13 := (unhide HB2).trans b3
    have hC3 := (hB13.block _ hCl).trans (unhide HC1)
    have hs3 : w1.heap.size < w3.heap.size := by have := b3.size; have := unhide HZ2; omega
    have HPA := hide (parts_any k w.heap.size w3 ⟨by omega, by omega⟩ (by rw [cell_of_row _ _ _ _ _ _ hC3]; rfl))
    obtain ⟨m, hm⟩ : ∃ m, (offs k).length = m := ⟨_, rfl⟩
    rw [hm] at HPA
    have HM := hide hm
    have HY3 := hide y3
    have HB13 := hide hB13
    clear y3 b3 hB13 hC3 hm HWS HV2 HB2 HZ2 hwc c0 hk1 hk2 hkw
    go_wp2_with fail
    refine (unhide HPA).mono ?_
    rintro e w4 ⟨a, rfl, hpa, b4⟩
    have HY4 := hide (YB_below (unhide HY3) b4)
    have HB4 := hide ((unhide HB13).trans (b4.mono (unhide HB13).size))
    have HP4 : Hid (PAt w4 (w1.heap.size + 1) a w.heap.size (offs k)) := by
      rcases hpa with h | ⟨g2, cur, h1, h2, h3, h4⟩
      · exact Or.inl h
      · exact Or.inr ⟨g2, cur, h1, by omega, h3, h4⟩
    clear hpa b4 HPA HY3 HB13
    go_wp2_with fail
    go_loopw [21] (fun i wr => ∃ q : Nat, q ≤ m ∧ i = .int .i64 (q : Int) ∧ Hid (YB w1.heap.size w1.heap.size (accL (wordK k) ⟨k, na, nb, nc⟩ ((offs k).take q)) wr) ∧ Hid (Below w1.heap.size w1 wr) ∧ Hid (PAt wr (w1.heap.size + 1) a w.heap.size (offs k))) (fun i _ => m - (intOf i).toNat)
    case atStart => exact ⟨0, Nat.zero_le _, rfl, by rw [List.take_zero, unhide HA0]; exact unhide HY4, unhide HB4, unhide HP4⟩
    case round =>
      clear HY4 HB4 HP4 hs3
      obtain ⟨q, hq, rfl, HY, HB, HPT⟩ := hrel
      by_cases hlt : (q : Int) < (m : Int)
      · have hql : q < m := by omega
        rcases unhide HPT with h0 | ⟨g2, cur, rfl, hg2, hgr, hcur⟩
        · have := unhide HM; rw [h0] at this; simp at this; omega
        obtain ⟨o, ho⟩ : ∃ o, (offs k)[q]? = some o := ⟨_, List.getElem?_eq_getElem (by rw [unhide HM]; exact hql)⟩
        have hor := offs_in k q o ho
        have hptr : wr.cell? ⟨g2, q, none⟩ = some (.pointer (some ⟨w.heap.size, o, none⟩)) := by rw [cell_of_row _ _ _ _ _ _ hgr]; exact hcur q o ho
        have hq0 : (0 : Int) ≤ (q : Int) := by omega
        have hm2 : m ≤ 2 := by have := unhide HM; have := offs_le k; omega
        have htk : (offs k).take (q + 1) = (offs k).take q ++ [o] := by rw [List.take_add_one, ho]; rfl
        have hsn := (unhide HSN) ((offs k).take q) o
        rw [← htk] at hsn
        have hfl := (unhide HFL) ((offs k).take q) (fun p hp => (unhide HSM) p (List.mem_of_mem_take hp))
        have hal := (unhide HAL) ((offs k).take q)
        have hwk := unhide HWK
        have htl : ((offs k).take q).length ≤ 2 := by rw [List.length_take]; have := offs_le k; omega
        have hfs := (unhide HSM) o (List.mem_of_getElem? ho)
        have hfo := (unhide HFO) o hor
        generalize fldL ⟨k, na, nb, nc⟩ o = f at hsn hfs hfo
        obtain ⟨acc, hacc⟩ : ∃ acc, accL (wordK k) ⟨k, na, nb, nc⟩ ((offs k).take q) = acc := ⟨_, rfl⟩
        rw [hacc] at hsn hal HY
        have hal2 : acc.length ≤ 24 := by rw [hal]; omega
        have HAL2 := hide hal2
        have HSN2 := hide hsn
        have HFS := hide hfs
        have HFO2 := hide hfo
        have HGR := hide hgr
        have HCUR := hide hcur
        have HWB := hide (WriteBlank_l w1.heap.size w1.heap.size acc wr (unhide HY) (by omega) (unhide HB).size)
        clear hgr hcur ho hor hql htk hsn hfl hal hwk htl hfs hfo hal2 hacc
        go_wp2_with fail
        refine (unhide HWB).mono ?_
        rintro e w5 ⟨rfl, y5, b5, k5⟩
        have hg5 := row_kept k5 (unhide HGR) (by omega) (by decide)
        have hB5 := (unhide HB).trans b5
        have hC5 := (hB5.block _ hCl).trans (unhide HC1)
        have hv5 : w5.cell? ⟨w.heap.size, o, none⟩ = some (.string f) := by rw [cell_of_row _ _ _ _ _ _ hC5]; exact unhide HFO2
        have HWS := hide (WriteStr_l w1.heap.size w1.heap.size (acc ++ [32]) f w5 y5 (by have := unhide HAL2; have := unhide HFS; simp only [List.length_append, List.length_cons, List.length_nil]; omega) hB5.size)
        have HG5 := hide hg5
        have HB5 := hide hB5
        clear y5 b5 k5 hg5 hB5 hC5 HWB HGR HPT HB HY hptr
        go_wp2_with fail
        refine (unhide HWS).mono ?_
        rintro e w6 ⟨rfl, y6, b6, k6⟩
        have HP6 : Hid (PAt w6 (w1.heap.size + 1) (some ⟨g2, 0, none⟩) w.heap.size (offs k)) := Or.inr ⟨g2, cur, rfl, hg2, row_kept k6 (unhide HG5) (by omega) (by decide), unhide HCUR⟩
        have HB6 := hide ((unhide HB5).trans b6)
        rw [← unhide HSN2] at y6
        have HY6 := hide y6
        clear y6 b6 k6 HWS hv5
        go_wp2
        go_roundw
        case rel => exact ⟨q + 1, by omega, by go_num, HY6, HB6, HP6⟩
        case measure => simp [intOf]; omega
      · obtain rfl : q = m := by omega
        have hfull : (offs k).take q = offs k := List.take_of_length_le (by rw [unhide HM]; omega)
        have hY := unhide HY
        rw [hfull, unhide HLIN] at hY
        have HST := hide (String_y w1.heap.size w1.heap.size _ wr hY (unhide HB).size)
        obtain ⟨res, hres⟩ : ∃ res : ByteArray, (⟨(lineL ⟨k, na, nb, nc⟩).toArray⟩ : ByteArray) = res := ⟨_, rfl⟩
        rw [hres] at HST
        have HQ2 : Hid (B Q.1 = res ∧ Q.2 = 0) := hide (by rw [unhide HQ, ← hres]; exact ⟨rfl, rfl⟩)
        clear hfull hY hres hlt
        go_wp2_with fail
        refine (unhide HST).mono ?_
        rintro e w5 ⟨rfl, b5⟩
        have HBE := hide ((unhide HB1).trans (((unhide HB).trans b5).mono (unhide HB1).size))
        clear b5
        go_wp2
        go_ret2
        exact ⟨by rw [(unhide HQ2).1, (unhide HQ2).2]; rfl, unhide HBE⟩
  · have HQ : Hid (Q = ([], code)) := hide (by rw [unhide HQ0, if_pos hc])
    have hne : (code != 0) = true := by simpa using hc
    clear HQ0 hc HF
    go_wp2
    go_ret2
    exact ⟨by rw [unhide HQ]; rfl, unhide HB1⟩

end Go.Proofs.YtffgolanmaenfacGreatDoor

namespace Go.Proofs.YtffgolanmaenfacGreatDoor
open Go.RowKit
set_option linter.unusedSimpArgs false
set_option linter.unusedVariables false

def AX.val (x : AX) : Value := .agg #[.int .i64 x.kind, .int .i64 x.n, .int .i64 x.keep, .int .i64 x.call.kind, .string x.call.name, .string x.call.dst, .string x.call.text]
end Go.Proofs.YtffgolanmaenfacGreatDoor

namespace Go.Proofs.YtffgolanmaenfacGreatDoor
open Go.ChangeShapes Go.WideShapes Go.ChangeAt Go.RowKit Go.Deep Go.Joins
set_option linter.unusedSimpArgs false
set_option linter.unusedVariables false

theorem own0 : ownKnob Tryz.prog.godebug = none := by kernel_rfl
theorem laidOut0 : laidOutB Tryz.prog = true := by kernel_rfl
theorem cells70 : Tryz.prog.cellsOf 70 = 4 := by kernel_rfl
theorem cells3 : Tryz.prog.cellsOf 3 = 1 := by kernel_rfl
theorem cells9 : Tryz.prog.cellsOf 9 = 1 := by kernel_rfl

section
variable {H : Type} {enc : TypeId × Value → H} {w : World} {base : Nat} {spare : Nat → Bool} {held : Bool}

end

end Go.Proofs.YtffgolanmaenfacGreatDoor

namespace Go.Proofs.YtffgolanmaenfacGreatDoor
open Go.ChangeShapes Go.WideShapes Go.ChangeAt Go.RowKit Go.Deep Go.Joins
set_option linter.unusedSimpArgs false
set_option linter.unusedVariables false

theorem spot_none {w : World} {a : Addr} {v : Value} (h : w.cell? a = some v) : a = ⟨a.block, a.off, none⟩ := by
  obtain ⟨b, off, spot⟩ := a
  cases spot with
  | none => rfl
  | some s =>
    exfalso
    simp only [World.cell?] at h
    split at h <;> simp at h

end Go.Proofs.YtffgolanmaenfacGreatDoor

namespace Go.Proofs.YtffgolanmaenfacGreatDoor
open Go.ChangeShapes Go.WideShapes Go.ChangeAt Go.RowKit Go.Deep Go.Joins
set_option linter.unusedSimpArgs false
set_option linter.unusedVariables false

theorem reach48 {s : ByteArray} (h : s.data.toList.length ≤ reachBytes) : s.size ≤ 281474976710656 := by
  have h1 : s.size = s.data.toList.length := by show s.data.size = _; rw [Array.length_toList]
  unfold reachBytes at h
  omega

section
variable {H : Type} {enc : TypeId × Value → H} {w : World} {base : Nat} {spare : Nat → Bool} {held : Bool}

theorem trodS4 {P : Program} {t : TypeId} {f0 f1 f2 f3 : Field} {fuel : Nat} {cs : List Value} {x : DataW H × List MemPlace} (ht : P.underlying t = some (.struct #[f0, f1, f2, f3])) (h : DataW.trod enc P w base spare held fuel t cs = some x) :
    ∃ y0 y1 y2 y3 n, x.1 = .agg [y0.1, y1.1, y2.1, y3.1] ∧ cs.length = P.cellsOf t ∧ DataW.trod enc P w base spare held n f0.type ((cs.drop f0.offset).take (P.cellsOf f0.type)) = some y0 ∧ DataW.trod enc P w base spare held n f1.type ((cs.drop f1.offset).take (P.cellsOf f1.type)) = some y1 ∧ DataW.trod enc P w base spare held n f2.type ((cs.drop f2.offset).take (P.cellsOf f2.type)) = some y2 ∧ DataW.trod enc P w base spare held n f3.type ((cs.drop f3.offset).take (P.cellsOf f3.type)) = some y3 := by
  obtain ⟨xs, n, _, rfl, hl, hlen, hf⟩ := DataW.trod_struct ht h
  match xs, hlen with
  | [y0, y1, y2, y3], _ => exact ⟨y0, y1, y2, y3, n, rfl, hl, by simpa using hf 0 f0 rfl, by simpa using hf 1 f1 rfl, by simpa using hf 2 f2 rfl, by simpa using hf 3 f3 rfl⟩
set_option maxRecDepth 100000 in
/-- A call's four cells. -/
theorem open_callW {fuel : Nat} {cs : List Value} {x : DataW H × List MemPlace} (h : DataW.trod enc Tryz.prog w base spare held fuel 70 cs = some x) (hw : ∀ n ∈ x.1.weights Tryz.prog 70, n ≤ reachBytes) :
    ∃ c : ACall, cs = [.int .i64 c.kind, .string c.name, .string c.dst, .string c.text] ∧ c.name.size ≤ 281474976710656 ∧ c.dst.size ≤ 281474976710656 ∧ c.text.size ≤ 281474976710656 := by
  obtain ⟨y0, y1, y2, y3, n, hx, hl, h0, h1, h2, h3⟩ := trodS4 Tryz.underlying70 h
  rw [cells70] at hl
  obtain ⟨c0, c1, c2, c3, hcs⟩ := array4 (cs := cs.toArray) (by simpa using hl)
  have hcs : cs = [c0, c1, c2, c3] := by simpa using congrArg Array.toList hcs
  subst hcs
  simp only [cells3, cells9, List.drop, List.take] at h0 h1 h2 h3
  obtain ⟨k, e0, f0, wk⟩ := DataW.trod_int Tryz.underlying3 h0
  obtain ⟨a, e1, f1, wa⟩ := DataW.trod_string Tryz.underlying9 h1
  obtain ⟨b, e2, f2, wb⟩ := DataW.trod_string Tryz.underlying9 h2
  obtain ⟨t, e3, f3, wt⟩ := DataW.trod_string Tryz.underlying9 h3
  simp at e0 e1 e2 e3
  rw [hx] at hw
  subst e0 e1 e2 e3 f0 f1 f2 f3
  simp only [DataW.weights, Tryz.underlying70, List.map, DataW.weightsEach, List.nil_append, List.append_nil, List.mem_append, List.mem_singleton] at hw
  exact ⟨⟨k, a, b, t⟩, rfl, reach48 (hw _ (by simp)), reach48 (hw _ (by simp)), reach48 (hw _ (by simp))⟩

theorem mem_weightsAll {e : TypeId} : ∀ {l : List (DataW H)} {d : DataW H}, d ∈ l → ∀ n ∈ d.weights Tryz.prog e, n ∈ DataW.weightsAll Tryz.prog e l
  | x :: l, d, hd, n, hn => by
    simp only [DataW.weightsAll, List.mem_append]
    rcases List.mem_cons.1 hd with rfl | h
    · exact .inl hn
    · exact .inr (mem_weightsAll h n hn)
end

end Go.Proofs.YtffgolanmaenfacGreatDoor

namespace Go.Proofs.YtffgolanmaenfacGreatDoor
open Go.ChangeShapes Go.WideShapes Go.ChangeAt Go.RowKit Go.Deep Go.Joins
set_option linter.unusedSimpArgs false
set_option linter.unusedVariables false

/-- A row of lines. -/
def LnAt (w : World) (a : Option Addr) (n : Nat) (ls : List ByteArray) : Prop :=
  ls.length = n ∧ n ≤ maxLen ∧ (∀ x, x ∈ ls → x.size ≤ 281474976710656) ∧ (0 < n → ∃ b off, a = some ⟨b, off, none⟩ ∧ ∀ (j : Nat) (x : ByteArray), ls[j]? = some x → w.cell? ⟨b, off + j, none⟩ = some (.string x))
theorem ln_lt {w : World} {a : Addr} {v : Value} (h : w.cell? a = some v) : a.block < w.heap.size := by
  unfold World.cell? at h
  split at h
  · rename_i he; exact (Array.getElem?_eq_some_iff.1 he).1
  · cases h
theorem LnAt.below {w w' : World} {a : Option Addr} {n : Nat} {ls : List ByteArray} (h : LnAt w a n ls) (hb : Below w.heap.size w w') : LnAt w' a n ls := by
  refine ⟨h.1, h.2.1, h.2.2.1, fun h0 => ?_⟩
  obtain ⟨b, off, rfl, hc⟩ := h.2.2.2 h0
  exact ⟨b, off, rfl, fun j x hx => (hb.cell (ln_lt (hc j x hx))).trans (hc j x hx)⟩
theorem LnAt.take {w : World} {a : Option Addr} {n k : Nat} {ls : List ByteArray} (h : LnAt w a n ls) (hk : k ≤ n) : LnAt w a k (ls.take k) := by
  refine ⟨by rw [List.length_take, h.1]; omega, Nat.le_trans hk h.2.1, fun x hx => h.2.2.1 x (List.mem_of_mem_take hx), fun h0 => ?_⟩
  obtain ⟨b, off, rfl, hc⟩ := h.2.2.2 (by omega)
  refine ⟨b, off, rfl, fun j x hx => hc j x ?_⟩
  rw [List.getElem?_take] at hx
  split at hx
  · exact hx
  · cases hx
theorem LnAt.drop {w : World} {b off n k : Nat} {ls : List ByteArray} (h : LnAt w (some ⟨b, off, none⟩) n ls) (hk : k ≤ n) (off' : Nat) (ho : k < n → off' = off + k) : LnAt w (some ⟨b, off', none⟩) (n - k) (ls.drop k) := by
  refine ⟨by rw [List.length_drop, h.1], Nat.le_trans (Nat.sub_le _ _) h.2.1, fun x hx => h.2.2.1 x (List.mem_of_mem_drop hx), fun h0 => ?_⟩
  obtain ⟨b1, off1, e1, hc⟩ := h.2.2.2 (by omega)
  injection e1 with e1
  injection e1 with e1 e2 _
  subst e1 e2
  refine ⟨b, off', rfl, fun j x hx => ?_⟩
  rw [List.getElem?_drop] at hx
  have := hc (k + j) x hx
  rw [ho (by omega), Nat.add_assoc]
  exact this
def total (ls : List ByteArray) : Nat := (ls.map ByteArray.size).sum
theorem total_take (ls : List ByteArray) (q : Nat) (x : ByteArray) (h : ls[q]? = some x) : total (ls.take (q + 1)) = total (ls.take q) + x.size := by
  unfold total
  rw [List.take_add_one, h]
  simp
theorem total_le {ls : List ByteArray} (h : ∀ x, x ∈ ls → x.size ≤ 281474976710656) : total ls ≤ ls.length * 281474976710656 := by
  unfold total
  induction ls with
  | nil => simp
  | cons x r ih =>
    have h1 := h x (by simp)
    have h2 := ih (fun y hy => h y (by simp [hy]))
    simp only [List.map_cons, List.sum_cons, List.length_cons]
    omega
theorem total_mem {ls : List ByteArray} {x : ByteArray} (h : x ∈ ls) : x.size ≤ total ls := by
  unfold total
  induction ls with
  | nil => cases h
  | cons y r ih =>
    simp only [List.map_cons, List.sum_cons]
    rcases List.mem_cons.1 h with rfl | h
    · omega
    · have := ih h; omega

/-- What slow answers: false only where they are few. -/
def SlowRes (ls : List ByteArray) (e : Ending) : Prop := ∃ r : Bool, e = .returned (.bool r) ∧ (r = false → total ls ≤ 9000)
set_option maxRecDepth 100000 in
set_option maxHeartbeats 4000000 in
theorem slow_any (a : Option Addr) (n cap : Nat) (ls : List ByteArray) (w : World) (h : LnAt w a n ls) (hn : n ≤ 1000) :
    Calls Tryz.prog 6 #[.slice a n cap] w fun e w' => SlowRes ls e ∧ w' = w := by
  obtain ⟨hl, hm, hsz, hc⟩ := h
  have HT := hide (total_le hsz)
  have HC := hide hc
  have HL := hide hl
  have HSZ := hide hsz
  clear hl hm hc hsz
  go_enter Tryz.func6, Tryz.ntmps6
  go_wp2
  go_loop [3, 4] (fun s i => ∃ q : Nat, q ≤ n ∧ i = .int .i64 (q : Int) ∧ s = .int .i64 ((total (ls.take q) : Nat) : Int) ∧ Hid (total (ls.take q) ≤ 9000)) (fun _ i => n - (intOf i).toNat)
  case atStart => exact ⟨0, Nat.zero_le _, rfl, rfl, by show _ ≤ 9000; simp [total]⟩
  case round =>
    obtain ⟨q, hq, rfl, rfl, HA⟩ := hrel
    by_cases hlt : (q : Int) < (n : Int)
    · obtain ⟨b, off, rfl, hcell⟩ := (unhide HC) (by omega)
      obtain ⟨x, hx⟩ : ∃ x, ls[q]? = some x := ⟨_, List.getElem?_eq_getElem (by rw [unhide HL]; omega)⟩
      have hcx := hcell q x hx
      have hxs := (unhide HSZ) x (List.mem_of_getElem? hx)
      have htk := total_take ls q x hx
      have hq0 : (0 : Int) ≤ (q : Int) := by omega
      have ha := unhide HA
      obtain ⟨t1, ht1⟩ : ∃ t1, total (ls.take (q + 1)) = t1 := ⟨_, rfl⟩
      have HT1 := hide ht1
      rw [ht1] at htk
      clear ht1
      generalize total (ls.take q) = t at *
      have hw1 : wrap64 ((t : Int) + (x.size : Int)) = (t1 : Int) := by unfold wrap64; omega
      have hw2 : wrap64 ((q : Int) + 1) = (q : Int) + 1 := by unfold wrap64; omega
      clear hcell hx hxs htk ha HA
      by_cases hg : (9000 : Int) < (t1 : Int)
      · go_wp2
        go_ret
        exact ⟨⟨_, rfl, fun e => by cases e⟩, rfl⟩
      · have H1 : Hid (t1 ≤ 9000) := hide (by omega)
        go_wp2
        go_round
        case rel => exact ⟨q + 1, by omega, by go_num, by rw [unhide HT1, hw1], by show _ ≤ 9000; rw [unhide HT1]; exact unhide H1⟩
        case measure => simp [intOf]; omega
    · obtain rfl : q = n := by omega
      have hfull : ls.take q = ls := List.take_of_length_le (by rw [unhide HL]; omega)
      have H1 : Hid (total ls ≤ 9000) := by rw [← hfull]; exact HA
      clear hfull HA
      go_wp2
      go_ret
      exact ⟨⟨_, rfl, fun _ => unhide H1⟩, rfl⟩

end Go.Proofs.YtffgolanmaenfacGreatDoor

namespace Go.Proofs.YtffgolanmaenfacGreatDoor
open Go.RowKit
set_option linter.unusedSimpArgs false
set_option linter.unusedVariables false

/-- What a line asks: 0 nothing, 1 it is none, 2 a call, 3 a step, 4 calm, 5 packets, 6 log, 7 done, others then. -/
structure DCmd where
  tag : Nat
  n : Int
  s : List UInt8
  x : AX
def tEnd : List UInt8 := [101, 110, 100, 10]
def tWhat : List UInt8 := [119, 104, 97, 116, 10]
def tNo (d : Int) : List UInt8 := [110, 111, 32] ++ Lib.itoa d ++ [10]
def tStep (d : Int) : List UInt8 := if d ≠ 0 then tNo d else [111, 107, 10]
def recT (c no : Int) (x : ACall) (d : Int) (u : ByteArray) : List UInt8 := Lib.itoa c ++ 32 :: (Lib.itoa no ++ 32 :: ((aLine x).1 ++ 58 :: 32 :: ansL d u.data.toList))
def tRec (r : ARec) : List UInt8 := recT r.client r.no r.call r.code r.ans ++ [10]
def tPkt (p : APkt) : List UInt8 := if p.reply = true then [114, 101, 112, 108, 121, 32] ++ recT p.client p.no p.call p.code p.ans ++ [10] else [99, 97, 108, 108, 32] ++ (Lib.itoa p.client ++ 32 :: (Lib.itoa p.no ++ 32 :: (aLine p.call).1)) ++ [10]
def told (A : AW) (c : DCmd) : List UInt8 := match c.tag with
  | 0 => []
  | 1 => tWhat
  | 2 => if (aParse c.s).2 ≠ 0 then tNo (aParse c.s).2 else tStep (A.step ⟨1, c.n, 0, (aParse c.s).1⟩).1
  | 3 => tStep (A.step c.x).1
  | 4 => [99, 97, 108, 109, 32] ++ Lib.itoa (AW.calm 3 A).1 ++ [10]
  | 5 => A.ms.flatMap tPkt ++ tEnd
  | 6 => A.log.flatMap tRec ++ tEnd
  | 7 => if c.n < 0 ∨ 2 < c.n then tNo 9 else (A.cl c.n.toNat).done.flatMap tRec ++ tEnd
  | _ => if c.n < 0 ∨ (A.log.length : Int) < c.n then tNo 9 else textL (behind (A.log.take c.n.toNat)) ++ tEnd
def went (A : AW) (c : DCmd) : AW := match c.tag with
  | 2 => if (aParse c.s).2 ≠ 0 then A else (A.step ⟨1, c.n, 0, (aParse c.s).1⟩).2
  | 3 => (A.step c.x).2
  | 4 => (AW.calm 3 A).2
  | _ => A
/-- A command's own numbers and calls are small. -/
def DCmd.ok (c : DCmd) : Prop := SmallC c.x.call

/-- A world that a desk can have. -/
structure DInv (A : AW) : Prop where
  wi : WInv A
  ti : TInv A
theorem DInv.start : DInv AW.start := ⟨WInv.start, TInv.start⟩
theorem line_len (c : ACall) : (aLine c).1.length ≤ 30 := by
  unfold aLine
  split
  · simp
  · rename_i h
    have h0 : checkI c = 0 := by omega
    have hz := check_zero h0
    have hnm : c.kind ≠ 6 → c.name.size ≤ 5 := fun h6 => (nameB_size (named_name hz.2.2.2.1 h6)).2
    have hds : c.kind = 3 → c.dst.size ≤ 5 := fun h6 => (nameB_size (named_dst hz.2.2.2.1 h6)).2
    have htx : c.kind = 4 → c.text.size ≤ 8 := fun h6 => (textB_size (hz.2.2.2.2 h6)).2
    have s1 : c.name.data.toList.length = c.name.size := bsize _
    have s2 : c.dst.data.toList.length = c.dst.size := bsize _
    have s3 : c.text.data.toList.length = c.text.size := bsize _
    dsimp only
    unfold lineL
    repeat' split
    all_goals simp only [wMake, wRemove, wRename, wAppend, wRead, wList, List.length_append, List.length_cons, List.length_nil, s1, s2, s3]
    · have := hnm (by omega); omega
    · have := hnm (by omega); omega
    · have := hnm (by omega); have := hds (by omega); omega
    · have := hnm (by omega); have := htx (by omega); omega
    · have := hnm (by omega); omega
    · omega
theorem itoa_few {n : Int} (h0 : -9223372036854775808 ≤ n) (h1 : n ≤ 9223372036854775807) : (Lib.itoa n).length ≤ 21 := Lib.itoa_length_le n h0 h1
theorem ans_len {d : Int} {u : ByteArray} (h : SmallA d u) : (ansL d u.data.toList).length ≤ 130 := by
  obtain ⟨h0, h1, h2⟩ := h
  have := itoa_few (n := d) (by omega) (by omega)
  have s1 : u.data.toList.length = u.size := bsize _
  unfold ansL tailL
  rw [List.length_append]
  split <;> split <;> simp only [List.length_append, List.length_cons, List.length_nil] <;> omega
theorem recT_len {c no : Int} {x : ACall} {d : Int} {u : ByteArray} (hc : 0 ≤ c ∧ c ≤ 2) (hn : 1 ≤ no ∧ no ≤ 1000) (h : SmallA d u) : (recT c no x d u).length ≤ 210 := by
  have h1 := itoa_few (n := c) (by omega) (by omega)
  have h2 := itoa_few (n := no) (by omega) (by omega)
  have h3 := line_len x
  have h4 := ans_len h
  unfold recT
  simp only [List.length_append, List.length_cons]
  omega
theorem flat_few {α : Type} (f : α → List UInt8) (b : Nat) : ∀ (l : List α), (∀ x, x ∈ l → (f x).length ≤ b) → (l.flatMap f).length ≤ l.length * b
  | [], _ => by simp
  | x :: l, h => by
    have h1 := h x (by simp)
    have h2 := flat_few f b l (fun y hy => h y (by simp [hy]))
    rw [List.flatMap_cons, List.length_append, List.length_cons, Nat.add_mul]
    omega
theorem calls_few {A : AW} (h : WInv A) {n : Nat} (hn : n < 3) {k : Nat} {c : ACall} (hc : (A.cl n).calls[k]? = some c) : k < 201 := by
  have h1 := (List.getElem?_eq_some_iff.1 hc).1
  rw [calls_len] at h1
  have := (h.cok n hn).few
  split at h1 <;> omega
theorem DInv.log_rec {A : AW} (h : DInv A) {r : ARec} (hr : r ∈ A.log) : (tRec r).length ≤ 220 := by
  have hl := h.wi.lg r hr
  have hk := calls_few h.wi (by have := hl.hi; have := hl.lo; omega) hl.is
  have hb := recT_len (c := r.client) (no := r.no) (x := r.call) ⟨hl.lo, hl.hi⟩ ⟨hl.no, by omega⟩ (h.wi.logA hr)
  unfold tRec
  rw [List.length_append, List.length_singleton]
  omega
theorem DInv.done_rec {A : AW} (h : DInv A) {n : Nat} (hn : n < 3) {r : ARec} (hr : r ∈ (A.cl n).done) : (tRec r).length ≤ 220 := by
  obtain ⟨k, hk⟩ := List.mem_iff_getElem?.1 hr
  have hk2 := (List.getElem?_eq_some_iff.1 hk).1
  obtain ⟨e1, e2⟩ := (h.wi.cok n hn).num k r hk
  have e3 := h.wi.me n hn
  have e4 := (h.wi.cok n hn).few
  have hb := recT_len (c := r.client) (no := r.no) (x := r.call) ⟨by omega, by omega⟩ ⟨by omega, by omega⟩ (h.ti.dn n hn r hr)
  unfold tRec
  rw [List.length_append, List.length_singleton]
  omega
theorem DInv.pkt {A : AW} (h : DInv A) {p : APkt} (hp : p ∈ A.ms) : (tPkt p).length ≤ 220 := by
  have hl := h.wi.pk p hp
  have hk := calls_few h.wi (by have := hl.hi; have := hl.lo; omega) hl.is
  have hno := hl.no
  have hlo := hl.lo
  have hhi := hl.hi
  have hb := recT_len (c := p.client) (no := p.no) (x := p.call) ⟨hl.lo, hl.hi⟩ ⟨hl.no, by omega⟩ (h.ti.ms p hp)
  have h1 := itoa_few (n := p.client) (by omega) (by omega)
  have h2 := itoa_few (n := p.no) (by omega) (by omega)
  have h3 := line_len p.call
  unfold tPkt
  split <;> simp only [List.length_append, List.length_cons, List.length_nil] <;> omega
theorem DInv.log_few {A : AW} (h : DInv A) : A.log.length ≤ 400 := by
  have h1 := h.wi.good.few
  have h2 := h.wi.ss
  omega

theorem check_SmallC {c : ACall} (h : checkI c = 0) : SmallC c := by
  have hz := check_zero h
  obtain ⟨f1, f2, f3⟩ := formed_parts hz.2.2.1
  have e0 : (⟨#[]⟩ : ByteArray).size = 0 := rfl
  refine ⟨?_, ?_, ?_⟩
  · by_cases h6 : c.kind = 6
    · rw [f1 h6, e0]; omega
    · have := (nameB_size (named_name hz.2.2.2.1 h6)).2; omega
  · by_cases h6 : c.kind = 3
    · have := (nameB_size (named_dst hz.2.2.2.1 h6)).2; omega
    · rw [f2 h6, e0]; omega
  · by_cases h6 : c.kind = 4
    · have := (textB_size (hz.2.2.2.2 h6)).2; omega
    · rw [f3 h6, e0]; omega
theorem parse_ok {s : List UInt8} (h : (aParse s).2 = 0) : checkI (aParse s).1 = 0 := by
  unfold aParse at h ⊢
  split at h
  · exact absurd h (by decide)
  · rename_i h1
    split at h
    · rename_i h2; exact absurd h h2
    · rename_i h2
      rw [if_neg h1, if_neg h2]
      dsimp only
      exact Decidable.of_not_not h2
theorem parse_code (s : List UInt8) : 0 ≤ (aParse s).2 ∧ (aParse s).2 ≤ 12 := by
  unfold aParse
  have := checkI_range (wordsC s).1
  repeat' split
  all_goals dsimp only
  all_goals omega
theorem ask_code (c : ACli) (x : ACall) : 0 ≤ c.ask x ∧ c.ask x ≤ 99 := by
  have := checkI_range x
  unfold ACli.ask
  repeat' split
  all_goals omega
theorem DInv.went {A : AW} (h : DInv A) {c : DCmd} (hc : c.ok) : DInv (went A c) := by
  unfold Proofs.YtffgolanmaenfacGreatDoor.went
  split
  · split
    · exact h
    · rename_i h1
      exact ⟨h.wi.step (check_SmallC (parse_ok (Decidable.of_not_not h1))), h.ti.step h.wi _⟩
  · exact ⟨h.wi.step hc, h.ti.step h.wi _⟩
  · exact ⟨h.wi.calm 3, h.ti.calm h.wi 3⟩
  · exact h
theorem call_err (L : List ARec) (client no : Int) (c : ACall) : 0 ≤ (aCall L client no c).err ∧ (aCall L client no c).err ≤ 99 := by
  have := checkI_range c
  have := aDo_code (behind L) c
  unfold aCall
  repeat' split
  all_goals dsimp only
  all_goals omega
theorem tear_code (L : List ARec) (client no : Int) (c : ACall) (keep : Int) : 0 ≤ (aTear L client no c keep).1 ∧ (aTear L client no c keep).1 ≤ 99 := by
  have := call_err L client no c
  unfold aTear
  dsimp only
  split <;> exact this
theorem step_code (A : AW) (x : AX) : 0 ≤ (A.step x).1 ∧ (A.step x).1 ≤ 99 := by
  unfold AW.step
  split
  · unfold AW.have
    split
    · (dsimp only; try omega)
    · exact ask_code _ _
  split
  · unfold AW.send
    repeat' split
    all_goals (dsimp only; try omega)
  split
  · unfold AW.dbl
    repeat' split
    all_goals (dsimp only; try omega)
  split
  · unfold AW.take
    split
    · (dsimp only; try omega)
    split
    · (dsimp only; try omega)
    split
    · unfold AW.tear
      split
      · (dsimp only; try omega)
      · exact tear_code _ _ _ _ _
    · (dsimp only; try omega)
  split
  · (dsimp only; try omega)
  · (dsimp only; try omega)
theorem calm_code (f : Nat) (A : AW) : 2 - (f : Int) ≤ (AW.calm f A).1 ∧ (AW.calm f A).1 ≤ 3 := by
  induction f generalizing A with
  | zero => unfold AW.calm; dsimp only; omega
  | succ f ih =>
    unfold AW.calm
    split
    · have := ih A.drain.sends; omega
    · dsimp only; omega
theorem no_len {d : Int} (h0 : -9223372036854775808 ≤ d) (h1 : d ≤ 9223372036854775807) : (tNo d).length ≤ 30 := by
  have := itoa_few h0 h1
  unfold tNo
  simp only [List.length_append, List.length_cons, List.length_nil]
  omega
theorem step_len (A : AW) (x : AX) : (tStep (A.step x).1).length ≤ 30 := by
  have := step_code A x
  unfold tStep
  split
  · exact no_len (by omega) (by omega)
  · simp
theorem DInv.told {A : AW} (h : DInv A) (c : DCmd) : (told A c).length ≤ 90000 := by
  unfold Proofs.YtffgolanmaenfacGreatDoor.told
  split
  · simp
  · simp [tWhat]
  · have := parse_code c.s
    split
    · have := no_len (d := (aParse c.s).2) (by omega) (by omega); omega
    · have := step_len A ⟨1, c.n, 0, (aParse c.s).1⟩; omega
  · have := step_len A c.x; omega
  · have h1 := calm_code 3 A
    have := itoa_few (n := (AW.calm 3 A).1) (by omega) (by omega)
    simp only [List.length_append, List.length_cons, List.length_nil]
    omega
  · have h1 := flat_few tPkt 220 A.ms (fun p hp => h.pkt hp)
    have h2 := h.wi.few
    rw [List.length_append]
    simp only [tEnd, List.length_cons, List.length_nil]
    omega
  · have h1 := flat_few tRec 220 A.log (fun p hp => h.log_rec hp)
    have h2 := h.log_few
    rw [List.length_append]
    simp only [tEnd, List.length_cons, List.length_nil]
    omega
  · split
    · have := no_len (d := 9) (by decide) (by decide); omega
    · have h1 := flat_few tRec 220 (A.cl c.n.toNat).done (fun p hp => h.done_rec (by omega) hp)
      have h2 := (h.wi.cok c.n.toNat (by omega)).few
      rw [List.length_append]
      simp only [tEnd, List.length_cons, List.length_nil]
      omega
  · split
    · have := no_len (d := 9) (by decide) (by decide); omega
    · have h1 := textL_len (behind_inv (A.log.take c.n.toNat))
      rw [List.length_append]
      simp only [tEnd, List.length_cons, List.length_nil]
      omega

/-- All lines: what is told, and what the world is behind them. -/
def dtell (cmd : ByteArray → DCmd) : AW → List ByteArray → List UInt8
  | _, [] => []
  | A, x :: ls => told A (cmd x) ++ dtell cmd (went A (cmd x)) ls
def dnext (cmd : ByteArray → DCmd) : AW → List ByteArray → AW
  | A, [] => A
  | A, x :: ls => dnext cmd (went A (cmd x)) ls
theorem dtell_app (cmd : ByteArray → DCmd) : ∀ (A : AW) (a b : List ByteArray), dtell cmd A (a ++ b) = dtell cmd A a ++ dtell cmd (dnext cmd A a) b
  | _, [], _ => rfl
  | A, x :: a, b => by rw [List.cons_append, dtell, dtell, dnext, dtell_app, List.append_assoc]
theorem dnext_app (cmd : ByteArray → DCmd) : ∀ (A : AW) (a b : List ByteArray), dnext cmd A (a ++ b) = dnext cmd (dnext cmd A a) b
  | _, [], _ => rfl
  | A, x :: a, b => by rw [List.cons_append, dnext, dnext, dnext_app]
theorem DInv.next {cmd : ByteArray → DCmd} (hc : ∀ x, (cmd x).ok) : ∀ {A : AW} (_ : DInv A) (ls : List ByteArray), DInv (dnext cmd A ls)
  | _, h, [] => h
  | _, h, x :: ls => DInv.next hc (h.went (hc x)) ls
theorem DInv.tell {cmd : ByteArray → DCmd} (hc : ∀ x, (cmd x).ok) : ∀ {A : AW} (_ : DInv A) (ls : List ByteArray), (dtell cmd A ls).length ≤ ls.length * 90000
  | _, _, [] => by simp [dtell]
  | A, h, x :: ls => by
    have h1 := h.told (cmd x)
    have h2 := DInv.tell hc (h.went (hc x)) ls
    rw [dtell, List.length_append, List.length_cons, Nat.add_mul]
    omega

/-- Which line has a newline in it; as many as there are: none. -/
def nlAt (ls : List ByteArray) : Nat := ls.findIdx (fun x => x.data.toList.contains 10)
def lnFault (ls : List ByteArray) : Int × Int := if 150 < ls.length then (13, -1) else if nlAt ls < ls.length then (14, (nlAt ls : Int)) else (0, 0)
theorem fault_zero {ls : List ByteArray} : (lnFault ls).1 = 0 ↔ ls.length ≤ 150 ∧ ∀ x, x ∈ ls → x.data.toList.contains 10 = false := by
  have hi : nlAt ls < ls.length ↔ ∃ x, x ∈ ls ∧ x.data.toList.contains 10 = true := by
    unfold nlAt
    rw [List.findIdx_lt_length]
  unfold lnFault
  constructor
  · intro h
    split at h
    · exact absurd h (by decide)
    · rename_i h0
      split at h
      · exact absurd h (by dsimp only; omega)
      · rename_i h1
        refine ⟨by omega, fun x hx => ?_⟩
        cases e : x.data.toList.contains 10
        · rfl
        · exact absurd (hi.2 ⟨x, hx, e⟩) h1
  · rintro ⟨h0, h1⟩
    rw [if_neg (by omega), if_neg]
    intro hlt
    obtain ⟨x, hx, e⟩ := hi.1 hlt
    rw [h1 x hx] at e
    exact absurd e (by decide)
theorem fault_cut0 (ls : List ByteArray) (k : Nat) (hl : ls.length ≤ 150) (h : (lnFault ls).1 = 0) : (lnFault (ls.take k)).1 = 0 ∧ (lnFault (ls.drop k)).1 = 0 := by
  obtain ⟨_, h1⟩ := fault_zero.1 h
  refine ⟨fault_zero.2 ⟨?_, fun x hx => h1 x (List.mem_of_mem_take hx)⟩, fault_zero.2 ⟨?_, fun x hx => h1 x (List.mem_of_mem_drop hx)⟩⟩
  · rw [List.length_take]; omega
  · rw [List.length_drop]; omega
theorem fault_cut1 (ls : List ByteArray) (k : Nat) (hl : ls.length ≤ 150) (h : (lnFault ls).1 ≠ 0) : (lnFault (ls.take k)).1 ≠ 0 ∨ (lnFault (ls.drop k)).1 ≠ 0 := by
  by_cases h1 : (lnFault (ls.take k)).1 = 0
  · refine Or.inr fun h2 => h (fault_zero.2 ⟨hl, fun x hx => ?_⟩)
    rw [← List.take_append_drop k ls] at hx
    rcases List.mem_append.1 hx with hx | hx
    · exact (fault_zero.1 h1).2 x hx
    · exact (fault_zero.1 h2).2 x hx
  · exact Or.inl h1
end Go.Proofs.YtffgolanmaenfacGreatDoor

namespace Go.Proofs.YtffgolanmaenfacGreatDoor
open Go.RowKit
set_option linter.unusedSimpArgs false
set_option linter.unusedVariables false

theorem B_app (a b : List UInt8) : B a ++ B b = B (a ++ b) := by
  apply WideShapes.bytes_inj
  simp [B]
end Go.Proofs.YtffgolanmaenfacGreatDoor

namespace Go.Proofs.YtffgolanmaenfacGreatDoor
open Go.RowKit
set_option linter.unusedSimpArgs false
set_option linter.unusedVariables false

theorem B_size (l : List UInt8) : (B l).size = l.length := by show l.toArray.size = _; simp
end Go.Proofs.YtffgolanmaenfacGreatDoor

namespace Go.Proofs.YtffgolanmaenfacGreatDoor
open Go.RowKit
set_option linter.unusedSimpArgs false
set_option linter.unusedVariables false

theorem itoa_any (n : Int) (h0 : -9223372036854775808 ≤ n) (h1 : n ≤ 9223372036854775807) (w : World) (ht : Lib.TabIs Tryz.prog w "internal/strconv.uint64pow10" .u64 Lib.pow10Tab) :
    Calls Tryz.prog 59 #[.int .i64 n] w fun e w' => e = .returned (.string (B (Lib.itoa n))) ∧ Below w.heap.size w w' := by
  refine (Tryz.strconv_Itoa n h0 h1 w ht).mono ?_
  rintro e w1 ⟨rfl, k, os, hw⟩
  refine ⟨rfl, ?_⟩
  rw [hw]
  exact ⟨rfl, rfl, rfl, by show w.heap.size ≤ (w.heap ++ os).size; simp, fun j hj => by show (w.heap ++ os)[j]? = w.heap[j]?; exact Array.getElem?_append_left hj⟩

set_option maxRecDepth 100000 in
set_option maxHeartbeats 4000000 in
theorem Answer_ok (d : Int) (u : ByteArray) (w : World) (hw : LW w) (hd : d = 0) (h0 : -9223372036854775808 ≤ d) (h1 : d ≤ 9223372036854775807) (hu : u.size ≤ 900000) (he : u.data.toList = []) :
    Calls Tryz.prog 171 #[.agg #[.int .i64 d, .string u]] w fun e w' => e = .returned (.string (B (ansL d u.data.toList))) ∧ Below w.heap.size w w' := by
  obtain ⟨V0, hV0⟩ : ∃ V, V = w.alloc (.cells #[.int .i64 d, .string u] 100) := ⟨_, rfl⟩
  obtain ⟨V2, hV2⟩ : ∃ V, V = (w.alloc (.cells #[.int .i64 d, .string u] 100)).alloc (.cells #[.pointer none, .slice none 0 0] 44) := ⟨_, rfl⟩
  have hz0 : V0.heap.size = w.heap.size + 1 := by rw [hV0]; exact al_size _ _
  have hb0 : Below w.heap.size w V0 := by rw [hV0]; exact (Below.refl _ _).alloc (Nat.le_refl _) _
  have hC0 : V0.heap[w.heap.size]? = some (.cells #[.int .i64 d, .string u] 100 (0, 0)) := by rw [hV0]; exact heap_alloc_new _ _
  have hb2 : Below V0.heap.size V0 V2 := by rw [hV2, ← hV0]; exact (Below.refl _ _).alloc (Nat.le_refl _) _
  have hY2 : YB (w.heap.size + 1) (w.heap.size + 1) [] V2 := by rw [← hz0, hV2, ← hV0]; exact Lib.IsBuilderF.of (Lib.fresh_isBuilder 44 5 V0)
  have hB : ∀ W, Below (w.heap.size + 1) V2 W → Below w.heap.size w W ∧ LW W ∧ W.cell? ⟨w.heap.size, 0, none⟩ = some (.int .i64 d) ∧ W.cell? ⟨w.heap.size, 1, none⟩ = some (.string u) ∧ w.heap.size + 1 ≤ W.heap.size := fun W hW => by
    rw [← hz0] at hW ⊢
    have h2 := hb2.trans hW
    obtain ⟨y0, y1, _⟩ := twoK ((h2.block _ (by omega)).trans hC0)
    exact ⟨hb0.trans (h2.mono (by omega)), (hw.below hb0).below h2, y0, y1, h2.size⟩
  have HB := hide hB
  obtain ⟨_, _, x0, x1, hs2⟩ := hB V2 (Below.refl _ _)
  rw [hV2] at x0 x1
  have lu : u.data.toList.length = u.size := bsize u
  subst hd
  have hd0 : ((0 : Int) == 0) = true := rfl
  have ha : ansL 0 u.data.toList = [111, 107] ++ tailL u.data.toList := by simp [ansL]
  rw [ha]
  have ht : tailL u.data.toList = [] := by rw [tailL, if_pos he]
  rw [ht, List.append_nil]
  have hue : (u.toList == []) = true := by rw [toList_data, he]; rfl
  have hune : (u.toList != []) = false := by rw [toList_data, he]; rfl
  have HWS := hide (WriteStr_l (w.heap.size + 1) (w.heap.size + 1) [] ⟨#[111, 107]⟩ V2 hY2 (by decide) hs2)
  obtain ⟨res, hres⟩ : ∃ res : ByteArray, res = B ([111, 107]) := ⟨_, rfl⟩
  rw [← hres]
  have HRES := hide hres
  have HV2 := hide hV2
  have HLU := hide (And.intro lu hu)
  clear hres hV0 hV2 hz0 hb0 hC0 hb2 hY2 hB hs2 ha ht he lu hu h0 h1 hw
  go_enter Tryz.func171, Tryz.ntmps171
  --@A1@
  go_wp2_with fail
  rw [← unhide HV2]
  refine (unhide HWS).mono ?_
  rintro e w3 ⟨rfl, y3, b3, _⟩
  have HB3 := hide b3
  obtain ⟨_, lw3, x0, x1, hs3⟩ := (unhide HB) w3 b3
  rw [List.nil_append] at y3
  have hst := String_y (w.heap.size + 1) (w.heap.size + 1) _ w3 y3 hs3
  have hres := unhide HRES
  have HST : Hid (Calls Tryz.prog 18 #[.pointer (some ⟨w.heap.size + 1, 0, none⟩)] w3 fun e w' => e = .returned (.string res) ∧ Below (w.heap.size + 1) w3 w') := hide (by
    rw [hres]
    have := hst
    simpa [B] using this)
  clear hst hres y3 hs3
  --@A6@
  go_wp2_with fail
  refine (unhide HST).mono ?_
  rintro e w8 ⟨rfl, b8⟩
  obtain ⟨hbE, _⟩ := (unhide HB) w8 ((unhide HB3).trans b8)
  have HBE := hide hbE
  clear b8 hbE
  go_wp2
  go_ret
  exact ⟨rfl, unhide HBE⟩
set_option maxRecDepth 100000 in
set_option maxHeartbeats 4000000 in
theorem Answer_ok_text (d : Int) (u : ByteArray) (w : World) (hw : LW w) (hd : d = 0) (h0 : -9223372036854775808 ≤ d) (h1 : d ≤ 9223372036854775807) (hu : u.size ≤ 900000) (he : u.data.toList ≠ []) :
    Calls Tryz.prog 171 #[.agg #[.int .i64 d, .string u]] w fun e w' => e = .returned (.string (B (ansL d u.data.toList))) ∧ Below w.heap.size w w' := by
  obtain ⟨V0, hV0⟩ : ∃ V, V = w.alloc (.cells #[.int .i64 d, .string u] 100) := ⟨_, rfl⟩
  obtain ⟨V2, hV2⟩ : ∃ V, V = (w.alloc (.cells #[.int .i64 d, .string u] 100)).alloc (.cells #[.pointer none, .slice none 0 0] 44) := ⟨_, rfl⟩
  have hz0 : V0.heap.size = w.heap.size + 1 := by rw [hV0]; exact al_size _ _
  have hb0 : Below w.heap.size w V0 := by rw [hV0]; exact (Below.refl _ _).alloc (Nat.le_refl _) _
  have hC0 : V0.heap[w.heap.size]? = some (.cells #[.int .i64 d, .string u] 100 (0, 0)) := by rw [hV0]; exact heap_alloc_new _ _
  have hb2 : Below V0.heap.size V0 V2 := by rw [hV2, ← hV0]; exact (Below.refl _ _).alloc (Nat.le_refl _) _
  have hY2 : YB (w.heap.size + 1) (w.heap.size + 1) [] V2 := by rw [← hz0, hV2, ← hV0]; exact Lib.IsBuilderF.of (Lib.fresh_isBuilder 44 5 V0)
  have hB : ∀ W, Below (w.heap.size + 1) V2 W → Below w.heap.size w W ∧ LW W ∧ W.cell? ⟨w.heap.size, 0, none⟩ = some (.int .i64 d) ∧ W.cell? ⟨w.heap.size, 1, none⟩ = some (.string u) ∧ w.heap.size + 1 ≤ W.heap.size := fun W hW => by
    rw [← hz0] at hW ⊢
    have h2 := hb2.trans hW
    obtain ⟨y0, y1, _⟩ := twoK ((h2.block _ (by omega)).trans hC0)
    exact ⟨hb0.trans (h2.mono (by omega)), (hw.below hb0).below h2, y0, y1, h2.size⟩
  have HB := hide hB
  obtain ⟨_, _, x0, x1, hs2⟩ := hB V2 (Below.refl _ _)
  rw [hV2] at x0 x1
  have lu : u.data.toList.length = u.size := bsize u
  subst hd
  have hd0 : ((0 : Int) == 0) = true := rfl
  have ha : ansL 0 u.data.toList = [111, 107] ++ tailL u.data.toList := by simp [ansL]
  rw [ha]
  have ht : tailL u.data.toList = 32 :: u.data.toList := by rw [tailL, if_neg he]
  rw [ht]
  have hue : (u.toList == []) = false := by rw [toList_data]; simpa using he
  have hune : (u.toList != []) = true := by rw [toList_data]; simpa using he
  have HWS := hide (WriteStr_l (w.heap.size + 1) (w.heap.size + 1) [] ⟨#[111, 107]⟩ V2 hY2 (by decide) hs2)
  obtain ⟨res, hres⟩ : ∃ res : ByteArray, res = B ([111, 107] ++ 32 :: u.data.toList) := ⟨_, rfl⟩
  rw [← hres]
  have HRES := hide hres
  have HV2 := hide hV2
  have HLU := hide (And.intro lu hu)
  clear hres hV0 hV2 hz0 hb0 hC0 hb2 hY2 hB hs2 ha ht he lu hu h0 h1 hw
  go_enter Tryz.func171, Tryz.ntmps171
  --@A1@
  go_wp2_with fail
  rw [← unhide HV2]
  refine (unhide HWS).mono ?_
  rintro e w3 ⟨rfl, y3, b3, _⟩
  have HB3 := hide b3
  obtain ⟨_, lw3, x0, x1, hs3⟩ := (unhide HB) w3 b3
  rw [List.nil_append] at y3
  have HWB := hide (WriteBlank_l (w.heap.size + 1) (w.heap.size + 1) _ w3 y3 (by simp only [List.length_append, List.length_cons, List.length_nil, bsize]; omega) hs3)
  clear y3 b3 HWS lw3
  --@A4@
  go_wp2_with fail
  refine (unhide HWB).mono ?_
  rintro e w6 ⟨rfl, y6, b6, _⟩
  have hb6 := (unhide HB3).trans b6
  obtain ⟨_, _, z0, z1, hs6⟩ := (unhide HB) w6 hb6
  have HWT := hide (WriteStr_l (w.heap.size + 1) (w.heap.size + 1) _ u w6 y6 (by have := (unhide HLU).2; simp only [List.length_append, List.length_cons, List.length_nil, bsize]; omega) hs6)
  have HB6 := hide hb6
  clear y6 b6 hb6 HWB x0 x1 hs3
  --@A5@
  go_wp2_with fail
  refine (unhide HWT).mono ?_
  rintro e w7 ⟨rfl, y7, b7, _⟩
  have hb7 := (unhide HB6).trans b7
  obtain ⟨hbE, _, _, _, hs7⟩ := (unhide HB) w7 hb7
  have HB7 := hide hb7
  clear b7 hb7 HWT z0 z1 hs6 hbE
  have hst := String_y (w.heap.size + 1) (w.heap.size + 1) _ w7 y7 hs7
  have hres := unhide HRES
  have HST : Hid (Calls Tryz.prog 18 #[.pointer (some ⟨w.heap.size + 1, 0, none⟩)] w7 fun e w' => e = .returned (.string res) ∧ Below (w.heap.size + 1) w7 w') := hide (by
    rw [hres]
    have := hst
    simpa [B, List.append_assoc] using this)
  clear hst hres y7 hs7
  --@A6@
  go_wp2_with fail
  refine (unhide HST).mono ?_
  rintro e w8 ⟨rfl, b8⟩
  obtain ⟨hbE, _⟩ := (unhide HB) w8 ((unhide HB7).trans b8)
  have HBE := hide hbE
  clear b8 hbE
  go_wp2
  go_ret
  exact ⟨rfl, unhide HBE⟩
set_option maxRecDepth 100000 in
set_option maxHeartbeats 4000000 in
theorem Answer_no (d : Int) (u : ByteArray) (w : World) (hw : LW w) (hd : d ≠ 0) (h0 : -9223372036854775808 ≤ d) (h1 : d ≤ 9223372036854775807) (hu : u.size ≤ 900000) (he : u.data.toList = []) :
    Calls Tryz.prog 171 #[.agg #[.int .i64 d, .string u]] w fun e w' => e = .returned (.string (B (ansL d u.data.toList))) ∧ Below w.heap.size w w' := by
  obtain ⟨V0, hV0⟩ : ∃ V, V = w.alloc (.cells #[.int .i64 d, .string u] 100) := ⟨_, rfl⟩
  obtain ⟨V2, hV2⟩ : ∃ V, V = (w.alloc (.cells #[.int .i64 d, .string u] 100)).alloc (.cells #[.pointer none, .slice none 0 0] 44) := ⟨_, rfl⟩
  have hz0 : V0.heap.size = w.heap.size + 1 := by rw [hV0]; exact al_size _ _
  have hb0 : Below w.heap.size w V0 := by rw [hV0]; exact (Below.refl _ _).alloc (Nat.le_refl _) _
  have hC0 : V0.heap[w.heap.size]? = some (.cells #[.int .i64 d, .string u] 100 (0, 0)) := by rw [hV0]; exact heap_alloc_new _ _
  have hb2 : Below V0.heap.size V0 V2 := by rw [hV2, ← hV0]; exact (Below.refl _ _).alloc (Nat.le_refl _) _
  have hY2 : YB (w.heap.size + 1) (w.heap.size + 1) [] V2 := by rw [← hz0, hV2, ← hV0]; exact Lib.IsBuilderF.of (Lib.fresh_isBuilder 44 5 V0)
  have hB : ∀ W, Below (w.heap.size + 1) V2 W → Below w.heap.size w W ∧ LW W ∧ W.cell? ⟨w.heap.size, 0, none⟩ = some (.int .i64 d) ∧ W.cell? ⟨w.heap.size, 1, none⟩ = some (.string u) ∧ w.heap.size + 1 ≤ W.heap.size := fun W hW => by
    rw [← hz0] at hW ⊢
    have h2 := hb2.trans hW
    obtain ⟨y0, y1, _⟩ := twoK ((h2.block _ (by omega)).trans hC0)
    exact ⟨hb0.trans (h2.mono (by omega)), (hw.below hb0).below h2, y0, y1, h2.size⟩
  have HB := hide hB
  obtain ⟨_, _, x0, x1, hs2⟩ := hB V2 (Below.refl _ _)
  rw [hV2] at x0 x1
  have lu : u.data.toList.length = u.size := bsize u
  have hd0 : (d == 0) = false := by simpa using hd
  have ha : ansL d u.data.toList = [110, 111, 32] ++ Lib.itoa d ++ tailL u.data.toList := by simp [ansL, hd]
  rw [ha]
  have ht : tailL u.data.toList = [] := by rw [tailL, if_pos he]
  rw [ht, List.append_nil]
  have hue : (u.toList == []) = true := by rw [toList_data, he]; rfl
  have hune : (u.toList != []) = false := by rw [toList_data, he]; rfl
  have HWS := hide (WriteStr_l (w.heap.size + 1) (w.heap.size + 1) [] ⟨#[110, 111, 32]⟩ V2 hY2 (by decide) hs2)
  have hil := Lib.itoa_length_le d h0 h1
  have HIL : Hid ((Lib.itoa d).length ≤ 21) := hide (by omega)
  have HRG := hide (And.intro h0 h1)
  obtain ⟨res, hres⟩ : ∃ res : ByteArray, res = B ([110, 111, 32] ++ Lib.itoa d) := ⟨_, rfl⟩
  rw [← hres]
  have HRES := hide hres
  have HV2 := hide hV2
  have HLU := hide (And.intro lu hu)
  clear hres hV0 hV2 hz0 hb0 hC0 hb2 hY2 hB hs2 ha ht he lu hu h0 h1 hw hd hil
  go_enter Tryz.func171, Tryz.ntmps171
  --@A1@
  go_wp2_with fail
  rw [← unhide HV2]
  refine (unhide HWS).mono ?_
  rintro e w3 ⟨rfl, y3, b3, _⟩
  have HB3 := hide b3
  obtain ⟨_, lw3, x0, x1, hs3⟩ := (unhide HB) w3 b3
  rw [List.nil_append] at y3
  obtain ⟨m, hm⟩ : ∃ m : ByteArray, m = B (Lib.itoa d) := ⟨_, rfl⟩
  have hIT := itoa_any d (unhide HRG).1 (unhide HRG).2 w3 lw3.pw
  rw [← hm] at hIT
  have HIT := hide hIT
  have HY3 := hide y3
  have HMM := hide hm
  have HMS : Hid (m.size ≤ 21) := hide (by rw [hm, B_size]; exact unhide HIL)
  clear y3 b3 lw3 hIT hm HWS
  --@A2@
  go_wp2_with fail
  refine (unhide HIT).mono ?_
  rintro e w4 ⟨rfl, b4⟩
  have hb4 := (unhide HB3).trans (b4.mono hs3)
  have y4 := YB_below (unhide HY3) b4
  have hs4 : w.heap.size + 1 ≤ w4.heap.size := Nat.le_trans hs3 b4.size
  have HWS4 := hide (WriteStr_l (w.heap.size + 1) (w.heap.size + 1) _ m w4 y4 (by have := unhide HMS; simp only [List.length_cons, List.length_nil, List.toArray_cons]; omega) hs4)
  have HB4 := hide hb4
  clear b4 hb4 y4 HIT x0 x1 hs3
  --@A3@
  go_wp2_with fail
  refine (unhide HWS4).mono ?_
  rintro e w5 ⟨rfl, y5, b5, _⟩
  have hb5 := (unhide HB4).trans b5
  obtain ⟨_, _, x0, x1, hs5⟩ := (unhide HB) w5 hb5
  have HB5 := hide hb5
  clear b5 hb5 HWS4 hs4
  have hst := String_y (w.heap.size + 1) (w.heap.size + 1) _ w5 y5 hs5
  have hres := unhide HRES
  have HST : Hid (Calls Tryz.prog 18 #[.pointer (some ⟨w.heap.size + 1, 0, none⟩)] w5 fun e w' => e = .returned (.string res) ∧ Below (w.heap.size + 1) w5 w') := hide (by
    rw [hres]
    have := hst
    rw [unhide HMM, B_data] at this
    simpa [B, List.append_assoc] using this)
  clear hst hres y5 hs5
  --@A6@
  go_wp2_with fail
  refine (unhide HST).mono ?_
  rintro e w8 ⟨rfl, b8⟩
  obtain ⟨hbE, _⟩ := (unhide HB) w8 ((unhide HB5).trans b8)
  have HBE := hide hbE
  clear b8 hbE
  go_wp2
  go_ret
  exact ⟨rfl, unhide HBE⟩
set_option maxRecDepth 100000 in
set_option maxHeartbeats 4000000 in
theorem Answer_no_text (d : Int) (u : ByteArray) (w : World) (hw : LW w) (hd : d ≠ 0) (h0 : -9223372036854775808 ≤ d) (h1 : d ≤ 9223372036854775807) (hu : u.size ≤ 900000) (he : u.data.toList ≠ []) :
    Calls Tryz.prog 171 #[.agg #[.int .i64 d, .string u]] w fun e w' => e = .returned (.string (B (ansL d u.data.toList))) ∧ Below w.heap.size w w' := by
  obtain ⟨V0, hV0⟩ : ∃ V, V = w.alloc (.cells #[.int .i64 d, .string u] 100) := ⟨_, rfl⟩
  obtain ⟨V2, hV2⟩ : ∃ V, V = (w.alloc (.cells #[.int .i64 d, .string u] 100)).alloc (.cells #[.pointer none, .slice none 0 0] 44) := ⟨_, rfl⟩
  have hz0 : V0.heap.size = w.heap.size + 1 := by rw [hV0]; exact al_size _ _
  have hb0 : Below w.heap.size w V0 := by rw [hV0]; exact (Below.refl _ _).alloc (Nat.le_refl _) _
  have hC0 : V0.heap[w.heap.size]? = some (.cells #[.int .i64 d, .string u] 100 (0, 0)) := by rw [hV0]; exact heap_alloc_new _ _
  have hb2 : Below V0.heap.size V0 V2 := by rw [hV2, ← hV0]; exact (Below.refl _ _).alloc (Nat.le_refl _) _
  have hY2 : YB (w.heap.size + 1) (w.heap.size + 1) [] V2 := by rw [← hz0, hV2, ← hV0]; exact Lib.IsBuilderF.of (Lib.fresh_isBuilder 44 5 V0)
  have hB : ∀ W, Below (w.heap.size + 1) V2 W → Below w.heap.size w W ∧ LW W ∧ W.cell? ⟨w.heap.size, 0, none⟩ = some (.int .i64 d) ∧ W.cell? ⟨w.heap.size, 1, none⟩ = some (.string u) ∧ w.heap.size + 1 ≤ W.heap.size := fun W hW => by
    rw [← hz0] at hW ⊢
    have h2 := hb2.trans hW
    obtain ⟨y0, y1, _⟩ := twoK ((h2.block _ (by omega)).trans hC0)
    exact ⟨hb0.trans (h2.mono (by omega)), (hw.below hb0).below h2, y0, y1, h2.size⟩
  have HB := hide hB
  obtain ⟨_, _, x0, x1, hs2⟩ := hB V2 (Below.refl _ _)
  rw [hV2] at x0 x1
  have lu : u.data.toList.length = u.size := bsize u
  have hd0 : (d == 0) = false := by simpa using hd
  have ha : ansL d u.data.toList = [110, 111, 32] ++ Lib.itoa d ++ tailL u.data.toList := by simp [ansL, hd]
  rw [ha]
  have ht : tailL u.data.toList = 32 :: u.data.toList := by rw [tailL, if_neg he]
  rw [ht]
  have hue : (u.toList == []) = false := by rw [toList_data]; simpa using he
  have hune : (u.toList != []) = true := by rw [toList_data]; simpa using he
  have HWS := hide (WriteStr_l (w.heap.size + 1) (w.heap.size + 1) [] ⟨#[110, 111, 32]⟩ V2 hY2 (by decide) hs2)
  have hil := Lib.itoa_length_le d h0 h1
  have HIL : Hid ((Lib.itoa d).length ≤ 21) := hide (by omega)
  have HRG := hide (And.intro h0 h1)
  obtain ⟨res, hres⟩ : ∃ res : ByteArray, res = B ([110, 111, 32] ++ Lib.itoa d ++ 32 :: u.data.toList) := ⟨_, rfl⟩
  rw [← hres]
  have HRES := hide hres
  have HV2 := hide hV2
  have HLU := hide (And.intro lu hu)
  clear hres hV0 hV2 hz0 hb0 hC0 hb2 hY2 hB hs2 ha ht he lu hu h0 h1 hw hd hil
  go_enter Tryz.func171, Tryz.ntmps171
  --@A1@
  go_wp2_with fail
  rw [← unhide HV2]
  refine (unhide HWS).mono ?_
  rintro e w3 ⟨rfl, y3, b3, _⟩
  have HB3 := hide b3
  obtain ⟨_, lw3, x0, x1, hs3⟩ := (unhide HB) w3 b3
  rw [List.nil_append] at y3
  obtain ⟨m, hm⟩ : ∃ m : ByteArray, m = B (Lib.itoa d) := ⟨_, rfl⟩
  have hIT := itoa_any d (unhide HRG).1 (unhide HRG).2 w3 lw3.pw
  rw [← hm] at hIT
  have HIT := hide hIT
  have HY3 := hide y3
  have HMM := hide hm
  have HMS : Hid (m.size ≤ 21) := hide (by rw [hm, B_size]; exact unhide HIL)
  clear y3 b3 lw3 hIT hm HWS
  --@A2@
  go_wp2_with fail
  refine (unhide HIT).mono ?_
  rintro e w4 ⟨rfl, b4⟩
  have hb4 := (unhide HB3).trans (b4.mono hs3)
  have y4 := YB_below (unhide HY3) b4
  have hs4 : w.heap.size + 1 ≤ w4.heap.size := Nat.le_trans hs3 b4.size
  have HWS4 := hide (WriteStr_l (w.heap.size + 1) (w.heap.size + 1) _ m w4 y4 (by have := unhide HMS; simp only [List.length_cons, List.length_nil, List.toArray_cons]; omega) hs4)
  have HB4 := hide hb4
  clear b4 hb4 y4 HIT x0 x1 hs3
  --@A3@
  go_wp2_with fail
  refine (unhide HWS4).mono ?_
  rintro e w5 ⟨rfl, y5, b5, _⟩
  have hb5 := (unhide HB4).trans b5
  obtain ⟨_, _, x0, x1, hs5⟩ := (unhide HB) w5 hb5
  have HB5 := hide hb5
  clear b5 hb5 HWS4 hs4
  have HWB := hide (WriteBlank_l (w.heap.size + 1) (w.heap.size + 1) _ w5 y5 (by have := unhide HMS; simp only [List.length_append, List.length_cons, List.length_nil, bsize]; omega) hs5)
  clear y5
  --@A4@
  go_wp2_with fail
  refine (unhide HWB).mono ?_
  rintro e w6 ⟨rfl, y6, b6, _⟩
  have hb6 := (unhide HB5).trans b6
  obtain ⟨_, _, z0, z1, hs6⟩ := (unhide HB) w6 hb6
  have HWT := hide (WriteStr_l (w.heap.size + 1) (w.heap.size + 1) _ u w6 y6 (by have := (unhide HLU).2; have := unhide HMS; simp only [List.length_append, List.length_cons, List.length_nil, bsize]; omega) hs6)
  have HB6 := hide hb6
  clear y6 b6 hb6 HWB x0 x1 hs5
  --@A5@
  go_wp2_with fail
  refine (unhide HWT).mono ?_
  rintro e w7 ⟨rfl, y7, b7, _⟩
  have hb7 := (unhide HB6).trans b7
  obtain ⟨hbE, _, _, _, hs7⟩ := (unhide HB) w7 hb7
  have HB7 := hide hb7
  clear b7 hb7 HWT z0 z1 hs6 hbE
  have hst := String_y (w.heap.size + 1) (w.heap.size + 1) _ w7 y7 hs7
  have hres := unhide HRES
  have HST : Hid (Calls Tryz.prog 18 #[.pointer (some ⟨w.heap.size + 1, 0, none⟩)] w7 fun e w' => e = .returned (.string res) ∧ Below (w.heap.size + 1) w7 w') := hide (by
    rw [hres]
    have := hst
    rw [unhide HMM, B_data] at this
    simpa [B, List.append_assoc] using this)
  clear hst hres y7 hs7
  --@A6@
  go_wp2_with fail
  refine (unhide HST).mono ?_
  rintro e w8 ⟨rfl, b8⟩
  obtain ⟨hbE, _⟩ := (unhide HB) w8 ((unhide HB7).trans b8)
  have HBE := hide hbE
  clear b8 hbE
  go_wp2
  go_ret
  exact ⟨rfl, unhide HBE⟩
theorem Answer_any (d : Int) (u : ByteArray) (w : World) (hw : LW w) (h0 : -9223372036854775808 ≤ d) (h1 : d ≤ 9223372036854775807) (hu : u.size ≤ 900000) :
    Calls Tryz.prog 171 #[.agg #[.int .i64 d, .string u]] w fun e w' => e = .returned (.string (B (ansL d u.data.toList))) ∧ Below w.heap.size w w' := by
  by_cases hd : d = 0
  · by_cases he : u.data.toList = []
    · exact Answer_ok d u w hw hd h0 h1 hu he
    · exact Answer_ok_text d u w hw hd h0 h1 hu he
  · by_cases he : u.data.toList = []
    · exact Answer_no d u w hw hd h0 h1 hu he
    · exact Answer_no_text d u w hw hd h0 h1 hu he

end Go.Proofs.YtffgolanmaenfacGreatDoor

namespace Go.Proofs.YtffgolanmaenfacGreatDoor
open Go.RowKit
set_option linter.unusedSimpArgs false
set_option linter.unusedVariables false

/-- What the library's variables hold. -/
structure NW (w : World) : Prop where
  syn : ∃ tp p, w.var? Tryz.prog "strconv.ErrSyntax" = some #[.iface tp p]
  rng : ∃ tp p, w.var? Tryz.prog "strconv.ErrRange" = some #[.iface tp p]
/-- What Atoi tells of a word, beside its error. -/
def numI (l : List UInt8) : Int := match Lib.atoiAll l with
  | .ok v => v
  | .range => Lib.atoiSat l
  | _ => 0
/-- Is a word a number, as short as can be? -/
def numB (l : List UInt8) : Bool := match Lib.atoiAll l with
  | .ok v => decide (Lib.itoa v = l)
  | _ => false
theorem numI_range (l : List UInt8) : -9223372036854775808 ≤ numI l ∧ numI l ≤ 9223372036854775807 := by
  unfold numI
  split
  · rename_i v h; exact Lib.atoiAll_bounds h
  · exact Lib.atoiSat_bounds l
  · omega
def AtoiErr (l : List UInt8) (ev : Value) : Prop := (ev = .nilIface ∧ numB l = decide (Lib.itoa (numI l) = l)) ∨ ((∃ t N, ev = .iface t (.pointer (some ⟨N, 0, none⟩))) ∧ numB l = false)
theorem Atoi_any (s : ByteArray) (w : World) (hn : NW w) (hs : s.size ≤ 281474976710656) :
    Calls Tryz.prog 31 #[.string s] w fun e w' => ∃ ev, e = .returned (.tuple #[.int .i64 (numI s.data.toList), ev]) ∧ AtoiErr s.data.toList ev ∧ Below w.heap.size w w' := by
  obtain ⟨t1, p1, h1⟩ := hn.syn
  obtain ⟨t2, p2, h2⟩ := hn.rng
  rcases h : Lib.atoiAll s.data.toList with v | _ | _
  · have e1 : numI s.data.toList = v := by unfold numI; rw [h]
    have e2 : numB s.data.toList = decide (Lib.itoa v = s.data.toList) := by unfold numB; rw [h]
    refine (Tryz.strconv_Atoi_ok s (by omega) v h w).mono ?_
    rintro e w' ⟨rfl, hw⟩
    refine ⟨_, by rw [e1], Or.inl ⟨rfl, by rw [e2, e1]⟩, ?_⟩
    rcases hw with rfl | ⟨t, rfl⟩
    · exact Below.refl _ _
    · exact Lib.bytesWorld_below _ _ _
  · have e1 : numI s.data.toList = 0 := by unfold numI; rw [h]
    have e2 : numB s.data.toList = false := by unfold numB; rw [h]
    refine (show Calls Tryz.prog 31 #[.string s] w _ from Any.strconv_Atoi_syntax_var Tryz.laysC172 s hs h t1 p1 w h1).mono ?_
    rintro e w' ⟨N, rfl, _, _, hb⟩
    exact ⟨_, by rw [e1], Or.inr ⟨⟨_, N, rfl⟩, e2⟩, hb⟩
  · have e1 : numI s.data.toList = Lib.atoiSat s.data.toList := by unfold numI; rw [h]
    have e2 : numB s.data.toList = false := by unfold numB; rw [h]
    refine (Tryz.strconv_Atoi_range_var s hs h t2 p2 w h2).mono ?_
    rintro e w' ⟨N, rfl, _, _, hb⟩
    exact ⟨_, by rw [e1], Or.inr ⟨⟨_, N, rfl⟩, e2⟩, hb⟩
theorem num_eq (l : List UInt8) (s : ByteArray) : ((B l).toList == s.toList) = decide (l = s.data.toList) := by
  rw [eqB]
  apply decide_eq_decide.2
  constructor
  · intro h; rw [← h, B_data]
  · intro h; rw [h, data_B]
end Go.Proofs.YtffgolanmaenfacGreatDoor

namespace Go.Proofs.YtffgolanmaenfacGreatDoor
open Go.RowKit
set_option linter.unusedSimpArgs false
set_option linter.unusedVariables false

def zeroX : AX := ⟨0, 0, 0, ⟨0, ⟨#[]⟩, ⟨#[]⟩, ⟨#[]⟩⟩⟩
def cNone : DCmd := ⟨0, 0, [], zeroX⟩
def cWhat : DCmd := ⟨1, 0, [], zeroX⟩
def cAsk (n : Int) (s : List UInt8) : DCmd := ⟨2, n, s, zeroX⟩
def cStep (k a b : Int) : DCmd := ⟨3, 0, [], ⟨k, a, b, ⟨0, ⟨#[]⟩, ⟨#[]⟩, ⟨#[]⟩⟩⟩⟩
def cTag (t : Nat) (n : Int) : DCmd := ⟨t, n, [], zeroX⟩
/-- The words of a line, so many at most. -/
def wordsN : Nat → List UInt8 → List (List UInt8)
  | 0, _ => []
  | k + 1, l => if Lib.trimLeftB l 32 = [] then [] else (Lib.cut (Lib.trimLeftB l 32) [32]).1 :: wordsN k (Lib.cut (Lib.trimLeftB l 32) [32]).2.1
/-- The orders: a word, and how many numbers stand behind it. -/
def otab : List (List UInt8 × Nat) := [([115, 101, 110, 100], 1), ([100, 101, 108, 105, 118, 101, 114], 1), ([108, 111, 115, 101], 1), ([100, 111, 117, 98, 108, 101], 1), ([99, 114, 97, 115, 104], 0), ([116, 101, 97, 114], 2), ([99, 97, 108, 109], 0), ([112, 97, 99, 107, 101, 116, 115], 0), ([100, 111, 110, 101], 1), ([108, 111, 103], 0), ([116, 104, 101, 110], 1)]
def ocmd (i : Nat) (a b : Int) : DCmd := match i with
  | 0 => cStep 2 a b
  | 1 => cStep 3 a b
  | 2 => cStep 4 a b
  | 3 => cStep 5 a b
  | 4 => cStep 6 a b
  | 5 => cStep 7 a b
  | 6 => cTag 4 0
  | 7 => cTag 5 0
  | 8 => cTag 7 a
  | 9 => cTag 6 0
  | _ => cTag 8 a
def oidx (wd : List UInt8) (n : Nat) : Nat := otab.findIdx (fun p => p.1 == wd && p.2 == n)
def nth (l : List (List UInt8)) (i : Nat) : Int := match l[i]? with
  | some x => numI x
  | none => 0
def cmdW (l : List (List UInt8)) : DCmd := match l with
  | [] => cNone
  | wd :: bh => if oidx wd bh.length < 11 then (if bh.all numB = true then ocmd (oidx wd bh.length) (nth bh 0) (nth bh 1) else cWhat) else cWhat
def cmdC (l : List UInt8) : DCmd := if ((Lib.cut l [32]).2.2 && numB (Lib.cut l [32]).1) = true then cAsk (numI (Lib.cut l [32]).1) (Lib.cut l [32]).2.1 else cWhat
def cmdL (l : List UInt8) : DCmd := if Lib.hasPrefix l [99, 97, 108, 108, 32] = true then cmdC (l.drop 5) else cmdW (wordsN 4 l)
def cmd (s : ByteArray) : DCmd := cmdL s.data.toList
theorem small0 : SmallC ⟨0, ⟨#[]⟩, ⟨#[]⟩, ⟨#[]⟩⟩ := ⟨Nat.zero_le _, Nat.zero_le _, Nat.zero_le _⟩
theorem ocmd_ok (i : Nat) (a b : Int) : (ocmd i a b).ok := by
  unfold ocmd
  split <;> exact small0
theorem cmd_ok (s : ByteArray) : (cmd s).ok := by
  unfold cmd cmdL
  split
  · unfold cmdC
    split <;> exact small0
  · unfold cmdW
    split
    · exact small0
    · split
      · split
        · exact ocmd_ok _ _ _
        · exact small0
      · exact small0
theorem trim_len (l : List UInt8) (c : UInt8) : (Lib.trimLeftB l c).length ≤ l.length := by
  unfold Lib.trimLeftB
  exact (List.dropWhile_sublist _).length_le
theorem cut_len (l s : List UInt8) : (Lib.cut l s).1.length ≤ l.length ∧ (Lib.cut l s).2.1.length ≤ l.length := by
  unfold Lib.cut
  split
  · dsimp only
    rw [List.length_take, List.length_drop]
    omega
  · dsimp only
    exact ⟨Nat.le_refl _, Nat.zero_le _⟩
/-- No word is longer than its line. -/
theorem wordsN_size : ∀ (k : Nat) (l x : List UInt8), x ∈ wordsN k l → x.length ≤ l.length
  | 0, _, _, h => by cases h
  | k + 1, l, x, h => by
    unfold wordsN at h
    have h1 := trim_len l 32
    have h2 := cut_len (Lib.trimLeftB l 32) [32]
    split at h
    · cases h
    · rcases List.mem_cons.1 h with rfl | h
      · omega
      · have := wordsN_size k _ x h
        omega
theorem oidx_count {wd : List UInt8} {n : Nat} (h : oidx wd n < 11) : n ≤ 2 := by
  have h1 : otab.findIdx (fun p => p.1 == wd && p.2 == n) < otab.length := h
  have h2 := List.findIdx_getElem (w := h1)
  have h3 := List.getElem_mem (l := otab) h1
  have h4 : ∀ p, p ∈ otab → p.2 ≤ 2 := by decide
  have h5 := h4 _ h3
  simp only [Bool.and_eq_true, beq_iff_eq] at h2
  omega
end Go.Proofs.YtffgolanmaenfacGreatDoor

namespace Go.Proofs.YtffgolanmaenfacGreatDoor
open Go.RowKit
set_option linter.unusedSimpArgs false
set_option linter.unusedVariables false

theorem KRep.below {N : Nat} {w w' : World} {X : Nat} {v : Value} {c : ACli} (h : KRep N w X v c) (hb : Below w.heap.size w w') : KRep N w' X v c := ⟨h.o.below hb, h.ok⟩

set_option maxRecDepth 100000 in
set_option maxHeartbeats 4000000 in
theorem awaits_any {N : Nat} {w : World} {X : Nat} {v : Value} {c : ACli} (h : KRep N w X v c) (p : APkt) : Calls Tryz.prog 224 #[.pointer (some ⟨X, 0, none⟩), p.val] w fun e w' => e = .returned (.bool (c.hears p)) ∧ Below w.heap.size w w' := by
  obtain ⟨V, hV⟩ : ∃ V, V = w.alloc (.cells (pArr p) 102) := ⟨_, rfl⟩
  have hBV : Below w.heap.size w V := by rw [hV]; exact (Below.refl _ _).alloc (Nat.le_refl _) _
  have hXV : V.heap[w.heap.size]? = some (.cells (pArr p) 102 (0, 0)) := by rw [hV]; exact heap_alloc_new _ _
  have hrV := h.below hBV
  have HNO : Hid (∀ n, Calls Tryz.prog 191 #[.pointer (some ⟨X, 0, none⟩)] (V.drewN n) fun e w' => e = .returned (.int .i64 c.no) ∧ w' = V.drewN n) := fun n => number_any (hrV.below (w' := V.drewN n) ⟨rfl, rfl, rfl, Nat.le_refl _, fun _ _ => rfl⟩)
  have hres : c.hears p = (c.op && p.reply && p.client == c.me && p.no == c.no && callB p.call c.call) := rfl
  have hE := fun W => eql32 p.call c.call W
  obtain ⟨⟨k0, k1, k2, k3⟩, ⟨k4, k5, k6⟩, kf⟩ := seven hrV.o.blk
  rw [hres]
  generalize c.no = cno at HNO ⊢
  generalize callB p.call c.call = cb at hE ⊢
  obtain ⟨me, done, ⟨ck, ca, cb', ct⟩, op⟩ := c
  obtain ⟨y, pc, pn, ⟨pk, s1, s2, s3⟩, d, u⟩ := p
  dsimp only [APkt.val, pArr, callCells] at *
  obtain ⟨⟨x0, x1, x2, x3⟩, ⟨x4, x5, x6, x7, x8⟩, xf⟩ := nine hXV
  have HV := hide hV
  have HB := hide hBV
  have HBD : Hid (∀ n, Below w.heap.size w (V.drewN n)) := fun n => hBV.trans ⟨rfl, rfl, rfl, Nat.le_refl _, fun _ _ => rfl⟩
  clear h hBV hXV hrV hV hres xf kf k1
  cases op
  · go_enter Tryz.func224, Tryz.ntmps224
    go_wp2_with fail
    rw [← unhide HV]
    go_quiet (first | (go_at_call 191; exact Calls.quiet_of_same ((unhide HNO) _)))
    go_wp2
    go_ret
    exact ⟨rfl, (unhide HBD) _⟩
  cases y
  · go_enter Tryz.func224, Tryz.ntmps224
    go_wp2_with fail
    rw [← unhide HV]
    go_quiet (first | (go_at_call 191; exact Calls.quiet_of_same ((unhide HNO) _)))
    go_wp2
    go_ret
    exact ⟨rfl, (unhide HBD) _⟩
  cases hc : (pc == me)
  · go_enter Tryz.func224, Tryz.ntmps224
    go_wp2_with fail
    rw [← unhide HV]
    go_quiet (first | (go_at_call 191; exact Calls.quiet_of_same ((unhide HNO) _)))
    go_wp2
    go_ret
    exact ⟨rfl, (unhide HBD) _⟩
  cases hn : (pn == cno)
  · go_enter Tryz.func224, Tryz.ntmps224
    go_wp2_with fail
    rw [← unhide HV]
    go_quiet (first | (go_at_call 191; exact Calls.quiet_of_same ((unhide HNO) _)))
    go_wp2
    go_ret
    exact ⟨rfl, (unhide HBD) _⟩
  · go_enter Tryz.func224, Tryz.ntmps224
    go_wp2_with fail
    rw [← unhide HV]
    go_quiet (first | (go_at_call 191; exact Calls.quiet_of_same ((unhide HNO) _)))
    go_wp2
    go_ret
    exact ⟨rfl, (unhide HBD) _⟩

end Go.Proofs.YtffgolanmaenfacGreatDoor
