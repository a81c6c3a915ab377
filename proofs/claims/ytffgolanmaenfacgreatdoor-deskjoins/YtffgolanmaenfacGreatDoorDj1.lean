/- Texts joined, what is needed of them: Plain E0 Yk Wa Wb Rep Wc Rep2 Wd We Wf Wg Wh Plain2 Wi Wj Wk. -/
import Derived.BigQuiet
import Derived.Deep.AppendLies
import Derived.Deep.LoopGhost
import Derived.Deep.MidRow
import Derived.Deep.QuietTactic
import Derived.Deep.RegionHeld3
import Derived.Deep.RegionLaw
import Derived.Lib.AppendStr
import Derived.Lib.BufferRead
import Derived.Lib.SliceRun
import Derived.Shelf.Strings.BuilderK
import Derived.Test.YtffgolanmaenfacGreatDoorRows
import Derived.Test.YtffgolanmaenfacGreatDoorDjS
import Derived.WalkKit
import Derived.WalkLawsBesides
import Derived.WalkSpells
namespace Go.Proofs.YtffgolanmaenfacGreatDoor
open Go.RowKit
set_option linter.unusedSimpArgs false
set_option linter.unusedVariables false

theorem hide {p : Prop} (h : p) : Hid p := h
theorem unhide {p : Prop} (h : Hid p) : p := h

theorem bcell {W w1 : World} (hb : Below W.heap.size W w1) : (∀ b o, b < W.heap.size → w1.cell? ⟨b, o, none⟩ = W.cell? ⟨b, o, none⟩) ∧ (∀ b o, b < W.heap.size → w1.frozen? ⟨b, o, none⟩ = W.frozen? ⟨b, o, none⟩) :=
  ⟨fun b o h => hb.cell (p := ⟨b, o, none⟩) h, fun b o h => hb.frozen (p := ⟨b, o, none⟩) h⟩

theorem al_frozen (w : World) (o : Obj) (b j : Nat) (h : b < w.heap.size) : (w.alloc o).frozen? ⟨b, j, none⟩ = w.frozen? ⟨b, j, none⟩ := World.frozen?_of_block (w := w) (a := ⟨b, j, none⟩) (Below.heap_alloc w o b h)
theorem al_old (w : World) (o : Obj) (b j : Nat) (h : b < w.heap.size) : (w.alloc o).cell? ⟨b, j, none⟩ = w.cell? ⟨b, j, none⟩ := World.cell?_of_block (w := w) (a := ⟨b, j, none⟩) (Below.heap_alloc w o b h)
theorem al_new (w : World) (C : Array Value) (t : TypeId) (fr : Nat × Nat) (b j : Nat) (h : b = w.heap.size) : (w.alloc (.cells C t fr)).cell? ⟨b, j, none⟩ = C[j]? := by subst h; exact World.cell?_alloc_mark w C t fr j
theorem al_size (w : World) (o : Obj) : (w.alloc o).heap.size = w.heap.size + 1 := by simp

/-- A call of package api. -/
structure ACall where
  kind : Int
  name : ByteArray
  dst : ByteArray
  text : ByteArray

/-- A file. -/
structure AFile where
  name : ByteArray
  text : ByteArray

def emptyB (s : ByteArray) : Bool := s.toList.isEmpty

/-- Outside the bounds. -/
def outB (lo hi : Int) (b : UInt8) : Bool := decide ((b.toNat : Int) < lo) || decide (hi < (b.toNat : Int))

def withinB (s : ByteArray) (most lo hi : Int) : Bool :=
  decide (1 ≤ (s.size : Int)) && decide ((s.size : Int) ≤ most) && !(s.data.toList.any (outB lo hi))

def nameB (s : ByteArray) : Bool := withinB s 5 97 122
def textB (s : ByteArray) : Bool := withinB s 8 32 126
def changesB (k : Int) : Bool := k == 1 || k == 2 || k == 3 || k == 4
def formedB (c : ACall) : Bool := (emptyB c.name || c.kind != 6) && (emptyB c.dst || c.kind == 3) && (emptyB c.text || c.kind == 4)
def namedB (c : ACall) : Bool := (c.kind == 6 || nameB c.name) && (c.kind != 3 || nameB c.dst)
def checkI (c : ACall) : Int :=
  if c.kind < 1 ∨ 6 < c.kind then 1 else if formedB c = false then 3 else if namedB c = false then 2 else if c.kind = 4 ∧ textB c.text = false then 4 else 0

end Go.Proofs.YtffgolanmaenfacGreatDoor

namespace Go.Proofs.YtffgolanmaenfacGreatDoor
open Go.RowKit
set_option linter.unusedSimpArgs false
set_option linter.unusedVariables false

/-- The row is the old one, or a new one. -/
def Whence (w : World) (v v' : Value) : Prop := v'.ownBlock = v.ownBlock ∨ ∀ k, v'.ownBlock = some k → w.heap.size ≤ k
theorem whence_new {w w' : World} {n : Nat} {v v' : Value} {xs : List Value} (h : w'.ownsRowF w.heap.size 5 1 v' n xs) : Whence w v v' := Or.inr fun k hk => (h.lt k hk).1
theorem ok_same {α : Type} {m : Result α} {a b : α} {w w' : World} (h : m = .ok a w) (h' : m = .ok b w') : a = b ∧ w = w' := by
  rw [h] at h'
  injection h' with h1 h2
  exact ⟨h1, h2⟩
theorem estr_where {w w' : World} {v v' : Value} {N n : Nat} {xs : List Value} {t u ty : TypeId} {i : TypeInfo} (ht : Tryz.prog.underlying t = some (.slice 5)) (hu : Tryz.prog.underlying u = some .string) (hi : Tryz.prog.info? 5 = some i) (hz : i.zero = some (.int .u8 0)) (hs : i.size = 1) (hb : i.bytes = 1)
    (hown : w.ownsRowF N 5 1 v n xs) (s : ByteArray) (h63 : n + s.size ≤ maxLen) (hbytes : n + s.size ≤ 140737488355328) (hr : (Builtin.append_ #[t, u] ty #[v, .string s]).run Tryz.prog w = .ok v' w') : Whence w v v' := by
  rcases hown.2 with ⟨rfl, rfl⟩ | ⟨g, cap, cur, fz, rfl, hbg, hg, hfz, hnc, hcm, hcs, htake⟩
  · have hx : xs = [] := by have := hown.1; simpa using this
    subst hx
    obtain ⟨v2, w2, h1, h2, _, _⟩ := Lib.run_append_own_stringF (P := Tryz.prog) w w.heap.size t u ty 5 i ht hu hi hz hs hb (.slice none 0 0) 0 [] (World.ownsRowF_nil _ _ _ _) s h63 hbytes (Nat.le_refl _)
    obtain ⟨rfl, rfl⟩ := ok_same hr h1
    exact whence_new h2
  · by_cases hroom : n + s.size ≤ cap
    · have h1 := Lib.run_append_room_stringF (P := Tryz.prog) w t u ty 5 i ht hu hi hs g n cap cur fz hg (by simpa using hfz) s hroom (by have : cur.size = cap := (by simpa using hcs); omega)
      obtain ⟨rfl, rfl⟩ := ok_same hr h1
      exact Or.inl rfl
    · have hxl : xs.length = n := by simpa using hown.1
      have holds : ∀ j u, xs[j]? = some u → w.cell? ((⟨g, 0, none⟩ : Addr).add j) = some u := hown.cells (g := g) rfl
      have hsmall : n + s.size ≤ 9223372036854775807 := by simp only [maxLen] at h63; omega
      have h1 := Lib.run_append_grow_string (P := Tryz.prog) w t u ty 5 i (.int .u8 0) ht hu hi hz ⟨g, 0, none⟩ n cap xs (by rw [hs]; simpa using hxl) holds s (by omega) (by omega) (by rw [hb]; exact growslice_fits (by omega) (by omega))
      obtain ⟨rfl, _⟩ := ok_same hr h1
      refine Or.inr fun k hk => ?_
      simp [Value.ownBlock] at hk
      omega
theorem ewp_string {ops : Array Oper} {rest : List Oper} {o : Oper} {a : Act} {Q : Exit → Act → World → Prop} {w : World} (hgd : o.guard = none) (sl x : Operand) (t u : TypeId)
    (ho : o.op = .call { callee := .builtin .append, args := #[sl, x], argTypes := #[t, u] })
    (base : Nat) (i : TypeInfo) (ht : Tryz.prog.underlying t = some (.slice 5)) (hu : Tryz.prog.underlying u = some .string) (hi : Tryz.prog.info? 5 = some i) (hz : i.zero = some (.int .u8 0)) (hsize : i.size = 1) (hby : i.bytes = 1)
    (v : Value) (n : Nat) (xs : List Value) (hs : a.eval sl = v) (hown : w.ownsRowF base 5 1 v n xs) (s : ByteArray) (hx : a.eval x = .string s)
    (h63 : n + s.size ≤ maxLen) (hbytes : n + s.size ≤ 140737488355328) (hbase : base ≤ w.heap.size)
    (h : ∀ v' w', w'.ownsRowF base 5 1 v' (n + s.size) (xs ++ Lib.strCells s) → w.grownBy w' v.ownBlock → Whence w v v' → wpList Tryz.prog ops Q rest (a.put o.dst v') w') : wpList Tryz.prog ops Q (o :: rest) a w := by
  refine wpList_plain hgd fun K hK => ?_
  obtain ⟨v', w', hr, h2, h3, h4⟩ := Lib.run_append_own_stringF (P := Tryz.prog) w base t u o.type 5 i ht hu hi hz hsize hby v n xs hown s h63 hbytes hbase
  have hwh := estr_where ht hu hi hz hsize hby hown s h63 hbytes hr
  unfold Oper.wp execOp
  simp only [ho, resolve, invoke, builtin, Sem.run_bind, Sem.run_pure, Result.andThen_ok, List.map_toArray, List.map_cons, List.map_nil, hs, hx, hr]
  exact hK _ _ (h v' w' h2 h3 hwh)
theorem ebyte_where {w w' : World} {v v' : Value} {N n : Nat} {xs : List Value} {t ty : TypeId} {i : TypeInfo} (ht : Tryz.prog.underlying t = some (.slice 5)) (hi : Tryz.prog.info? 5 = some i) (hz : i.zero = some (.int .u8 0)) (hs : i.size = 1) (hb : i.bytes = 1)
    (hown : w.ownsRowF N 5 1 v n xs) (ad : Addr) (c : Nat) (u : Value) (hu : w.cell? ad = some u) (h1 : u.oneCell' = true) (h63 : n + 1 ≤ maxLen) (hbytes : n + 1 ≤ 140737488355328) (hr : (Builtin.append_ #[t, t] ty #[v, .slice (some ad) 1 c]).run Tryz.prog w = .ok v' w') : Whence w v v' := by
  have hnews : ∀ j u', [u][j]? = some u' → w.cell? (ad.add j) = some u' := by
    intro j u' hj
    match j, hj with
    | 0, hj => simp at hj; subst hj; simpa [Addr.add] using hu
  have hone : ∀ u' ∈ [u], u'.oneCell' = true := by intro u' hu'; simp at hu'; subst hu'; exact h1
  rcases hown.2 with ⟨rfl, rfl⟩ | ⟨g, cap, cur, fz, rfl, hbg, hg, hfz, hnc, hcm, hcs, htake⟩
  · have hx : xs = [] := by have := hown.1; simpa using this
    subst hx
    obtain ⟨v2, w2, r1, r2, _, _⟩ := run_append_ownF (P := Tryz.prog) w w.heap.size t ty 5 i (.int .u8 0) 1 1 ht hi hz hs hb rfl (by decide) (.slice none 0 0) 0 [] (World.ownsRowF_nil _ _ _ _) ad 1 c [u] rfl hnews hone h63 (by omega) (Nat.le_refl _)
    obtain ⟨rfl, rfl⟩ := ok_same hr r1
    exact whence_new r2
  · by_cases hroom : n + 1 ≤ cap
    · have r1 := run_append_roomF (P := Tryz.prog) w t ty 5 i ht hi g n cap cur fz hg (by rw [hs]; exact hfz) ad 1 c [u] (by rw [hs]; rfl) hnews hone hroom (by have : cur.size = cap := (by simpa using hcs); rw [hs]; simp; omega)
      obtain ⟨rfl, rfl⟩ := ok_same hr r1
      exact Or.inl rfl
    · have hxl : xs.length = n := by simpa using hown.1
      have holds : ∀ j u, xs[j]? = some u → w.cell? ((⟨g, 0, none⟩ : Addr).add j) = some u := hown.cells (g := g) rfl
      have hsmall : n + 1 ≤ 9223372036854775807 := by simp only [maxLen] at h63; omega
      have r1 := run_append_grow (P := Tryz.prog) w t ty 5 i (.int .u8 0) ht hi hz ⟨g, 0, none⟩ n cap xs (by rw [hs]; simpa using hxl) holds ad 1 c [u] (by rw [hs]; rfl) hnews (by omega) (by omega) (by rw [hb]; exact growslice_fits (by omega) (by omega))
      obtain ⟨rfl, _⟩ := ok_same hr r1
      refine Or.inr fun k hk => ?_
      simp [Value.ownBlock] at hk
      omega
theorem ewp_byte {ops : Array Oper} {rest : List Oper} {o : Oper} {a : Act} {Q : Exit → Act → World → Prop} {w : World} (hgd : o.guard = none) (sl x : Operand) (t : TypeId)
    (ho : o.op = .call { callee := .builtin .append, args := #[sl, x], argTypes := #[t, t] })
    (base : Nat) (i : TypeInfo) (ht : Tryz.prog.underlying t = some (.slice 5)) (hi : Tryz.prog.info? 5 = some i) (hz : i.zero = some (.int .u8 0)) (hsize : i.size = 1) (hby : i.bytes = 1)
    (v : Value) (n : Nat) (xs : List Value) (hs : a.eval sl = v) (hown : w.ownsRowF base 5 1 v n xs) (ad : Addr) (c : Nat) (u : Value) (hx : a.eval x = .slice (some ad) 1 c) (hu : w.cell? ad = some u) (h1 : u.oneCell' = true)
    (h63 : n + 1 ≤ maxLen) (hbytes : n + 1 ≤ 140737488355328) (hbase : base ≤ w.heap.size)
    (h : ∀ v' w', w'.ownsRowF base 5 1 v' (n + 1) (xs ++ [u]) → w.grownBy w' v.ownBlock → Whence w v v' → wpList Tryz.prog ops Q rest (a.put o.dst v') w') : wpList Tryz.prog ops Q (o :: rest) a w := by
  have hnews : ∀ j u', [u][j]? = some u' → w.cell? (ad.add j) = some u' := by
    intro j u' hj
    match j, hj with
    | 0, hj => simp at hj; subst hj; simpa [Addr.add] using hu
  have hone : ∀ u' ∈ [u], u'.oneCell' = true := by intro u' hu'; simp at hu'; subst hu'; exact h1
  refine wpList_plain hgd fun K hK => ?_
  obtain ⟨v', w', hr, h2, h3, h4⟩ := run_append_ownF (P := Tryz.prog) w base t o.type 5 i (.int .u8 0) 1 1 ht hi hz hsize hby rfl (by decide) v n xs hown ad 1 c [u] rfl hnews hone h63 (by omega) hbase
  have hwh := ebyte_where ht hi hz hsize hby hown ad c u hu h1 h63 hbytes hr
  unfold Oper.wp execOp
  simp only [ho, resolve, invoke, builtin, Sem.run_bind, Sem.run_pure, Result.andThen_ok, List.map_toArray, List.map_cons, List.map_nil, hs, hx, hr]
  exact hK _ _ (h v' w' h2 h3 hwh)

end Go.Proofs.YtffgolanmaenfacGreatDoor

namespace Go.Proofs.YtffgolanmaenfacGreatDoor
open Go.RowKit Go.Shelf
set_option linter.unusedSimpArgs false
set_option linter.unusedVariables false

def ywb_ren : Go.Shelf.Ren := ⟨fun | 167 => 78 | 240 => 118 | 276 => 152 | n => n, fun | 0 => 0 | 4 => 4 | 5 => 5 | 9 => 9 | 20 => 20 | 37 => 42 | 70 => 41 | 72 => 44 | 75 => 87 | 80 => 55 | 164 => 219 | n => n, fun | n => n⟩
theorem ywb : Go.Proofs.Lays.n167 Tryz.prog ywb_ren := {
  mixed := by kernel_rfl
  f167 := Tryz.func78.trans (congrArg some (by kernel_rfl))
  f240 := Tryz.func118.trans (congrArg some (by kernel_rfl))
  f276 := Tryz.func152.trans (congrArg some (by kernel_rfl))
  t0 := Tryz.underlying0
  a0 := Tryz.isAgg0
  z0 := Tryz.sizeOf0
  v0 := Tryz.zeroValue0
  t4 := Tryz.underlying4
  a4 := Tryz.isAgg4
  z4 := Tryz.sizeOf4
  v4 := Tryz.zeroValue4
  t5 := Tryz.underlying5
  a5 := Tryz.isAgg5
  z5 := Tryz.sizeOf5
  v5 := Tryz.zeroValue5
  t9 := Tryz.underlying9
  a9 := Tryz.isAgg9
  z9 := Tryz.sizeOf9
  v9 := Tryz.zeroValue9
  t20 := Tryz.underlying20
  a20 := Tryz.isAgg20
  z20 := Tryz.sizeOf20
  v20 := Tryz.zeroValue20
  t37 := Tryz.underlying42
  a37 := Tryz.isAgg42
  z37 := Tryz.sizeOf42
  v37 := Tryz.zeroValue42
  t70 := Tryz.underlying41
  a70 := Tryz.isAgg41
  z70 := Tryz.sizeOf41
  v70 := Tryz.zeroValue41
  t72 := Tryz.underlying44
  a72 := Tryz.isAgg44
  z72 := Tryz.sizeOf44
  v72 := Tryz.zeroValue44
  t75 := Tryz.underlying87
  a75 := Tryz.isAgg87
  z75 := Tryz.sizeOf87
  v75 := Tryz.zeroValue87
  t164 := Tryz.underlying219
  a164 := Tryz.isAgg219
  z164 := Tryz.sizeOf219
  v164 := Tryz.zeroValue219 }
theorem ywb_x : Builder.Extra Tryz.prog ywb_ren := {
  sizeBuilder := by kernel_rfl
  liesBuilder := by kernel_rfl
  t5 := Tryz.underlying5
  a5 := Tryz.isAgg5
  z5 := Tryz.sizeOf5
  v5 := Tryz.zeroValue5
  infoByte := by kernel_rfl
  cellsByte := by kernel_rfl
  sizeByte := by kernel_rfl
  neB5 := by decide }
/-- A builder at block b, all of whose own lies from B on. -/
abbrev YB (B b : Nat) (bs : List UInt8) (w : World) : Prop := Lib.IsBuilderF 44 5 B b (Lib.byteCells bs) w
theorem strCells_bytes (s : ByteArray) : Lib.strCells s = Lib.byteCells s.data.toList := by simp [Lib.strCells, Lib.byteCells]
theorem WriteByte_y (B b : Nat) (bs : List UInt8) (c : UInt8) (w : World) (h : YB B b bs w) (hlen : bs.length ≤ 1000000) (hBw : B ≤ w.heap.size) :
    Calls Tryz.prog 78 #[.pointer (some ⟨b, 0, none⟩), .int .u8 (c.toNat : Int)] w fun e w' => e = .returned .nilIface ∧ YB B b (bs ++ [c]) w' ∧ Below B w w' ∧ Lib.OthersKept 5 (some b) w w' := by
  refine (Any.Builder_WriteByte_k ywb ywb_x B b _ (c.toNat : Int) w h (by rw [Lib.byteCells_length]; omega) hBw).mono ?_
  rintro e w' ⟨rfl, h1, h2, h3⟩
  refine ⟨rfl, ?_, h2, h3⟩
  unfold YB
  rw [Lib.byteCells_append]
  exact .inr h1
theorem WriteString_y (B b : Nat) (bs : List UInt8) (s : ByteArray) (w : World) (h : YB B b bs w) (hlen : bs.length + s.size ≤ 1000000) (hBw : B ≤ w.heap.size) :
    Calls Tryz.prog 76 #[.pointer (some ⟨b, 0, none⟩), .string s] w fun e w' => e = .returned (.tuple #[.int .i64 s.size, .nilIface]) ∧ YB B b (bs ++ s.data.toList) w' ∧ Below B w w' ∧ Lib.OthersKept 5 (some b) w w' := by
  refine (Any.Builder_WriteString_k (ρ := Tryz.lays156_ren) { Tryz.lays156 with } Tryz.Builder_Extra_156 B b _ s w h (by rw [Lib.byteCells_length]; omega) hBw).mono ?_
  rintro e w' ⟨rfl, h1, h2, h3⟩
  refine ⟨rfl, ?_, h2, h3⟩
  unfold YB
  rw [Lib.byteCells_append, ← strCells_bytes]
  exact .inr h1
theorem String_y (B b : Nat) (bs : List UInt8) (w : World) (h : YB B b bs w) (hBw : B ≤ w.heap.size) :
    Calls Tryz.prog 18 #[.pointer (some ⟨b, 0, none⟩)] w fun e w' => e = .returned (.string ⟨bs.toArray⟩) ∧ Below B w w' := by
  refine (Tryz.Builder_String_any_k B b bs w h hBw).mono ?_
  rintro e w' ⟨rfl, _, h2, _⟩
  exact ⟨rfl, h2⟩

end Go.Proofs.YtffgolanmaenfacGreatDoor

namespace Go.Proofs.YtffgolanmaenfacGreatDoor
open Go.RowKit
set_option linter.unusedSimpArgs false
set_option linter.unusedVariables false

set_option maxHeartbeats 400000 in
theorem pred36 (lo hi b : Int) (B1 B2 : Nat) (w : World) (h1 : w.cell? ⟨B1, 0, none⟩ = some (.int .u8 lo)) (h2 : w.cell? ⟨B2, 0, none⟩ = some (.int .u8 hi)) :
    Calls Tryz.prog 158 #[.int .u8 b, .pointer (some ⟨B1, 0, none⟩), .pointer (some ⟨B2, 0, none⟩)] w fun e w' => e = .returned (.bool (decide (b < lo) || decide (hi < b))) ∧ w' = w := by
  by_cases hb : b < lo
  · go_enter Tryz.func158, Tryz.ntmps158
    go_wp2
    go_ret
    exact ⟨by simp [hb], rfl⟩
  · by_cases hc : hi < b
    · go_enter Tryz.func158, Tryz.ntmps158
      go_wp2
      go_ret
      exact ⟨by simp [hc], rfl⟩
    · go_enter Tryz.func158, Tryz.ntmps158
      go_wp2
      go_ret
      exact ⟨by simp [hb, hc], rfl⟩

set_option maxHeartbeats 400000 in
theorem Changes_any (k : Int) (w : World) :
    Calls Tryz.prog 225 #[.int .i64 k] w fun e w' => e = .returned (.bool (changesB k)) ∧ w' = w := by
  by_cases h1 : k = 1
  · subst h1; go_enter Tryz.func225, Tryz.ntmps225; go_wp2; go_ret; exact ⟨rfl, rfl⟩
  by_cases h2 : k = 2
  · subst h2; go_enter Tryz.func225, Tryz.ntmps225; go_wp2; go_ret; exact ⟨rfl, rfl⟩
  by_cases h3 : k = 3
  · subst h3; go_enter Tryz.func225, Tryz.ntmps225; go_wp2; go_ret; exact ⟨rfl, rfl⟩
  by_cases h4 : k = 4
  · subst h4; go_enter Tryz.func225, Tryz.ntmps225; go_wp2; go_ret; exact ⟨rfl, rfl⟩
  go_enter Tryz.func225, Tryz.ntmps225; go_wp2; go_ret
  exact ⟨by simp [changesB, h1, h2, h3, h4], rfl⟩


theorem any_take_succ {α : Type} (l : List α) (p : α → Bool) (k : Nat) (x : α) (hx : l[k]? = some x) : (l.take (k + 1)).any p = ((l.take k).any p || p x) := by
  rw [List.take_add_one, hx]
  simp

set_option maxHeartbeats 400000 in
theorem idx45 (lo hi : Int) (B1 B2 b c : Nat) (s : ByteArray) (w : World) (hs : s.size ≤ 1000) (h1 : w.cell? ⟨B1, 0, none⟩ = some (.int .u8 lo)) (h2 : w.cell? ⟨B2, 0, none⟩ = some (.int .u8 hi))
    (hc : ∀ (j : Nat) (x : UInt8), s.data.toList[j]? = some x → w.cell? ⟨b, j, none⟩ = some (.int .u8 x.toNat)) :
    Calls Tryz.prog 190 #[.slice (some ⟨b, 0, none⟩) s.size c, .func (.func 158) #[] #[.pointer (some ⟨B1, 0, none⟩), .pointer (some ⟨B2, 0, none⟩)]] w
      fun e w' => (∃ r : Int, e = .returned (.int .i64 r) ∧ decide (0 ≤ r) = s.data.toList.any (outB lo hi)) ∧ w' = w := by
  have hlen : s.data.toList.length = s.size := by rw [Array.length_toList]; rfl
  obtain ⟨rr, HR⟩ : ∃ rr, Hid (s.data.toList.any (outB lo hi) = rr) := ⟨_, rfl⟩
  rw [HR.out]
  go_enter Tryz.func190, Tryz.ntmps190
  go_wp2
  go_loop [5, 8] (fun _ i => ∃ k : Nat, k ≤ s.size ∧ i = .int .i64 k ∧ (s.data.toList.take k).any (outB lo hi) = false) (fun _ i => s.size - (intOf i).toNat)
  case atStart => exact ⟨0, Nat.zero_le _, rfl, by simp⟩
  case round =>
    obtain ⟨k, hk, rfl, ha⟩ := hrel
    have HA : Hid ((s.data.toList.take k).any (outB lo hi) = false) := ha
    clear ha
    by_cases hlt : k < s.size
    · obtain ⟨x, hx⟩ : ∃ x, s.data.toList[k]? = some x := ⟨_, List.getElem?_eq_getElem (by omega)⟩
      have hcell := hc k x hx
      have HX : Hid (s.data.toList[k]? = some x) := hx
      clear hx hc
      cases hq : (decide ((x.toNat : Int) < lo) || decide (hi < (x.toNat : Int)))
      · have HQ : Hid ((decide ((x.toNat : Int) < lo) || decide (hi < (x.toNat : Int))) = false) := hq
        have hp := pred36 lo hi x.toNat B1 B2 w h1 h2
        rw [hq] at hp
        clear hq
        go_wp2_with (go_at_call 158; refine hp.mono ?_; rintro e w' ⟨rfl, rfl⟩)
        go_round
        case rel => exact ⟨k + 1, by omega, by go_num, by rw [any_take_succ _ _ _ _ HX.out, HA.out]; exact HQ.out⟩
        case measure => simp [intOf]; omega
      · have HQ : Hid ((decide ((x.toNat : Int) < lo) || decide (hi < (x.toNat : Int))) = true) := hq
        have hp := pred36 lo hi x.toNat B1 B2 w h1 h2
        rw [hq] at hp
        clear hq
        go_wp2_with (go_at_call 158; refine hp.mono ?_; rintro e w' ⟨rfl, rfl⟩)
        go_ret
        refine ⟨⟨_, rfl, ?_⟩, rfl⟩
        have h3 : s.data.toList.any (outB lo hi) = true := by
          rw [List.any_eq_true]
          exact ⟨x, List.mem_of_getElem? HX.out, HQ.out⟩
        rw [← HR.out, h3]; simp
    · have : k = s.size := by omega
      subst this
      clear hc
      go_wp2
      go_ret
      refine ⟨⟨_, rfl, ?_⟩, rfl⟩
      have h3 := HA.out
      rw [List.take_of_length_le (by omega)] at h3
      rw [← HR.out, h3]; simp


set_option maxHeartbeats 400000 in
theorem cont35 (lo hi : Int) (B1 B2 b c : Nat) (s : ByteArray) (w : World) (hs : s.size ≤ 1000) (h1 : w.cell? ⟨B1, 0, none⟩ = some (.int .u8 lo)) (h2 : w.cell? ⟨B2, 0, none⟩ = some (.int .u8 hi))
    (hc : ∀ (j : Nat) (x : UInt8), s.data.toList[j]? = some x → w.cell? ⟨b, j, none⟩ = some (.int .u8 x.toNat)) :
    Calls Tryz.prog 157 #[.slice (some ⟨b, 0, none⟩) s.size c, .func (.func 158) #[] #[.pointer (some ⟨B1, 0, none⟩), .pointer (some ⟨B2, 0, none⟩)]] w
      fun e w' => e = .returned (.bool (s.data.toList.any (outB lo hi))) ∧ w' = w := by
  have hp := idx45 lo hi B1 B2 b c s w hs h1 h2 hc
  obtain ⟨rr, HR⟩ : ∃ rr, Hid (s.data.toList.any (outB lo hi) = rr) := ⟨_, rfl⟩
  rw [HR.out] at hp ⊢
  clear hc
  go_enter Tryz.func157, Tryz.ntmps157
  go_wp2_with (go_at_call 190; refine hp.mono ?_; rintro e w' ⟨⟨r, rfl, hr⟩, rfl⟩)
  all_goals (go_ret; exact ⟨by simp_all, rfl⟩)


def convCap (w : World) (s : ByteArray) : Nat := grownCap w s.size 0 5
def convObj (w : World) (s : ByteArray) : Obj := .cells (bytesRow s (convCap w s)) 5 ((bytesRow s (convCap w s)).size, (bytesRow s (convCap w s)).size + 1)
theorem conv_run (s : ByteArray) (w : World) : (convert 9 42 (.string s)).run Tryz.prog w = .ok (.slice (some ⟨w.heap.size, 0, none⟩) s.size (convCap w s)) ((w.alloc (convObj w s)).drew) :=
  run_bytes_of_string (P := Tryz.prog) w 9 42 5 s Tryz.underlying9 Tryz.underlying42 Tryz.underlying5
theorem conv_cell (s : ByteArray) (w : World) (j : Nat) (x : UInt8) (hx : s.data.toList[j]? = some x) : (w.alloc (convObj w s)).cell? ⟨w.heap.size, j, none⟩ = some (.int .u8 x.toNat) := by
  unfold convObj
  rw [World.cell?_alloc_mark]
  unfold bytesRow
  have hj : j < s.data.size := by
    have := (List.getElem?_eq_some_iff.1 hx).1
    simpa using this
  rw [Array.getElem?_append_left (by simpa using hj)]
  simp [Array.getElem?_eq_getElem hj] at hx ⊢
  rw [hx]

/-- The world in which within calls slices.ContainsFunc. -/
theorem within_call (s : ByteArray) (lo hi : Int) (w : World) (hs : s.size ≤ 1000) (rr : Bool) (HR : Hid (s.data.toList.any (outB lo hi) = rr)) (W : World) (hW : W = (w.alloc (Obj.cells #[Value.int IntKind.u8 lo] 5)).alloc (Obj.cells #[Value.int IntKind.u8 hi] 5)) (c : Nat) :
    Calls Tryz.prog 157 #[.slice (some ⟨w.heap.size + 1 + 1, 0, none⟩) s.size c, .func (.func 158) #[] #[.pointer (some ⟨w.heap.size, 0, none⟩), .pointer (some ⟨w.heap.size + 1, 0, none⟩)]] (W.alloc (convObj W s)).drew
      fun e w' => e = .returned (.bool rr) ∧ w' = (W.alloc (convObj W s)).drew := by
  have hW2 : W.heap.size = w.heap.size + 1 + 1 := by rw [hW, al_size, al_size]
  rw [← HR.out]
  refine cont35 lo hi w.heap.size (w.heap.size + 1) (w.heap.size + 1 + 1) c s _ hs ?_ ?_ ?_
  · show (W.alloc (convObj W s)).cell? _ = _
    rw [al_old _ _ _ _ (by omega), hW, al_old _ _ _ _ (by rw [al_size]; omega), al_new _ _ _ _ _ _ rfl]
    rfl
  · show (W.alloc (convObj W s)).cell? _ = _
    rw [al_old _ _ _ _ (by omega), hW, al_new _ _ _ _ _ _ (by rw [al_size])]
    rfl
  · intro j x hx
    have := conv_cell s W j x hx
    rw [hW2] at this
    exact this

set_option maxHeartbeats 400000 in
theorem within_any (s : ByteArray) (most lo hi : Int) (w : World) (hm : most ≤ 1000) (hs : s.size ≤ maxLen) :
    Calls Tryz.prog 124 #[.string s, .int .i64 most, .int .u8 lo, .int .u8 hi] w
      fun e w' => e = .returned (.bool (withinB s most lo hi)) ∧ Below w.heap.size w w' := by
  unfold maxLen at hs
  by_cases h1 : (1 : Int) ≤ (s.size : Int)
  · by_cases h2 : (s.size : Int) ≤ most
    · have kc := conv_run s
      obtain ⟨rr, HR⟩ : ∃ rr, Hid (s.data.toList.any (outB lo hi) = rr) := ⟨_, rfl⟩
      have hf : withinB s most lo hi = !rr := by
        rw [withinB, HR.out]; simp [h1, h2]
      rw [hf]
      have hcon := within_call s lo hi w (by omega) rr HR
      have h3 : ¬ ((s.size : Int) < 1) := by omega
      have h4 : ¬ (most < (s.size : Int)) := by omega
      clear h1 h2 hf
      go_enter Tryz.func124, Tryz.ntmps124
      go_wp2_with (go_at_call 157; refine (hcon _ rfl _).mono ?_; rintro e w' ⟨rfl, rfl⟩)
      go_ret
      exact ⟨rfl, ((((Below.refl _ _).alloc (Nat.le_refl _) _).alloc (by simp) _).alloc (by simp; omega) _).drew⟩
    · have hf : withinB s most lo hi = false := by simp [withinB, h2]
      rw [hf]
      go_enter Tryz.func124, Tryz.ntmps124
      go_wp2
      go_ret
      exact ⟨rfl, ((Below.refl _ _).alloc (Nat.le_refl _) _).alloc (by simp) _⟩
  · have hf : withinB s most lo hi = false := by simp [withinB, h1]
    rw [hf]
    go_enter Tryz.func124, Tryz.ntmps124
    go_wp2
    go_ret
    exact ⟨rfl, ((Below.refl _ _).alloc (Nat.le_refl _) _).alloc (by simp) _⟩

set_option maxHeartbeats 400000 in
theorem Name_any (s : ByteArray) (w : World) (hs : s.size ≤ maxLen) :
    Calls Tryz.prog 156 #[.string s] w fun e w' => e = .returned (.bool (nameB s)) ∧ Below w.heap.size w w' := by
  unfold nameB
  go_enter Tryz.func156, Tryz.ntmps156
  go_wp2_with (go_at_call 124; refine (within_any s 5 97 122 _ (by omega) hs).mono ?_; rintro e w' ⟨rfl, hb⟩)
  go_ret
  exact ⟨rfl, hb⟩

end Go.Proofs.YtffgolanmaenfacGreatDoor

namespace Go.Proofs.YtffgolanmaenfacGreatDoor
open Go.RowKit
set_option linter.unusedSimpArgs false
set_option linter.unusedVariables false

set_option maxHeartbeats 1000000 in
theorem formed_any (k : Int) (a b t : ByteArray) (w : World) :
    Calls Tryz.prog 122 #[.agg #[.int .i64 k, .string a, .string b, .string t]] w
      fun e w' => e = .returned (.bool (formedB ⟨k, a, b, t⟩)) ∧ Below w.heap.size w w' := by
  have hB : ∀ o : Obj, Below w.heap.size w (w.alloc o) := fun o => (Below.refl _ _).alloc (Nat.le_refl _) o
  have hf : formedB ⟨k, a, b, t⟩ = ((a.toList.isEmpty || k != 6) && (b.toList.isEmpty || k == 3) && (t.toList.isEmpty || k == 4)) := rfl
  rw [hf]
  clear hf
  cases h1 : a.toList.isEmpty <;> cases h2 : (k != 6) <;> cases h3 : b.toList.isEmpty <;> cases h4 : (k == 3) <;> cases h5 : t.toList.isEmpty <;> cases h6 : (k == 4)
  all_goals try (exfalso; simp at h2 h4 h6; omega)
  all_goals
    go_enter Tryz.func122, Tryz.ntmps122
    go_wp2
    go_ret
    exact ⟨by simp, hB _⟩


set_option maxHeartbeats 1000000 in
theorem named_any (k : Int) (a b t : ByteArray) (w : World) (ha : a.size ≤ maxLen) (hb : b.size ≤ maxLen) :
    Calls Tryz.prog 123 #[.agg #[.int .i64 k, .string a, .string b, .string t]] w
      fun e w' => e = .returned (.bool (namedB ⟨k, a, b, t⟩)) ∧ Below w.heap.size w w' := by
  have hf : namedB ⟨k, a, b, t⟩ = ((k == 6 || nameB a) && (k != 3 || nameB b)) := rfl
  rw [hf]
  clear hf
  have hA : ∀ W : World, Calls Tryz.prog 156 #[.string a] W fun e w' => e = .returned (.bool (nameB a)) ∧ Below W.heap.size W w' := fun W => Name_any a W ha
  have hD : ∀ W : World, Calls Tryz.prog 156 #[.string b] W fun e w' => e = .returned (.bool (nameB b)) ∧ Below W.heap.size W w' := fun W => Name_any b W hb
  generalize nameB a = na at hA ⊢
  generalize nameB b = nb at hD ⊢
  have HA := hide hA
  have HD := hide hD
  clear hA hD
  cases h2 : (k == 6) <;> cases h4 : (k != 3)
  · -- k = 3
    have h3 : k = 3 := by simpa using h4
    subst h3
    cases na
    · go_enter Tryz.func123, Tryz.ntmps123
      go_wp2_with fail
      refine ((unhide HA) _).mono ?_
      rintro e w1 ⟨rfl, b1⟩
      go_wp2
      go_ret
      exact ⟨by simp, ((Below.refl _ _).alloc (Nat.le_refl _) _).trans (b1.mono (by simp))⟩
    · go_enter Tryz.func123, Tryz.ntmps123
      go_wp2_with fail
      refine ((unhide HA) _).mono ?_
      rintro e w1 ⟨rfl, b1⟩
      have hc1 := b1.cell (p := ⟨w.heap.size, 0, none⟩) (by simp)
      have hc2 := b1.cell (p := ⟨w.heap.size, 2, none⟩) (by simp)
      have hz : w.heap.size < w1.heap.size := by have := b1.size; simp at this; omega
      simp at hc1 hc2
      go_wp2_with fail
      refine ((unhide HD) _).mono ?_
      rintro e w2 ⟨rfl, b2⟩
      go_wp2
      go_ret
      exact ⟨by simp, (((Below.refl _ _).alloc (Nat.le_refl _) _).trans (b1.mono (by simp))).trans (b2.mono (by omega))⟩
  · cases na
    · go_enter Tryz.func123, Tryz.ntmps123
      go_wp2_with fail
      refine ((unhide HA) _).mono ?_
      rintro e w1 ⟨rfl, b1⟩
      go_wp2
      go_ret
      exact ⟨by simp, ((Below.refl _ _).alloc (Nat.le_refl _) _).trans (b1.mono (by simp))⟩
    · go_enter Tryz.func123, Tryz.ntmps123
      go_wp2_with fail
      refine ((unhide HA) _).mono ?_
      rintro e w1 ⟨rfl, b1⟩
      have hc1 := b1.cell (p := ⟨w.heap.size, 0, none⟩) (by simp)
      have hz : w.heap.size < w1.heap.size := by have := b1.size; simp at this; omega
      simp at hc1
      go_wp2
      go_ret
      exact ⟨by simp, ((Below.refl _ _).alloc (Nat.le_refl _) _).trans (b1.mono (by simp))⟩
  · exfalso; simp at h2 h4; omega
  · go_enter Tryz.func123, Tryz.ntmps123
    go_wp2
    go_ret
    exact ⟨by simp, (Below.refl _ _).alloc (Nat.le_refl _) _⟩

set_option maxHeartbeats 1000000 in
theorem Check_any (k : Int) (a b t : ByteArray) (w : World) (ha : a.size ≤ maxLen) (hb : b.size ≤ maxLen) (ht : t.size ≤ maxLen) :
    Calls Tryz.prog 81 #[.agg #[.int .i64 k, .string a, .string b, .string t]] w
      fun e w' => e = .returned (.int .i64 (checkI ⟨k, a, b, t⟩)) ∧ Below w.heap.size w w' := by
  have hf : checkI ⟨k, a, b, t⟩ = if k < 1 ∨ 6 < k then 1 else if formedB ⟨k, a, b, t⟩ = false then 3 else if namedB ⟨k, a, b, t⟩ = false then 2 else if k = 4 ∧ textB t = false then 4 else 0 := rfl
  rw [hf]
  clear hf
  have hA : ∀ W : World, Calls Tryz.prog 122 #[.agg #[.int .i64 k, .string a, .string b, .string t]] W fun e w' => e = .returned (.bool (formedB ⟨k, a, b, t⟩)) ∧ Below W.heap.size W w' := fun W => formed_any k a b t W
  have hD : ∀ W : World, Calls Tryz.prog 123 #[.agg #[.int .i64 k, .string a, .string b, .string t]] W fun e w' => e = .returned (.bool (namedB ⟨k, a, b, t⟩)) ∧ Below W.heap.size W w' := fun W => named_any k a b t W ha hb
  have hE : ∀ W : World, Calls Tryz.prog 124 #[.string t, .int .i64 8, .int .u8 32, .int .u8 126] W fun e w' => e = .returned (.bool (textB t)) ∧ Below W.heap.size W w' := fun W => within_any t 8 32 126 W (by omega) ht
  generalize formedB ⟨k, a, b, t⟩ = na at hA ⊢
  generalize namedB ⟨k, a, b, t⟩ = nb at hD ⊢
  generalize textB t = nt at hE ⊢
  have HA := hide hA
  have HD := hide hD
  have HE := hide hE
  clear hA hD hE
  by_cases h1 : k < 1
  · rw [if_pos (Or.inl h1)]
    go_enter Tryz.func81, Tryz.ntmps81
    go_wp2
    go_ret
    exact ⟨rfl, (Below.refl _ _).alloc (Nat.le_refl _) _⟩
  by_cases h2 : 6 < k
  · rw [if_pos (Or.inr h2)]
    go_enter Tryz.func81, Tryz.ntmps81
    go_wp2
    go_ret
    exact ⟨rfl, (Below.refl _ _).alloc (Nat.le_refl _) _⟩
  rw [if_neg (by omega)]
  cases na
  · rw [if_pos rfl]
    go_enter Tryz.func81, Tryz.ntmps81
    go_wp2_with fail
    refine ((unhide HA) _).mono ?_
    rintro e w1 ⟨rfl, b1⟩
    go_wp2
    go_ret
    exact ⟨rfl, ((Below.refl _ _).alloc (Nat.le_refl _) _).trans (b1.mono (by simp))⟩
  rw [if_neg (by simp)]
  cases nb
  · rw [if_pos rfl]
    go_enter Tryz.func81, Tryz.ntmps81
    go_wp2_with fail
    refine ((unhide HA) _).mono ?_
    rintro e w1 ⟨rfl, b1⟩
    obtain ⟨hc1, hf1⟩ := bcell b1
    have hz : w.heap.size < w1.heap.size := by have := b1.size; simp at this; omega
    go_wp2_with fail
    refine ((unhide HD) _).mono ?_
    rintro e w2 ⟨rfl, b2⟩
    go_wp2
    go_ret
    exact ⟨rfl, (((Below.refl _ _).alloc (Nat.le_refl _) _).trans (b1.mono (by simp))).trans (b2.mono (by omega))⟩
  rw [if_neg (by simp)]
  cases h4 : (k == 4)
  · have h4' : ¬ k = 4 := by simpa using h4
    rw [if_neg (by simp [h4'])]
    clear h4'
    go_enter Tryz.func81, Tryz.ntmps81
    go_wp2_with fail
    refine ((unhide HA) _).mono ?_
    rintro e w1 ⟨rfl, b1⟩
    obtain ⟨hc1, hf1⟩ := bcell b1
    have hz : w.heap.size < w1.heap.size := by have := b1.size; simp at this; omega
    go_wp2_with fail
    refine ((unhide HD) _).mono ?_
    rintro e w2 ⟨rfl, b2⟩
    obtain ⟨hc2, hf2⟩ := bcell b2
    go_wp2
    go_ret
    exact ⟨rfl, (((Below.refl _ _).alloc (Nat.le_refl _) _).trans (b1.mono (by simp))).trans (b2.mono (by omega))⟩
  · have h4' : k = 4 := by simpa using h4
    subst h4'
    cases nt
    · rw [if_pos (by simp)]
      go_enter Tryz.func81, Tryz.ntmps81
      go_wp2_with fail
      refine ((unhide HA) _).mono ?_
      rintro e w1 ⟨rfl, b1⟩
      obtain ⟨hc1, hf1⟩ := bcell b1
      have hz : w.heap.size < w1.heap.size := by have := b1.size; simp at this; omega
      go_wp2_with fail
      refine ((unhide HD) _).mono ?_
      rintro e w2 ⟨rfl, b2⟩
      obtain ⟨hc2, hf2⟩ := bcell b2
      have hz2 : w.heap.size < w2.heap.size := by have := b2.size; omega
      go_wp2_with fail
      refine ((unhide HE) _).mono ?_
      rintro e w3 ⟨rfl, b3⟩
      go_wp2
      go_ret
      exact ⟨rfl, ((((Below.refl _ _).alloc (Nat.le_refl _) _).trans (b1.mono (by simp))).trans (b2.mono (by omega))).trans (b3.mono (by omega))⟩
    · rw [if_neg (by simp)]
      go_enter Tryz.func81, Tryz.ntmps81
      go_wp2_with fail
      refine ((unhide HA) _).mono ?_
      rintro e w1 ⟨rfl, b1⟩
      obtain ⟨hc1, hf1⟩ := bcell b1
      have hz : w.heap.size < w1.heap.size := by have := b1.size; simp at this; omega
      go_wp2_with fail
      refine ((unhide HD) _).mono ?_
      rintro e w2 ⟨rfl, b2⟩
      obtain ⟨hc2, hf2⟩ := bcell b2
      have hz2 : w.heap.size < w2.heap.size := by have := b2.size; omega
      go_wp2_with fail
      refine ((unhide HE) _).mono ?_
      rintro e w3 ⟨rfl, b3⟩
      go_wp2
      go_ret
      exact ⟨rfl, ((((Below.refl _ _).alloc (Nat.le_refl _) _).trans (b1.mono (by simp))).trans (b2.mono (by omega))).trans (b3.mono (by omega))⟩

set_option maxHeartbeats 400000 in
theorem New_any (w : World) :
    Calls Tryz.prog 43 #[] w fun e w' => e = .returned (.pointer (some ⟨w.heap.size, 0, none⟩)) ∧ w' = w.alloc (.cells #[.slice none 0 0] 155) := by
  go_enter Tryz.func43, Tryz.ntmps43
  go_wp2
  go_ret
  exact ⟨rfl, rfl⟩

end Go.Proofs.YtffgolanmaenfacGreatDoor

namespace Go.Proofs.YtffgolanmaenfacGreatDoor
open Go.RowKit
set_option linter.unusedSimpArgs false
set_option linter.unusedVariables false

/-- A file with the value of its field 'text'. -/
structure FV where
  name : ByteArray
  tv : Value
  text : ByteArray
def FV.cells (f : FV) : List Value := [.string f.name, f.tv]
def FV.abs (f : FV) : AFile := ⟨f.name, f.text⟩
def byteVals (s : ByteArray) : List Value := s.data.toList.map fun b => .int .u8 (b.toNat : Int)
def owns (B : Nat) (v : Value) (fs : List FV) : List Nat := B :: (v.ownBlock.toList ++ fs.flatMap fun f => f.tv.ownBlock.toList)

structure Rep (w : World) (B : Nat) (v : Value) (fs : List FV) : Prop where
  blk : w.heap[B]? = some (.cells #[v] 155 (0, 0))
  row : w.ownsRow 0 258 2 v fs.length (fs.flatMap FV.cells)
  texts : ∀ f, f ∈ fs → w.ownsRow 0 5 1 f.tv f.text.size (byteVals f.text)
  nd : (owns B v fs).Nodup

/-- A Files object at block B, whose files are st; 'own': the blocks that are its own. -/
def St (w : World) (B : Nat) (own : List Nat) (st : List AFile) : Prop := ∃ v fs, Rep w B v fs ∧ own = owns B v fs ∧ fs.map FV.abs = st

/-- But for the blocks own all that lay in w lies as it did. -/
structure Kept (own : List Nat) (w w' : World) : Prop where
  os : w'.os = w.os
  tape : w'.tape = w.tape
  output : w'.output = w.output
  size : w.heap.size ≤ w'.heap.size
  block : ∀ k, k < w.heap.size → k ∉ own → w'.heap[k]? = w.heap[k]?

theorem Kept.refl (own : List Nat) (w : World) : Kept own w w := ⟨rfl, rfl, rfl, Nat.le_refl _, fun _ _ _ => rfl⟩
theorem Kept.of_below {own : List Nat} {w w' : World} (h : Below w.heap.size w w') : Kept own w w' := ⟨h.os, h.tape, h.output, h.size, fun k hk _ => h.block k hk⟩
theorem Kept.trans {own own1 : List Nat} {a b c : World} (h : Kept own a b) (k : Kept own1 b c) (ho : ∀ x, x ∈ own1 → x ∈ own ∨ a.heap.size ≤ x) : Kept own a c :=
  ⟨k.os.trans h.os, k.tape.trans h.tape, k.output.trans h.output, Nat.le_trans h.size k.size, fun i hi hn =>
    (k.block i (Nat.lt_of_lt_of_le hi h.size) (fun hm => by rcases ho i hm with h1 | h1; exact hn h1; omega)).trans (h.block i hi hn)⟩
theorem Kept.below {own : List Nat} {w w' : World} {B : Nat} (h : Kept own w w') (hB : B ≤ w.heap.size) (ho : ∀ k, k ∈ own → B ≤ k) : Below B w w' :=
  ⟨h.os, h.tape, h.output, h.size, fun k hk => h.block k (by omega) (fun hm => by have := ho k hm; omega)⟩
theorem Kept.cell {own : List Nat} {w w' : World} (h : Kept own w w') {b j : Nat} (hb : b < w.heap.size) (hn : b ∉ own) : w'.cell? ⟨b, j, none⟩ = w.cell? ⟨b, j, none⟩ :=
  World.cell?_of_block (w := w) (a := ⟨b, j, none⟩) (h.block b hb hn)
theorem Kept.frozen {own : List Nat} {w w' : World} (h : Kept own w w') {b j : Nat} (hb : b < w.heap.size) (hn : b ∉ own) : w'.frozen? ⟨b, j, none⟩ = w.frozen? ⟨b, j, none⟩ :=
  World.frozen?_of_block (w := w) (a := ⟨b, j, none⟩) (h.block b hb hn)

theorem ownsRow_same {w w' : World} {base : Nat} {e : TypeId} {size : Nat} {v : Value} {n : Nat} {xs : List Value} (h : w.ownsRow base e size v n xs)
    (hs : ∀ k, v.ownBlock = some k → w'.heap[k]? = w.heap[k]?) : w'.ownsRow base e size v n xs := by
  refine ⟨h.1, ?_⟩
  rcases h.2 with hn | ⟨g, cap, cur, rfl, hb, hg, rest⟩
  · exact .inl hn
  · exact .inr ⟨g, cap, cur, rfl, hb, by rw [hs g rfl]; exact hg, rest⟩

theorem mem_owns {B : Nat} {v : Value} {fs : List FV} {k : Nat} : k ∈ owns B v fs ↔ k = B ∨ v.ownBlock = some k ∨ ∃ f, f ∈ fs ∧ f.tv.ownBlock = some k := by
  simp [owns]

theorem Rep.lt {w : World} {B : Nat} {v : Value} {fs : List FV} (h : Rep w B v fs) {k : Nat} (hk : k ∈ owns B v fs) : k < w.heap.size := by
  rcases mem_owns.1 hk with rfl | hv | ⟨f, hf, hv⟩
  · exact (Array.getElem?_eq_some_iff.1 h.blk).1
  · exact (h.row.lt k hv).2
  · exact ((h.texts f hf).lt k hv).2

theorem Rep.same {w w' : World} {B : Nat} {v : Value} {fs : List FV} (h : Rep w B v fs) (hs : ∀ k, k ∈ owns B v fs → w'.heap[k]? = w.heap[k]?) : Rep w' B v fs :=
  ⟨by rw [hs B (mem_owns.2 (.inl rfl))]; exact h.blk,
   ownsRow_same h.row fun k hk => hs k (mem_owns.2 (.inr (.inl hk))),
   fun f hf => ownsRow_same (h.texts f hf) fun k hk => hs k (mem_owns.2 (.inr (.inr ⟨f, hf, hk⟩))),
   h.nd⟩

theorem Rep.below {w w' : World} {B : Nat} {v : Value} {fs : List FV} (h : Rep w B v fs) (hb : Below w.heap.size w w') : Rep w' B v fs :=
  h.same fun k hk => hb.block k (h.lt hk)

theorem Rep.kept {w w' : World} {B : Nat} {v : Value} {fs : List FV} {own : List Nat} (h : Rep w B v fs) (hb : Kept own w w') (hd : ∀ k, k ∈ owns B v fs → k ∉ own) : Rep w' B v fs :=
  h.same fun k hk => hb.block k (h.lt hk) (hd k hk)

theorem Rep.cellB {w : World} {B : Nat} {v : Value} {fs : List FV} (h : Rep w B v fs) : w.cell? ⟨B, 0, none⟩ = some v := by
  simp [World.cell?, h.blk]
theorem Rep.frozenB {w : World} {B : Nat} {v : Value} {fs : List FV} (h : Rep w B v fs) : w.frozen? ⟨B, 0, none⟩ = false := by
  simp [World.frozen?, h.blk]

theorem St.lt {w : World} {B : Nat} {own : List Nat} {st : List AFile} (h : St w B own st) {k : Nat} (hk : k ∈ own) : k < w.heap.size := by
  obtain ⟨v, fs, hr, rfl, _⟩ := h
  exact hr.lt hk
theorem St.below {w w' : World} {B : Nat} {own : List Nat} {st : List AFile} (h : St w B own st) (hb : Below w.heap.size w w') : St w' B own st := by
  obtain ⟨v, fs, hr, rfl, hs⟩ := h
  exact ⟨v, fs, hr.below hb, rfl, hs⟩
theorem St.memB {w : World} {B : Nat} {own : List Nat} {st : List AFile} (h : St w B own st) : B ∈ own := by
  obtain ⟨v, fs, hr, rfl, _⟩ := h
  exact mem_owns.2 (.inl rfl)

/-- A cell's value, and that it may be written: over a callee that leaves what was there; over a new block; over an append to another row; over a draw. -/
abbrev Can (w : World) (b o : Nat) (v : Value) : Prop := w.cell? ⟨b, o, none⟩ = some v ∧ w.frozen? ⟨b, o, none⟩ = false
theorem Can.below {w w' : World} {b o : Nat} {v : Value} {N : Nat} (h : Can w b o v) (hb : Below N w w') (hN : b < N) : Can w' b o v :=
  ⟨(hb.cell (p := ⟨b, o, none⟩) hN).trans h.1, (hb.frozen (p := ⟨b, o, none⟩) hN).trans h.2⟩
theorem Can.lt {w : World} {b o : Nat} {v : Value} (h : Can w b o v) : b < w.heap.size := World.block_lt_of_cell? w _ h.1
theorem Can.alloc {w : World} {b o : Nat} {v : Value} (h : Can w b o v) (x : Obj) : Can (w.alloc x) b o v := ⟨(al_old w x b o h.lt).trans h.1, (al_frozen w x b o h.lt).trans h.2⟩
theorem Can.grown {w w' : World} {b o : Nat} {v : Value} {row : Option Nat} (h : Can w b o v) (hg : w.grownBy w' row) (hne : row ≠ some b) : Can w' b o v :=
  ⟨(World.cell?_of_block (w := w) (a := ⟨b, o, none⟩) (hg.block b h.lt (Ne.symm hne))).trans h.1, (World.frozen?_of_block (w := w) (a := ⟨b, o, none⟩) (hg.block b h.lt (Ne.symm hne))).trans h.2⟩

/-- The list's value written out. -/
theorem row_form {w : World} {base : Nat} {e : TypeId} {size : Nat} {v : Value} {n : Nat} {xs : List Value} (h : w.ownsRow base e size v n xs) : ∃ a cap, v = .slice a n cap := by
  rcases h.2 with ⟨rfl, rfl⟩ | ⟨g, cap, cur, rfl, _⟩
  · exact ⟨none, 0, rfl⟩
  · exact ⟨_, cap, rfl⟩

/-- The cells of file j. -/
theorem flat_get (fs : List FV) (j : Nat) (f : FV) (hf : fs[j]? = some f) : (fs.flatMap FV.cells)[j * 2]? = some (.string f.name) ∧ (fs.flatMap FV.cells)[j * 2 + 1]? = some f.tv := by
  induction fs generalizing j with
  | nil => simp at hf
  | cons x xs ih =>
    cases j with
    | zero => simp at hf; subst hf; simp [FV.cells]
    | succ j =>
      have := ih j (by simpa using hf)
      have e1 : (j + 1) * 2 = j * 2 + 2 := by omega
      have e2 : (j + 1) * 2 + 1 = j * 2 + 1 + 2 := by omega
      simp only [List.flatMap_cons, FV.cells]
      rw [e1]
      exact ⟨by simpa using this.1, by rw [show j * 2 + 2 + 1 = j * 2 + 1 + 2 by omega]; simpa using this.2⟩

theorem Rep.file {w : World} {B g cap : Nat} {fs : List FV} {n : Nat} (h : Rep w B (.slice (some ⟨g, 0, none⟩) n cap) fs) (j : Nat) (f : FV) (hf : fs[j]? = some f) :
    w.cell? ⟨g, j * 2, none⟩ = some (.string f.name) ∧ w.cell? ⟨g, j * 2 + 1, none⟩ = some f.tv := by
  have hc := h.row.cells (g := g) rfl
  have := flat_get fs j f hf
  have e : ∀ i, (⟨g, 0, none⟩ : Addr).add i = ⟨g, i, none⟩ := fun i => by unfold Addr.add; split <;> simp_all
  exact ⟨by have := hc _ _ this.1; rwa [e] at this, by have := hc _ _ this.2; rwa [e] at this⟩

/-- Where a file is called so. -/
def fIdx (name : ByteArray) (st : List AFile) : Nat := st.findIdx fun f => f.name.toList == name.toList
def fInt (name : ByteArray) (st : List AFile) : Int := if fIdx name st < st.length then (fIdx name st : Int) else -1

theorem fInt_hit (name : ByteArray) (st : List AFile) (k : Nat) (hk : k < st.length) (h0 : ∀ (j : Nat) (f : AFile), j < k → st[j]? = some f → (f.name.toList == name.toList) = false)
    (h1 : ∀ f, st[k]? = some f → (f.name.toList == name.toList) = true) : fInt name st = k := by
  have e : fIdx name st = k := by
    unfold fIdx
    rw [List.findIdx_eq hk]
    refine ⟨h1 _ (List.getElem?_eq_getElem hk), fun j hj => ?_⟩
    rw [h0 j _ hj (List.getElem?_eq_getElem (by omega))]
  unfold fInt
  rw [e, if_pos hk]
theorem fInt_miss (name : ByteArray) (st : List AFile) (h0 : ∀ (j : Nat) (f : AFile), st[j]? = some f → (f.name.toList == name.toList) = false) : fInt name st = -1 := by
  have e : fIdx name st = st.length := by
    unfold fIdx
    rw [List.findIdx_eq_length]
    intro x hx
    obtain ⟨j, hj⟩ := List.mem_iff_getElem?.1 hx
    rw [h0 j x hj]
  unfold fInt
  rw [e, if_neg (by omega)]

end Go.Proofs.YtffgolanmaenfacGreatDoor

namespace Go.Proofs.YtffgolanmaenfacGreatDoor
open Go.RowKit
set_option linter.unusedSimpArgs false
set_option linter.unusedVariables false

set_option maxHeartbeats 400000 in
theorem pred41 (nm name : ByteArray) (tv : Value) (Bn : Nat) (w : World) (hn : w.cell? ⟨Bn, 0, none⟩ = some (.string name)) (hB : Bn < w.heap.size) :
    Calls Tryz.prog 221 #[.agg #[.string nm, tv], .pointer (some ⟨Bn, 0, none⟩)] w fun e w' => e = .returned (.bool (nm.toList == name.toList)) ∧ Below w.heap.size w w' := by
  have hne : ¬ w.heap.size = Bn := by omega
  have hne2 : ¬ Bn = w.heap.size := by omega
  go_enter Tryz.func221, Tryz.ntmps221
  go_wp2
  go_ret
  exact ⟨rfl, (Below.refl _ _).alloc (Nat.le_refl _) _⟩

theorem abs_get {fs : List FV} {j : Nat} {f : AFile} (h : (fs.map FV.abs)[j]? = some f) : ∃ x, fs[j]? = some x ∧ x.abs = f := by
  rw [List.getElem?_map] at h
  cases hx : fs[j]? with
  | none => simp [hx] at h
  | some x => simp [hx] at h; exact ⟨x, rfl, h⟩

set_option maxHeartbeats 1000000 in
theorem idx40 (name : ByteArray) (Bn B : Nat) (v : Value) (fs : List FV) (w : World) (hr : Rep w B v fs) (hn : w.cell? ⟨Bn, 0, none⟩ = some (.string name)) (hl : fs.length ≤ 1000) :
    Calls Tryz.prog 220 #[v, .func (.func 221) #[] #[.pointer (some ⟨Bn, 0, none⟩)]] w
      fun e w' => e = .returned (.int .i64 (fInt name (fs.map FV.abs))) ∧ Below w.heap.size w w' := by
  have hBn : Bn < w.heap.size := World.block_lt_of_cell? w _ hn
  obtain ⟨a, cap, rfl⟩ := row_form hr.row
  obtain ⟨res, HR⟩ : ∃ res, Hid (fInt name (fs.map FV.abs) = res) := ⟨_, rfl⟩
  rw [HR.out]
  have HRep := hide hr
  have HN := hide hn
  clear hr hn
  go_enter Tryz.func220, Tryz.ntmps220
  go_wp2
  go_loopw [5, 8] (fun _ i wr => ∃ k : Nat, k ≤ fs.length ∧ i = .int .i64 k ∧ Hid (Below w.heap.size w wr) ∧ Hid (∀ (j : Nat) (f : FV), j < k → fs[j]? = some f → (f.name.toList == name.toList) = false)) (fun _ i _ => fs.length - (intOf i).toNat)
  case atStart => exact ⟨0, Nat.zero_le _, rfl, Below.refl _ _, fun j f hj => absurd hj (Nat.not_lt_zero _)⟩
  case round =>
    obtain ⟨k, hk, rfl, HB, HA⟩ := hrel
    by_cases hlt : k < fs.length
    · obtain ⟨x, hx⟩ : ∃ x, fs[k]? = some x := ⟨_, List.getElem?_eq_getElem hlt⟩
      have hrw := (unhide HRep).below (unhide HB)
      have hnw := ((unhide HB).cell (p := ⟨Bn, 0, none⟩) hBn).trans (unhide HN)
      have hBw : Bn < wr.heap.size := Nat.lt_of_lt_of_le hBn (unhide HB).size
      rcases hrw.row.2 with ⟨he, h0⟩ | ⟨g, cap', cur, he, _⟩
      · omega
      obtain ⟨rfl, rfl⟩ : a = some ⟨g, 0, none⟩ ∧ cap = cap' := by simpa using he
      obtain ⟨hc0, hc1⟩ := hrw.file k x hx
      have hp := pred41 x.name name x.tv Bn wr hnw hBw
      have HX := hide hx
      clear hx hrw hnw hBw he
      generalize x.tv = tv at hc1 hp
      cases hq : (x.name.toList == name.toList)
      · rw [hq] at hp
        have HQ := hide hq
        clear hq
        go_wp2_with (go_at_call 221; refine hp.mono ?_; rintro e w' ⟨rfl, hb'⟩)
        go_roundw
        case rel =>
          refine ⟨k + 1, by omega, by go_num, (unhide HB).trans (hb'.mono (unhide HB).size), ?_⟩
          intro j f hj hf
          by_cases e : j = k
          · subst e
            have := unhide HX
            rw [this] at hf
            cases hf
            exact unhide HQ
          · exact unhide HA j f (by omega) hf
        case measure => simp [intOf]; omega
      · rw [hq] at hp
        have HQ := hide hq
        clear hq
        go_wp2_with (go_at_call 221; refine hp.mono ?_; rintro e w' ⟨rfl, hb'⟩)
        go_ret
        refine ⟨?_, (unhide HB).trans (hb'.mono (unhide HB).size)⟩
        rw [← HR.out, fInt_hit name (fs.map FV.abs) k (by simpa using hlt) ?_ ?_]
        · rfl
        · intro j f hj hf
          obtain ⟨y, hy, rfl⟩ := abs_get hf
          exact unhide HA j y hj hy
        · intro f hf
          obtain ⟨y, hy, rfl⟩ := abs_get hf
          have := unhide HX
          rw [this] at hy
          cases hy
          exact unhide HQ
    · have hkk : k = fs.length := by omega
      subst hkk
      go_wp2
      go_ret
      refine ⟨?_, unhide HB⟩
      rw [← HR.out, fInt_miss name (fs.map FV.abs) ?_]
      · rfl
      intro j f hf
      obtain ⟨y, hy, rfl⟩ := abs_get hf
      exact unhide HA j y (List.getElem?_eq_some_iff.1 hy).1 hy

set_option maxHeartbeats 400000 in
theorem find_any (name : ByteArray) (B : Nat) (own : List Nat) (st : List AFile) (w : World) (hr : St w B own st) (hl : st.length ≤ 1000) :
    Calls Tryz.prog 204 #[.pointer (some ⟨B, 0, none⟩), .string name] w
      fun e w' => e = .returned (.int .i64 (fInt name st)) ∧ Below w.heap.size w w' := by
  obtain ⟨v, fs, hr, rfl, rfl⟩ := hr
  have hr2 := hr.below ((Below.refl _ _).alloc (Nat.le_refl _) (.cells #[.string name] 9))
  have hB : B < w.heap.size := hr.lt (mem_owns.2 (.inl rfl))
  have hcon := idx40 name w.heap.size B v fs _ hr2 (by simp) (by simpa using hl)
  have hc := hr.cellB
  have hne : ¬ w.heap.size = B := by omega
  have hne2 : ¬ B = w.heap.size := by omega
  obtain ⟨a, cap, rfl⟩ := row_form hr.row
  generalize fInt name (fs.map FV.abs) = res at hcon ⊢
  clear hr hr2
  go_enter Tryz.func204, Tryz.ntmps204
  go_wp2_with (go_at_call 220; refine hcon.mono ?_; rintro e w' ⟨rfl, hb'⟩)
  go_ret
  exact ⟨rfl, ((Below.refl _ _).alloc (Nat.le_refl _) _).trans (hb'.mono (by simp))⟩

end Go.Proofs.YtffgolanmaenfacGreatDoor

namespace Go.Proofs.YtffgolanmaenfacGreatDoor
open Go.RowKit
set_option linter.unusedSimpArgs false
set_option linter.unusedVariables false

/-- From w to w' the object at B, whose own blocks were own, has come to st'. -/
def Turned (w : World) (B : Nat) (own : List Nat) (w' : World) (st' : List AFile) : Prop :=
  ∃ own', St w' B own' st' ∧ Kept own w w' ∧ ∀ k, k ∈ own' → k ∈ own ∨ w.heap.size ≤ k

theorem Turned.of_below {w w' : World} {B : Nat} {own : List Nat} {st : List AFile} (h : St w B own st) (hb : Below w.heap.size w w') : Turned w B own w' st :=
  ⟨own, h.below hb, Kept.of_below hb, fun k hk => .inl hk⟩
theorem Turned.before {w w0 w' : World} {B : Nat} {own : List Nat} {st : List AFile} (hb : Below w.heap.size w w0) (h : Turned w0 B own w' st) : Turned w B own w' st := by
  obtain ⟨own', h1, h2, h3⟩ := h
  refine ⟨own', h1, (Kept.of_below hb).trans h2 (fun x hx => .inl hx), fun k hk => ?_⟩
  rcases h3 k hk with h | h
  · exact .inl h
  · right; have := hb.size; omega
theorem heap_setCell_same {w : World} {b o : Nat} {c : Array Value} {e : TypeId} {fr : Nat × Nat} (h : w.heap[b]? = some (.cells c e fr)) (v : Value) : (w.setCell ⟨b, o, none⟩ v).heap[b]? = some (.cells (c.setIfInBounds o v) e fr) := by
  simp only [World.setCell, Array.getElem?_modify, h]
  simp

theorem setCell_size (w : World) (a : Addr) (v : Value) : (w.setCell a v).heap.size = w.heap.size := by simp [World.setCell]

theorem kept_setCell (own : List Nat) (w : World) (b o : Nat) (v : Value) (hb : b ∈ own) : Kept own w (w.setCell ⟨b, o, none⟩ v) :=
  ⟨rfl, rfl, rfl, by rw [setCell_size]; exact Nat.le_refl _, fun k hk hn => Below.heap_setCell w _ v k (fun e => hn (by rw [e]; exact hb))⟩

theorem nd_parts {B : Nat} {v : Value} {fs : List FV} (h : (owns B v fs).Nodup) :
    v.ownBlock ≠ some B ∧ (∀ f, f ∈ fs → f.tv.ownBlock ≠ some B) ∧ (∀ f, f ∈ fs → ∀ k, f.tv.ownBlock = some k → v.ownBlock ≠ some k) := by
  simp only [owns, List.nodup_cons, List.mem_append, not_or] at h
  obtain ⟨⟨h1, h2⟩, h3⟩ := h
  rw [List.nodup_append] at h3
  refine ⟨fun e => h1 (by simp [e]), fun f hf e => h2 (by simp only [List.mem_flatMap]; exact ⟨f, hf, by simp [e]⟩), fun f hf k hk e => ?_⟩
  exact h3.2.2 k (by simp [e]) k (by simp only [List.mem_flatMap]; exact ⟨f, hf, by simp [hk]⟩) rfl

/-- A file more. -/
theorem Rep.push {w w3 : World} {B : Nat} {v : Value} {fs : List FV} (hr : Rep w B v fs) {g cap n : Nat} {name : ByteArray} (hg : w.grownBy w3 v.ownBlock) (hn : n = fs.length + 1)
    (hown : w3.ownsRow 0 258 2 (.slice (some ⟨g, 0, none⟩) n cap) n (fs.flatMap FV.cells ++ [.string name, .slice none 0 0])) (hat : v.ownBlock = some g ∨ g = w.heap.size) :
    Turned w B (owns B v fs) (w3.setCell ⟨B, 0, none⟩ (.slice (some ⟨g, 0, none⟩) n cap)) (fs.map FV.abs ++ [⟨name, ByteArray.empty⟩]) := by
  obtain ⟨n1, n2, n3⟩ := nd_parts hr.nd
  have hB : B < w.heap.size := hr.lt (mem_owns.2 (.inl rfl))
  have hgB : g ≠ B := by
    rcases hat with h | h
    · intro e; subst e; exact n1 h
    · omega
  have hold : ∀ k, k < w.heap.size → v.ownBlock ≠ some k → w3.heap[k]? = w.heap[k]? := fun k hk hne => hg.block k hk (fun e => hne e.symm)
  have htx : ∀ f, f ∈ fs → ∀ k, f.tv.ownBlock = some k → k < w.heap.size ∧ k ≠ B ∧ k ≠ g ∧ v.ownBlock ≠ some k := fun f hf k hk => by
    have h1 : k < w.heap.size := ((hr.texts f hf).lt k hk).2
    refine ⟨h1, fun e => n2 f hf (by rw [hk, e]), fun e => ?_, n3 f hf k hk⟩
    rcases hat with h | h
    · exact n3 f hf k hk (by rw [h, e])
    · omega
  refine ⟨owns B (.slice (some ⟨g, 0, none⟩) n cap) (fs ++ [⟨name, .slice none 0 0, ByteArray.empty⟩]), ⟨_, _, ⟨?_, ?_, ?_, ?_⟩, rfl, by simp [FV.abs]⟩, ?_, ?_⟩
  · rw [heap_setCell_same (c := #[v]) (e := 155) (fr := (0, 0))]
    · simp
    · rw [hold B hB n1]; exact hr.blk
  · have : w3.ownsRow 0 258 2 (.slice (some ⟨g, 0, none⟩) n cap) (fs ++ [(⟨name, .slice none 0 0, ByteArray.empty⟩ : FV)]).length ((fs ++ [(⟨name, .slice none 0 0, ByteArray.empty⟩ : FV)]).flatMap FV.cells) := by
      have e1 : (fs ++ [(⟨name, .slice none 0 0, ByteArray.empty⟩ : FV)]).length = n := by simp [hn]
      have e2 : (fs ++ [(⟨name, .slice none 0 0, ByteArray.empty⟩ : FV)]).flatMap FV.cells = fs.flatMap FV.cells ++ [.string name, .slice none 0 0] := by simp [FV.cells]
      rw [e1, e2]; exact hown
    exact ownsRow_same this fun k hk => by
      have : k = g := by simpa [Value.ownBlock] using hk.symm
      rw [this]
      exact Below.heap_setCell _ _ _ _ hgB
  · intro f hf
    rcases List.mem_append.1 hf with hf | hf
    · refine ownsRow_same (hr.texts f hf) fun k hk => ?_
      obtain ⟨h1, h2, h3, h4⟩ := htx f hf k hk
      rw [Below.heap_setCell _ _ _ _ (show k ≠ B from h2), hold k h1 h4]
    · have : f = ⟨name, .slice none 0 0, ByteArray.empty⟩ := by simpa using hf
      subst this
      exact World.ownsRow_nil _ _ _ _
  · have h0 := hr.nd
    simp only [owns, List.flatMap_append, List.flatMap_cons, List.flatMap_nil, Value.ownBlock, Option.toList, List.append_nil, List.nil_append, List.cons_append, List.nodup_cons, List.mem_cons, not_or] at h0 ⊢
    have hm : ∀ k, k ∈ fs.flatMap (fun f => f.tv.ownBlock.toList) → k ≠ B ∧ k ≠ g := fun k hk => by
      simp only [List.mem_flatMap] at hk
      obtain ⟨f, hf, hk⟩ := hk
      obtain ⟨_, h2, h3, _⟩ := htx f hf k (by simpa using hk)
      exact ⟨h2, h3⟩
    refine ⟨⟨fun e => hgB e.symm, fun hk => (hm _ hk).1 rfl⟩, fun hk => (hm _ hk).2 rfl, ?_⟩
    exact (List.nodup_append.1 h0.2).2.1
  · have k1 : Kept (owns B v fs) w w3 := ⟨hg.os, hg.tape, hg.output, hg.size, fun k hk hn => hold k hk (fun e => hn (mem_owns.2 (.inr (.inl e))))⟩
    exact k1.trans (kept_setCell (owns B v fs) _ _ _ _ (mem_owns.2 (.inl rfl))) (fun x hx => .inl hx)
  · intro k hk
    rcases mem_owns.1 hk with h | h | ⟨f, hf, h⟩
    · exact .inl (mem_owns.2 (.inl h))
    · have : k = g := by simpa [Value.ownBlock] using h.symm
      rcases hat with h1 | h1
      · exact .inl (mem_owns.2 (.inr (.inl (by rw [this]; exact h1))))
      · right; omega
    · rcases List.mem_append.1 hf with hf | hf
      · exact .inl (mem_owns.2 (.inr (.inr ⟨f, hf, h⟩)))
      · have : f = ⟨name, .slice none 0 0, ByteArray.empty⟩ := by simpa using hf
        subst this
        simp [Value.ownBlock] at h


theorem owns_mid (B : Nat) (v : Value) (l1 l2 : List FV) (f : FV) : (owns B v (l1 ++ f :: l2)).Perm (f.tv.ownBlock.toList ++ owns B v (l1 ++ l2)) := by
  simp only [owns, List.flatMap_append, List.flatMap_cons]
  generalize l1.flatMap (fun f => f.tv.ownBlock.toList) = a
  generalize l2.flatMap (fun f => f.tv.ownBlock.toList) = b
  generalize f.tv.ownBlock.toList = c
  generalize v.ownBlock.toList = d
  have h1 : (B :: (d ++ (a ++ (c ++ b)))).Perm (B :: (c ++ (d ++ (a ++ b)))) := by
    refine List.Perm.cons _ ?_
    have e1 : d ++ (a ++ (c ++ b)) = (d ++ a) ++ (c ++ b) := by simp
    have e2 : c ++ (d ++ (a ++ b)) = c ++ (d ++ a) ++ b := by simp
    rw [e1, e2, ← List.append_assoc]
    exact (List.perm_append_comm).append_right b
  refine h1.trans ?_
  exact List.perm_middle.symm

theorem mid_get {l1 l2 : List FV} {f : FV} : (l1 ++ f :: l2)[l1.length]? = some f := by simp

theorem split_at {fs : List FV} {j : Nat} {f : FV} (h : fs[j]? = some f) : ∃ l1 l2, fs = l1 ++ f :: l2 ∧ l1.length = j := by
  obtain ⟨hj, hf⟩ := List.getElem?_eq_some_iff.1 h
  refine ⟨fs.take j, fs.drop (j + 1), ?_, by simp; omega⟩
  rw [← hf, List.getElem_cons_drop, List.take_append_drop]

theorem flat_len (l : List FV) : (l.flatMap FV.cells).length = l.length * 2 := by
  induction l with
  | nil => rfl
  | cons x xs ih => simp [FV.cells, ih]; omega

theorem flat_set (l1 l2 : List FV) (f f' : FV) (d : Nat) (x : Value) (hd : d < 2) (hx : f'.cells = f.cells.set d x) :
    ((l1 ++ f :: l2).flatMap FV.cells).set (l1.length * 2 + d) x = (l1 ++ f' :: l2).flatMap FV.cells := by
  simp only [List.flatMap_append, List.flatMap_cons]
  rw [List.set_append_right _ _ (by rw [flat_len]; omega), flat_len, show l1.length * 2 + d - l1.length * 2 = d by omega, List.set_append_left _ _ (by simp [FV.cells]; exact hd), hx]

/-- A file of which one field is set: a name, or a text that was put behind. -/
theorem Rep.setFile {w w1 : World} {B g n cap : Nat} {l1 l2 : List FV} {f f' : FV} (hr : Rep w B (.slice (some ⟨g, 0, none⟩) n cap) (l1 ++ f :: l2)) (d : Nat) (hd : d < 2) (x : Value) (hx : f'.cells = f.cells.set d x)
    (hg : w.grownBy w1 f.tv.ownBlock) (hown : w1.ownsRow 0 5 1 f'.tv f'.text.size (byteVals f'.text)) (hat : f'.tv.ownBlock = f.tv.ownBlock ∨ f'.tv.ownBlock = some w.heap.size) :
    Turned w B (owns B (.slice (some ⟨g, 0, none⟩) n cap) (l1 ++ f :: l2)) (w1.setCell ⟨g, l1.length * 2 + d, none⟩ x) ((l1 ++ f' :: l2).map FV.abs) := by
  obtain ⟨n1, n2, n3⟩ := nd_parts hr.nd
  have hB : B < w.heap.size := hr.lt (mem_owns.2 (.inl rfl))
  have hG : g < w.heap.size := hr.lt (mem_owns.2 (.inr (.inl rfl)))
  have hgB : g ≠ B := fun e => n1 (by rw [e]; rfl)
  have hfm : f ∈ l1 ++ f :: l2 := by simp
  have hp := (owns_mid B (.slice (some ⟨g, 0, none⟩) n cap) l1 l2 f).nodup_iff.1 hr.nd
  rw [List.nodup_append] at hp
  obtain ⟨_, hp2, hp3⟩ := hp
  have hfg : f.tv.ownBlock ≠ some g := fun e => n3 f hfm g e rfl
  have hfB : f.tv.ownBlock ≠ some B := n2 f hfm
  have hf'g : f'.tv.ownBlock ≠ some g := by
    rcases hat with h | h
    · rw [h]; exact hfg
    · rw [h]; intro e; have := Option.some.inj e; omega
  have hold : ∀ k, k < w.heap.size → f.tv.ownBlock ≠ some k → k ≠ g → (w1.setCell ⟨g, l1.length * 2 + d, none⟩ x).heap[k]? = w.heap[k]? := fun k hk h1 h2 => by
    rw [Below.heap_setCell _ _ _ _ (show k ≠ g from h2)]
    exact hg.block k hk (Ne.symm h1)
  have hother : ∀ y, y ∈ l1 ++ l2 → ∀ k, y.tv.ownBlock = some k → f.tv.ownBlock ≠ some k ∧ k ≠ g ∧ k < w.heap.size := fun y hy k hk => by
    have hym : y ∈ l1 ++ f :: l2 := by
      rcases List.mem_append.1 hy with h | h
      · exact List.mem_append.2 (.inl h)
      · exact List.mem_append.2 (.inr (List.mem_cons_of_mem _ h))
    refine ⟨fun e => ?_, fun e => n3 y hym k hk (by rw [e]; rfl), ((hr.texts y hym).lt k hk).2⟩
    exact hp3 k (by simp [e]) k (mem_owns.2 (.inr (.inr ⟨y, hy, hk⟩))) rfl
  have hrow1 : w1.heap[g]? = w.heap[g]? := hg.block g hG (Ne.symm hfg)
  refine ⟨owns B (.slice (some ⟨g, 0, none⟩) n cap) (l1 ++ f' :: l2), ⟨_, _, ⟨?_, ?_, ?_, ?_⟩, rfl, rfl⟩, ?_, ?_⟩
  · rw [hold B hB hfB (Ne.symm hgB)]; exact hr.blk
  · obtain ⟨hl, h2⟩ := hr.row
    have e0 : (l1 ++ f' :: l2).length = (l1 ++ f :: l2).length := by simp
    rcases h2 with ⟨e, _⟩ | ⟨g', cap', cur, he, _, hh, hnc, hcm, hcs, htk⟩
    · cases e
    · obtain ⟨rfl, hn, rfl⟩ : g = g' ∧ n = (l1 ++ f :: l2).length ∧ cap = cap' := by simpa using he
      rw [e0]
      refine ⟨by rw [flat_len, e0], .inr ⟨g, cap, cur.setIfInBounds (l1.length * 2 + d) x, by rw [hn], Nat.zero_le _, ?_, hnc, hcm, by simpa using hcs, ?_⟩⟩
      · rw [heap_setCell_same (c := cur) (e := 258) (fr := (0, 0)) (by rw [hrow1]; exact hh)]
      · rw [Array.toList_setIfInBounds, List.take_set, htk]
        exact flat_set l1 l2 f f' d x hd hx
  · intro y hy
    by_cases e : y = f'
    · subst e
      refine ownsRow_same hown fun k hk => ?_
      exact Below.heap_setCell _ _ _ _ (fun e => hf'g (by rw [hk]; exact congrArg some e))
    · have hy2 : y ∈ l1 ++ l2 := by
        rcases List.mem_append.1 hy with h | h
        · exact List.mem_append.2 (.inl h)
        · rcases List.mem_cons.1 h with h | h
          · exact absurd h e
          · exact List.mem_append.2 (.inr h)
      have hym : y ∈ l1 ++ f :: l2 := by
        rcases List.mem_append.1 hy2 with h | h
        · exact List.mem_append.2 (.inl h)
        · exact List.mem_append.2 (.inr (List.mem_cons_of_mem _ h))
      refine ownsRow_same (hr.texts y hym) fun k hk => ?_
      obtain ⟨h1, h2, h3⟩ := hother y hy2 k hk
      exact hold k h3 h1 h2
  · rw [(owns_mid B (.slice (some ⟨g, 0, none⟩) n cap) l1 l2 f').nodup_iff, List.nodup_append]
    refine ⟨by cases f'.tv.ownBlock <;> simp, hp2, ?_⟩
    intro a ha b hb
    have ha' : f'.tv.ownBlock = some a := by simpa using ha
    rcases hat with h | h
    · exact hp3 a (by rw [← h]; exact ha) b hb
    · have hlt : b < w.heap.size := by
        refine hr.lt (B := B) ?_
        rw [(owns_mid B (.slice (some ⟨g, 0, none⟩) n cap) l1 l2 f).mem_iff]
        exact List.mem_append.2 (.inr hb)
      rw [h] at ha'
      have := Option.some.inj ha'
      omega
  · have k1 : Kept (owns B (.slice (some ⟨g, 0, none⟩) n cap) (l1 ++ f :: l2)) w w1 := ⟨hg.os, hg.tape, hg.output, hg.size, fun k hk hn => hg.block k hk (fun e => hn (mem_owns.2 (.inr (.inr ⟨f, hfm, e.symm⟩))))⟩
    exact k1.trans (kept_setCell (owns B (.slice (some ⟨g, 0, none⟩) n cap) (l1 ++ f :: l2)) _ _ _ _ (mem_owns.2 (.inr (.inl rfl)))) (fun x hx => .inl hx)
  · intro k hk
    rw [(owns_mid B (.slice (some ⟨g, 0, none⟩) n cap) l1 l2 f').mem_iff] at hk
    rcases List.mem_append.1 hk with h | h
    · have ha' : f'.tv.ownBlock = some k := by simpa using h
      rcases hat with h1 | h1
      · left
        exact mem_owns.2 (.inr (.inr ⟨f, hfm, by rw [← h1]; exact ha'⟩))
      · right
        rw [h1] at ha'
        have := Option.some.inj ha'
        omega
    · left
      rw [(owns_mid B (.slice (some ⟨g, 0, none⟩) n cap) l1 l2 f).mem_iff]
      exact List.mem_append.2 (.inr h)

/-- A file less. -/
theorem Rep.erase {w w1 : World} {B g n cap m : Nat} {l1 l2 : List FV} {f : FV} (hr : Rep w B (.slice (some ⟨g, 0, none⟩) n cap) (l1 ++ f :: l2)) (hk : Kept [g] w w1) (hm : m = (l1 ++ l2).length)
    (hrow : w1.ownsRow 0 258 2 (.slice (some ⟨g, 0, none⟩) m cap) m ((l1 ++ l2).flatMap FV.cells)) :
    Turned w B (owns B (.slice (some ⟨g, 0, none⟩) n cap) (l1 ++ f :: l2)) (w1.setCell ⟨B, 0, none⟩ (.slice (some ⟨g, 0, none⟩) m cap)) ((l1 ++ l2).map FV.abs) := by
  subst hm
  obtain ⟨n1, n2, n3⟩ := nd_parts hr.nd
  have hB : B < w.heap.size := hr.lt (mem_owns.2 (.inl rfl))
  have hgB : g ≠ B := fun e => n1 (by rw [e]; rfl)
  have hp := (owns_mid B (.slice (some ⟨g, 0, none⟩) n cap) l1 l2 f).nodup_iff.1 hr.nd
  rw [List.nodup_append] at hp
  obtain ⟨_, hp2, hp3⟩ := hp
  have hsub : ∀ y, y ∈ l1 ++ l2 → y ∈ l1 ++ f :: l2 := fun y hy => by
    rcases List.mem_append.1 hy with h | h
    · exact List.mem_append.2 (.inl h)
    · exact List.mem_append.2 (.inr (List.mem_cons_of_mem _ h))
  refine ⟨owns B (.slice (some ⟨g, 0, none⟩) (l1 ++ l2).length cap) (l1 ++ l2), ⟨_, _, ⟨?_, ?_, ?_, ?_⟩, rfl, rfl⟩, ?_, ?_⟩
  · rw [heap_setCell_same (c := #[.slice (some ⟨g, 0, none⟩) n cap]) (e := 155) (fr := (0, 0))]
    · simp
    · rw [hk.block B hB (by simpa using Ne.symm hgB)]; exact hr.blk
  · exact ownsRow_same hrow fun k hk => by
      have : k = g := by simpa [Value.ownBlock] using hk.symm
      rw [this]
      exact Below.heap_setCell _ _ _ _ hgB
  · intro y hy
    refine ownsRow_same (hr.texts y (hsub y hy)) fun k hkk => ?_
    have h1 : k < w.heap.size := ((hr.texts y (hsub y hy)).lt k hkk).2
    have h2 : k ≠ B := fun e => n2 y (hsub y hy) (by rw [hkk, e])
    have h3 : k ≠ g := fun e => n3 y (hsub y hy) k hkk (by rw [e]; rfl)
    rw [Below.heap_setCell _ _ _ _ (show k ≠ B from h2)]
    exact hk.block k h1 (by simpa using h3)
  · exact hp2
  · have k1 : Kept (owns B (.slice (some ⟨g, 0, none⟩) n cap) (l1 ++ f :: l2)) w w1 := ⟨hk.os, hk.tape, hk.output, hk.size, fun k hkk hn => hk.block k hkk (fun e => hn (mem_owns.2 (.inr (.inl (by rw [List.mem_singleton.1 e]; rfl)))))⟩
    exact k1.trans (kept_setCell (owns B (.slice (some ⟨g, 0, none⟩) n cap) (l1 ++ f :: l2)) _ _ _ _ (mem_owns.2 (.inl rfl))) (fun x hx => .inl hx)
  · intro k hkk
    left
    rw [(owns_mid B (.slice (some ⟨g, 0, none⟩) n cap) l1 l2 f).mem_iff]
    exact List.mem_append.2 (.inr hkk)

end Go.Proofs.YtffgolanmaenfacGreatDoor

namespace Go.Proofs.YtffgolanmaenfacGreatDoor
open Go.RowKit
set_option linter.unusedSimpArgs false
set_option linter.unusedVariables false

set_option maxHeartbeats 400000 in
theorem Clone_any (s : ByteArray) (w : World) (hs : s.size ≤ 1000) :
    Calls Tryz.prog 83 #[.string s] w fun e w' => e = .returned (.string s) ∧ Below w.heap.size w w' := by
  have hcon := Tryz.stringslite_Clone s w (by omega)
  go_enter Tryz.func83, Tryz.ntmps83
  go_wp2_with (go_at_call 125; refine hcon.mono ?_; rintro e w' ⟨rfl, hb'⟩)
  go_ret
  exact ⟨rfl, hb'⟩

theorem info258 : (Tryz.prog.info? 258).map (fun i => (i.zero, i.size, i.bytes)) = some (some (.agg #[.string ⟨#[]⟩, .slice none 0 0]), 2, 40) := by kernel_rfl

/-- There is one called so. -/
theorem create_there (name : ByteArray) (B : Nat) (own : List Nat) (st : List AFile) (w : World) (hr : St w B own st) (hl : st.length ≤ 1000) (h0 : 0 ≤ fInt name st) :
    Calls Tryz.prog 203 #[.pointer (some ⟨B, 0, none⟩), .string name] w fun e w' => e = .returned (.int .i64 5) ∧ Below w.heap.size w w' := by
  have hcon := find_any name B own st w hr hl
  generalize fInt name st = res at hcon h0
  go_enter Tryz.func203, Tryz.ntmps203
  go_wp2_with (go_at_call 204; refine hcon.mono ?_; rintro e w' ⟨rfl, hb'⟩)
  go_ret
  exact ⟨rfl, hb'⟩

/-- No room. -/
theorem create_full (name : ByteArray) (B : Nat) (own : List Nat) (st : List AFile) (w : World) (hr : St w B own st) (hl : st.length ≤ 1000) (h0 : fInt name st < 0) (h6 : 6 ≤ st.length) :
    Calls Tryz.prog 203 #[.pointer (some ⟨B, 0, none⟩), .string name] w fun e w' => e = .returned (.int .i64 7) ∧ Below w.heap.size w w' := by
  have hcon := find_any name B own st w hr hl
  obtain ⟨v, fs, hr, rfl, rfl⟩ := hr
  have hc := hr.cellB
  have hB : B < w.heap.size := hr.lt (mem_owns.2 (.inl rfl))
  have hlen : fs.length ≤ 1000 := by simpa using hl
  have h6' : (6 : Int) ≤ (fs.length : Int) := by simp at h6; omega
  obtain ⟨a, cap, rfl⟩ := row_form hr.row
  generalize fInt name (fs.map FV.abs) = res at hcon h0
  clear hr h6 hl
  go_enter Tryz.func203, Tryz.ntmps203
  go_wp2_with fail
  refine hcon.mono ?_
  rintro e w1 ⟨rfl, b1⟩
  have hc1 := (b1.cell (p := ⟨B, 0, none⟩) hB).trans hc
  clear hc
  go_wp2
  go_ret
  exact ⟨rfl, b1⟩

set_option maxRecDepth 100000 in
set_option maxHeartbeats 2000000 in
theorem create_new (name : ByteArray) (B : Nat) (own : List Nat) (st : List AFile) (w : World) (hr : St w B own st) (h0 : fInt name st < 0) (h6 : st.length < 6) (hs : name.size ≤ 1000) :
    Calls Tryz.prog 203 #[.pointer (some ⟨B, 0, none⟩), .string name] w fun e w' => e = .returned (.int .i64 0) ∧ Turned w B own w' (st ++ [⟨name, ByteArray.empty⟩]) := by
  obtain ⟨i0, hi0, hz0, hz1, hz2⟩ := info_parts info258
  have hcon := find_any name B own st w hr (by omega)
  obtain ⟨v, fs, hr, rfl, rfl⟩ := hr
  have hc := hr.cellB
  have hB : B < w.heap.size := hr.lt (mem_owns.2 (.inl rfl))
  have h6' : (fs.length : Int) < 6 := by simp at h6; omega
  have hlen : fs.length < 6 := by simpa using h6
  obtain ⟨a, cap, rfl⟩ := row_form hr.row
  have nB := (nd_parts hr.nd).1
  have HR := hide hr
  generalize fInt name (fs.map FV.abs) = res at hcon h0
  clear hr h6
  go_enter Tryz.func203, Tryz.ntmps203
  go_wp2_with fail
  refine hcon.mono ?_
  rintro e w0 ⟨rfl, b0⟩
  have hr0 := (unhide HR).below b0
  have HR0 := hide hr0
  have HB0 := hide b0
  have hc1 := (b0.cell (p := ⟨B, 0, none⟩) hB).trans hc
  have hB0 : B < w0.heap.size := hr0.lt (mem_owns.2 (.inl rfl))
  clear hc hcon hr0
  go_wp2_with fail
  have HO : Hid (∀ wx, Below w0.drew.heap.size w0.drew wx → wx.ownsRow 0 258 2 (.slice a fs.length cap) fs.length (fs.flatMap FV.cells)) := fun wx hb => ((unhide HR0).below (w' := wx) ⟨hb.os, hb.tape, hb.output, hb.size, hb.block⟩).row
  have hf1 : w0.frozen? ⟨B, 0, none⟩ = false := (unhide HR0).frozenB
  have HF : Hid (∀ wx, Below w0.drew.heap.size w0.drew wx → Can wx B 0 (.slice a fs.length cap)) := fun wx hb => Can.below (w := w0.drew) ⟨hc1, hf1⟩ hb hB0
  go_region_law (first
      | (go_simp; go_at_call 83; refine (Clone_any name _ hs).mono ?_; rintro e w1 ⟨rfl, b1⟩; have hc2 := (HF.out w1 b1); have hc3 := hc2.1; have hf3 := hc2.2; have hzB : B < w1.heap.size := hc2.lt; clear hc2)
      | (refine step_append_lies _ (by rfl) _ _ _ (by rfl) 0 258 i0 _ 2 40 Tryz.underlying153 hi0 hz0 hz1 hz2 rfl (by omega) (.slice a fs.length cap) fs.length (fs.flatMap FV.cells) (by rfl) ((HO.out w1 b1).alloc _)
          ⟨w1.heap.size, 0, none⟩ 1 1 [.string name, .slice none 0 0] (by rfl) (by rfl) (World.news_of_block (cs := #[.string name, .slice none 0 0]) (t := 258) (fr := (0, 0)) (heap_alloc_new w1 _)) (by simp [Value.oneCell'])
          (by omega) (by unfold maxLen; omega) (by omega) (Nat.zero_le _) (w1.heap.size + 1) (by simp) ?_; intro g cap' w2 hown2 hgrow hat hlt; have hc2 := ((HF.out w1 b1).alloc _).grown hgrow nB; have hc3 := hc2.1; have hf3 := hc2.2))
  all_goals
    have hz : w.heap.size ≤ w1.heap.size := Nat.le_trans (unhide HB0).size b1.size
    have hbw : Below w.heap.size w (w1.alloc (Obj.cells #[Value.string name, Value.slice none 0 0] 258)) := ((unhide HB0).drew.trans (b1.mono (unhide HB0).size)).alloc hz _
    have hT := ((unhide HR).below hbw).push hgrow rfl hown2 (by rw [al_size]; exact hat)
    have HT := hide (hT.before hbw)
    clear hT hbw hz hown2 hgrow hat hlt hc2 hc3 hf3
    go_wp2
    go_ret
    exact ⟨rfl, unhide HT⟩

end Go.Proofs.YtffgolanmaenfacGreatDoor

namespace Go.Proofs.YtffgolanmaenfacGreatDoor
open Go.RowKit
set_option linter.unusedSimpArgs false
set_option linter.unusedVariables false

theorem info5 : (Tryz.prog.info? 5).map (fun i => (i.zero, i.size, i.bytes)) = some (some (.int .u8 0), 1, 1) := by kernel_rfl

theorem app_str_run (w : World) (v : Value) (n : Nat) (xs : List Value) (hown : w.ownsRow 0 5 1 v n xs) (s : ByteArray) (hs : 0 < s.size) (hb : n + s.size ≤ 1000) (ty : TypeId) :
    ∃ g cap w', (Builtin.append_ #[42, 9] ty #[v, .string s]).run Tryz.prog w = .ok (.slice (some ⟨g, 0, none⟩) (n + s.size) cap) w' ∧
      w'.ownsRow 0 5 1 (.slice (some ⟨g, 0, none⟩) (n + s.size) cap) (n + s.size) (xs ++ byteVals s) ∧ w.grownBy w' v.ownBlock ∧ (v.ownBlock = some g ∨ g = w.heap.size) := by
  obtain ⟨i0, hi0, hz0, hz1, hz2⟩ := info_parts info5
  obtain ⟨v', w', hr, h2, h3, h4⟩ := Lib.run_append_own_string (P := Tryz.prog) w 0 42 9 ty 5 i0 Tryz.underlying42 Tryz.underlying9 hi0 hz0 hz1 hz2 v n xs hown s (by unfold maxLen; omega) (by omega) (Nat.zero_le _)
  obtain ⟨g, cap, rfl, _, hlt⟩ := h2.form (by omega)
  refine ⟨g, cap, w', hr, h2, h3, ?_⟩
  have hxl : xs.length = n := by simpa using hown.1
  rcases hown.2 with ⟨rfl, rfl⟩ | ⟨g', cap', cur, rfl, hbg, hg, hnc, hcm, hcs, htake⟩
  · right
    have hr2 := run_append_nil_string (P := Tryz.prog) w 42 9 ty 5 i0 (.int .u8 0) Tryz.underlying42 Tryz.underlying9 hi0 hz0 s (by omega) (by omega) (by rw [hz2]; omega)
    rw [hr2] at hr
    simp at hr
    exact hr.1.1.symm
  · by_cases hroom : n + s.size ≤ cap'
    · left
      have hcs2 : cur.size = cap' := by simpa using hcs
      have hr2 := Lib.run_append_room_string (P := Tryz.prog) w 42 9 ty 5 i0 Tryz.underlying42 Tryz.underlying9 hi0 hz1 g' n cap' cur hg s hroom (by omega)
      rw [hr2] at hr
      simp at hr
      rw [← hr.1.1]; rfl
    · right
      have holds : ∀ j u, xs[j]? = some u → w.cell? ((⟨g', 0, none⟩ : Addr).add j) = some u := World.ownsRow.cells (v := .slice (some ⟨g', 0, none⟩) n cap') hown (g := g') rfl
      have hr2 := Lib.run_append_grow_string (P := Tryz.prog) w 42 9 ty 5 i0 (.int .u8 0) Tryz.underlying42 Tryz.underlying9 hi0 hz0 ⟨g', 0, none⟩ n cap' xs (by rw [hz1]; simpa using hxl) holds s (by omega) (by omega) (by rw [hz2]; exact growslice_fits (by omega) (by omega))
      rw [hr2] at hr
      simp at hr
      exact hr.1.1.symm

theorem wpList_app_str (w : World) {ops : Array Oper} {rest : List Oper} {o : Oper} {a : Act} {Q : Exit → Act → World → Prop} (hgd : o.guard = none) (sl x : Operand)
    (ho : o.op = .call { callee := .builtin .append, args := #[sl, x], argTypes := #[42, 9] })
    (v : Value) (n : Nat) (xs : List Value) (hs : a.eval sl = v) (hown : w.ownsRow 0 5 1 v n xs) (s : ByteArray) (hx : a.eval x = .string s) (hs0 : 0 < s.size) (hb : n + s.size ≤ 1000)
    (h : ∀ g cap w', w'.ownsRow 0 5 1 (.slice (some ⟨g, 0, none⟩) (n + s.size) cap) (n + s.size) (xs ++ byteVals s) → w.grownBy w' v.ownBlock → (v.ownBlock = some g ∨ g = w.heap.size) → wpList Tryz.prog ops Q rest (a.put o.dst (.slice (some ⟨g, 0, none⟩) (n + s.size) cap)) w') : wpList Tryz.prog ops Q (o :: rest) a w := by
  refine wpList_plain hgd fun K hK => ?_
  obtain ⟨g, cap, w', hr, h2, h3, h4⟩ := app_str_run w v n xs hown s hs0 hb o.type
  unfold Oper.wp execOp
  simp only [ho, resolve, invoke, builtin, Sem.run_bind, Sem.run_pure, Result.andThen_ok, List.map_toArray, List.map_cons, List.map_nil, hs, hx, hr]
  exact hK _ _ (h g cap w' h2 h3 h4)

set_option maxHeartbeats 400000 in
theorem put_full (B g n cap : Nat) (l1 l2 : List FV) (f : FV) (text : ByteArray) (w : World) (hr : Rep w B (.slice (some ⟨g, 0, none⟩) n cap) (l1 ++ f :: l2)) (hf : f.text.size ≤ 1000) (ht : text.size ≤ 1000) (h16 : 16 < f.text.size + text.size) :
    Calls Tryz.prog 207 #[.pointer (some ⟨g, l1.length * 2, none⟩), .string text] w fun e w' => e = .returned (.int .i64 7) ∧ w' = w := by
  have hc := (hr.file l1.length f mid_get).2
  obtain ⟨a, c, hv⟩ := row_form (hr.texts f (by simp))
  rw [hv] at hc
  have h16' : (16 : Int) < (f.text.size : Int) + (text.size : Int) := by omega
  clear hr hv
  go_enter Tryz.func207, Tryz.ntmps207
  go_wp2
  go_ret
  exact ⟨rfl, rfl⟩

theorem byteVals_append (s t : ByteArray) : byteVals (s ++ t) = byteVals s ++ byteVals t := by
  simp [byteVals]

theorem setAbs (l1 l2 : List FV) (f f' : FV) : (l1 ++ f' :: l2).map FV.abs = ((l1 ++ f :: l2).map FV.abs).set l1.length f'.abs := by
  simp

set_option maxHeartbeats 1000000 in
theorem put_some (B g n cap : Nat) (l1 l2 : List FV) (f : FV) (text : ByteArray) (w : World) (hr : Rep w B (.slice (some ⟨g, 0, none⟩) n cap) (l1 ++ f :: l2)) (ht : 0 < text.size) (h16 : f.text.size + text.size ≤ 16) :
    Calls Tryz.prog 207 #[.pointer (some ⟨g, l1.length * 2, none⟩), .string text] w
      fun e w' => e = .returned (.int .i64 0) ∧ Turned w B (owns B (.slice (some ⟨g, 0, none⟩) n cap) (l1 ++ f :: l2)) w' (((l1 ++ f :: l2).map FV.abs).set l1.length ⟨f.name, f.text ++ text⟩) := by
  have hc := (hr.file l1.length f mid_get).2
  have hfm : f ∈ l1 ++ f :: l2 := by simp
  have hown := hr.texts f hfm
  obtain ⟨a, c, hv⟩ := row_form hown
  have n3 := (nd_parts hr.nd).2.2
  have hne : f.tv.ownBlock ≠ some g := fun e => n3 f hfm g e rfl
  have hcan : Can w g (l1.length * 2 + 1) f.tv := ⟨hc, by
    rcases hr.row.2 with ⟨e, _⟩ | ⟨g', cap', cur, he, _, hh, _⟩
    · cases e
    · obtain ⟨rfl, _⟩ : g = g' ∧ _ := by simpa using he
      simp [World.frozen?, hh]⟩
  rw [hv] at hc
  have h16' : (f.text.size : Int) + (text.size : Int) ≤ 16 := by omega
  have HR := hide hr
  have HO := hide hown
  have HV := hide hv
  have HC := hide hcan
  clear hr hv hown hcan n3
  go_enter Tryz.func207, Tryz.ntmps207
  go_wp2_with (at_builtin; refine wpList_app_str _ rfl _ _ rfl f.tv f.text.size (byteVals f.text) ?hs (unhide HO) text rfl ht (by omega) ?_; case hs => rw [unhide HV]; rfl)
  intro g2 cap2 w2 hown2 hgrow hat
  have hcan2 := (unhide HC).grown hgrow hne
  rw [unhide HV] at hcan2
  have hc2 := hcan2.1
  have hf2 := hcan2.2
  have hT : Turned w B (owns B (.slice (some ⟨g, 0, none⟩) n cap) (l1 ++ f :: l2)) (w2.setCell ⟨g, l1.length * 2 + 1, none⟩ (.slice (some ⟨g2, 0, none⟩) (f.text.size + text.size) cap2)) (((l1 ++ f :: l2).map FV.abs).set l1.length ⟨f.name, f.text ++ text⟩) := by
    have := (unhide HR).setFile (f' := ⟨f.name, .slice (some ⟨g2, 0, none⟩) (f.text.size + text.size) cap2, f.text ++ text⟩) 1 (by omega) (.slice (some ⟨g2, 0, none⟩) (f.text.size + text.size) cap2) (by simp [FV.cells]) hgrow
      (by simp only [ByteArray.size_append, byteVals_append]; exact hown2) (by rcases hat with h | h; exact .inl h.symm; right; rw [h]; rfl)
    rw [setAbs l1 l2 f] at this
    exact this
  have HT := hide hT
  clear hT hcan2 hown2 hgrow hat hc
  go_wp2
  go_ret
  exact ⟨rfl, unhide HT⟩

end Go.Proofs.YtffgolanmaenfacGreatDoor

namespace Go.Proofs.YtffgolanmaenfacGreatDoor
open Go.RowKit
set_option linter.unusedSimpArgs false
set_option linter.unusedVariables false

theorem rename_there (at_ : Int) (tn : ByteArray) (B : Nat) (own : List Nat) (st : List AFile) (w : World) (hr : St w B own st) (hl : st.length ≤ 1000) (h0 : 0 ≤ fInt tn st) :
    Calls Tryz.prog 206 #[.pointer (some ⟨B, 0, none⟩), .int .i64 at_, .string tn] w fun e w' => e = .returned (.int .i64 5) ∧ Below w.heap.size w w' := by
  have hcon := find_any tn B own st w hr hl
  generalize fInt tn st = res at hcon h0
  go_enter Tryz.func206, Tryz.ntmps206
  go_wp2_with (go_at_call 204; refine hcon.mono ?_; rintro e w' ⟨rfl, hb'⟩)
  go_ret
  exact ⟨rfl, hb'⟩

theorem Rep.can {w : World} {B g n cap : Nat} {fs : List FV} (hr : Rep w B (.slice (some ⟨g, 0, none⟩) n cap) fs) (j : Nat) (f : FV) (hf : fs[j]? = some f) : Can w g (j * 2) (.string f.name) ∧ Can w g (j * 2 + 1) f.tv := by
  have hz : ∀ o, w.frozen? ⟨g, o, none⟩ = false := fun o => by
    rcases hr.row.2 with ⟨e, _⟩ | ⟨g', cap', cur, he, _, hh, _⟩
    · cases e
    · obtain ⟨rfl, _⟩ : g = g' ∧ _ := by simpa using he
      simp [World.frozen?, hh]
  obtain ⟨h1, h2⟩ := hr.file j f hf
  exact ⟨⟨h1, hz _⟩, ⟨h2, hz _⟩⟩

set_option maxRecDepth 100000 in
set_option maxHeartbeats 2000000 in
theorem rename_new (tn : ByteArray) (B g n cap : Nat) (l1 l2 : List FV) (f : FV) (w : World) (hr : Rep w B (.slice (some ⟨g, 0, none⟩) n cap) (l1 ++ f :: l2)) (hn : n = (l1 ++ f :: l2).length) (hl : n ≤ 1000)
    (h0 : fInt tn ((l1 ++ f :: l2).map FV.abs) < 0) (hs : tn.size ≤ 1000) :
    Calls Tryz.prog 206 #[.pointer (some ⟨B, 0, none⟩), .int .i64 (l1.length : Int), .string tn] w
      fun e w' => e = .returned (.int .i64 0) ∧ Turned w B (owns B (.slice (some ⟨g, 0, none⟩) n cap) (l1 ++ f :: l2)) w' (((l1 ++ f :: l2).map FV.abs).set l1.length ⟨tn, f.text⟩) := by
  have hcon := find_any tn B _ _ w ⟨_, _, hr, rfl, rfl⟩ (by simp at hn ⊢; omega)
  have hcB : Can w B 0 (.slice (some ⟨g, 0, none⟩) n cap) := ⟨hr.cellB, hr.frozenB⟩
  have hcF := (hr.can l1.length f mid_get).1
  have HR := hide hr
  have hln : (l1.length : Int) < (n : Int) := by rw [hn]; simp; omega
  have hl0 : (0 : Int) ≤ (l1.length : Int) := by omega
  generalize fInt tn ((l1 ++ f :: l2).map FV.abs) = res at hcon h0
  have HCB := hide hcB
  have HCF := hide hcF
  have HN := hide hn
  clear hr hcB hcF hn
  go_enter Tryz.func206, Tryz.ntmps206
  go_wp2_with fail
  refine hcon.mono ?_
  rintro e w0 ⟨rfl, b0⟩
  have hb0 := (unhide HCB).below b0 (unhide HCB).lt
  have hf0 := (unhide HCF).below b0 (unhide HCF).lt
  have HR0 := hide ((unhide HR).below b0)
  have HB0 := hide b0
  have hc1 := hb0.1
  have hc2 := hf0.1
  have hc3 := hf0.2
  have HF : Hid (∀ wx, Below w0.drew.heap.size w0.drew wx → Can wx B 0 (.slice (some ⟨g, 0, none⟩) n cap) ∧ Can wx g (l1.length * 2) (.string f.name)) := fun wx hb => ⟨Can.below (w := w0.drew) hb0 hb hb0.lt, Can.below (w := w0.drew) hf0 hb hf0.lt⟩
  clear hcon b0 hb0 hf0
  go_wp2_with fail
  go_region_law (go_simp; go_at_call 83; refine (Clone_any tn _ hs).mono ?_; rintro e w1 ⟨rfl, b1⟩; have hq := (HF.out w1 b1); have hq1 := hq.1.1; have hq2 := hq.2.1; have hq3 := hq.2.2; clear hq)
  all_goals
    have hz : w.heap.size ≤ w1.heap.size := Nat.le_trans (unhide HB0).size b1.size
    have hbw : Below w.heap.size w w1 := (unhide HB0).drew.trans (b1.mono (unhide HB0).size)
    have hr1 := (unhide HR).below hbw
    have hT := hr1.setFile (f' := ⟨tn, f.tv, f.text⟩) 0 (by omega) (.string tn) (by simp [FV.cells]) (w1 := w1) ⟨rfl, rfl, rfl, Nat.le_refl _, fun _ _ _ => rfl⟩ (hr1.texts f (by simp)) (.inl rfl)
    rw [setAbs l1 l2 f] at hT
    have HT := hide (hT.before hbw)
    clear hT hbw hz hr1
    go_wp2
    go_ret
    exact ⟨rfl, unhide HT⟩

end Go.Proofs.YtffgolanmaenfacGreatDoor

namespace Go.Proofs.YtffgolanmaenfacGreatDoor
open Go.RowKit
set_option linter.unusedSimpArgs false
set_option linter.unusedVariables false

def zeroFile : List Value := [.string ⟨#[]⟩, .slice none 0 0]

theorem run_clear_file (w : World) (ty : TypeId) (b o c : Nat) (hc : ∀ j, j < 2 → (w.cell? ⟨b, o + j, none⟩).isSome = true) (hf : ∀ j, j < 2 → w.frozen? ⟨b, o + j, none⟩ = false) :
    (Builtin.clear_ #[153] ty #[.slice (some ⟨b, o, none⟩) 1 c]).run Tryz.prog w = .ok (.tuple #[]) (w.setCells b o zeroFile) := by
  have hz : (Builtin.zeroCells (Value.cells (.agg #[.string ⟨#[]⟩, .slice none 0 0])) 1).toList = zeroFile := by kernel_rfl
  have hst := run_storeCells_cells (P := Tryz.prog) b o zeroFile 0 w (by simpa [zeroFile] using hc) (by simpa [zeroFile] using hf) (by intro v hv; simp [zeroFile] at hv; rcases hv with rfl | rfl <;> rfl)
  simp only [Nat.add_zero] at hst
  have hv : ∀ w, (zeroValue 258).run Tryz.prog w = .ok (.agg #[.string ⟨#[]⟩, .slice none 0 0]) w := fun w => by have := Tryz.zeroValue258 w; exact this
  simp [Builtin.clear_, run_underlying Tryz.underlying153, hv, hz, hst]

/-- The world behind: what stood behind is one place nearer; the last place is empty. -/
def delWorld (w : World) (g n i : Nat) (news : List Value) : World := (w.setCells g (i * 2) news).setCells g ((n - 1) * 2) zeroFile

set_option maxRecDepth 1000000 in
set_option maxHeartbeats 2000000 in
theorem Delete_any (g n cap i : Nat) (news : List Value) (w : World) (hi : i < n) (hnc : n ≤ cap) (hcm : cap ≤ maxLen) (hn : n ≤ 1000)
    (hl : news.length = (n - (i + 1)) * 2) (hsrc : ∀ t u, news[t]? = some u → w.cell? ⟨g, (i + 1) * 2 + t, none⟩ = some u) (hone : ∀ u, u ∈ news → u.oneCell' = true)
    (hrow : ∀ o, o < n * 2 → (w.cell? ⟨g, o, none⟩).isSome = true ∧ w.frozen? ⟨g, o, none⟩ = false) :
    Calls Tryz.prog 205 #[.slice (some ⟨g, 0, none⟩) n cap, .int .i64 (i : Int), .int .i64 ((i : Int) + 1)] w
      fun e w' => e = .returned (.slice (some ⟨g, 0, none⟩) (n - 1) cap) ∧ w' = delWorld w.drew g n i news := by
  obtain ⟨i0, hi0, hz0, hz1, hz2⟩ := info_parts info258
  unfold maxLen at hcm
  have h1 : ¬ ((i : Int) = (i : Int) + 1) := by omega
  have h2 : ((i : Int) == (i : Int) + 1) = false := by simp; omega
  obtain ⟨A, hA, hsrc2⟩ : ∃ A : Addr, (if cap = i + 1 then some (⟨g, 0, none⟩ : Addr) else some ⟨g, (i + 1) * 2, none⟩) = some A ∧ Hid (∀ t u, news[t]? = some u → w.drew.cell? (A.add t) = some u) := by
    by_cases h : cap = i + 1
    · refine ⟨⟨g, 0, none⟩, by simp [h], fun t u hu => ?_⟩
      have h0 : news.length = 0 := by rw [hl]; omega
      rw [List.length_eq_zero_iff.1 h0] at hu
      simp at hu
    · refine ⟨⟨g, (i + 1) * 2, none⟩, by simp [h], fun t u hu => ?_⟩
      have e : (⟨g, (i + 1) * 2, none⟩ : Addr).add t = ⟨g, (i + 1) * 2 + t, none⟩ := by unfold Addr.add; split <;> simp_all
      rw [e]
      exact hsrc t u hu
  have s1 : Hid (news.length = (n - (i + 1)) * 2) := hl
  have s2 : Hid (∀ u ∈ news, u.oneCell' = true) := fun u hu => hone u hu
  have s3 : Hid (∀ t, t < news.length → (w.drew.cell? ⟨g, 0 + i * 2 + t, none⟩).isSome = true ∧ w.drew.frozen? ⟨g, 0 + i * 2 + t, none⟩ = false) := by
    intro t ht
    rw [hl] at ht
    rw [Nat.zero_add]
    exact hrow _ (by omega)
  obtain ⟨W1, hW1⟩ : ∃ W1, W1 = w.drew.setCells g (0 + i * 2) news := ⟨_, rfl⟩
  have hcl : ∀ ty, (Builtin.clear_ #[153] ty #[.slice (some ⟨g, (i + (n - (i + 1))) * 2, none⟩) (n - (i + (n - (i + 1)))) (cap - (i + (n - (i + 1))))]).run Tryz.prog W1 = .ok (.tuple #[]) (W1.setCells g ((n - 1) * 2) zeroFile) := by
    intro ty
    have e1 : i + (n - (i + 1)) = n - 1 := by omega
    have e2 : n - (n - 1) = 1 := by omega
    rw [e1, e2]
    refine run_clear_file W1 ty g ((n - 1) * 2) _ (fun j hj => ?_) (fun j hj => ?_)
    · rw [hW1]
      exact World.isSome_setCells g _ _ _ _ (hrow _ (by omega)).1
    · rw [hW1, World.frozen?_setCells]
      exact (hrow _ (by omega)).2
  have HW : Hid (W1 = w.drew.setCells g (0 + i * 2) news) := hW1
  have HD : Hid (W1.setCells g ((n - 1) * 2) zeroFile = delWorld w.drew g n i news) := by rw [hW1]; unfold delWorld; rw [Nat.zero_add]; exact rfl
  clear hW1 hl hsrc hone hrow
  have hic : i ≤ cap := by omega
  have hjc : i + 1 ≤ cap := by omega
  have hb1 : (0 : Int) ≤ (i : Int) + 1 := by omega
  have hb2 : (i : Int) + 1 ≤ (n : Int) := by omega
  go_enter Tryz.func205, Tryz.ntmps205
  go_wp2_with fail
  go_region_law (refine step_append_room rfl (.tmp 22) (.tmp 25) 153 rfl 258 i0 2 Tryz.underlying153 hi0 hz1 g 0 i cap (by simp [Act.eval, Act.put]) A (n - (i + 1)) (cap - (i + 1)) news (by simp [Act.eval, Act.put]) s1.out hsrc2.out s2.out (by omega) s3.out ?_; rw [← HW.out])
  go_wp2
  go_ret
  refine ⟨?_, HD.out⟩
  rw [show n - 1 = i + (n - (i + 1)) by omega]
  rfl


def putList (c : Array Value) : Nat → List Value → Array Value
  | _, [] => c
  | o, v :: r => putList (c.setIfInBounds o v) (o + 1) r

theorem heap_setCells (b : Nat) (e : TypeId) (fr : Nat × Nat) : ∀ (vs : List Value) (o : Nat) (w : World) (c : Array Value), w.heap[b]? = some (.cells c e fr) → (w.setCells b o vs).heap[b]? = some (.cells (putList c o vs) e fr)
  | [], _, _, _, h => h
  | v :: r, o, w, c, h => heap_setCells b e fr r (o + 1) _ _ (heap_setCell_same h v)

theorem kept_setCells (b : Nat) : ∀ (vs : List Value) (o : Nat) (w : World), Kept [b] w (w.setCells b o vs)
  | [], _, w => Kept.refl _ _
  | v :: r, o, w => (kept_setCell [b] w b o v (by simp)).trans (kept_setCells b r (o + 1) _) (fun x hx => .inl hx)

theorem putList_size : ∀ (vs : List Value) (o : Nat) (c : Array Value), (putList c o vs).size = c.size
  | [], _, _ => rfl
  | v :: r, o, c => by rw [putList, putList_size r]; simp

theorem putList_toList : ∀ (vs : List Value) (o : Nat) (c : Array Value), o + vs.length ≤ c.size → (putList c o vs).toList = c.toList.take o ++ vs ++ c.toList.drop (o + vs.length)
  | [], o, c, h => by simp [putList]
  | v :: r, o, c, h => by
    simp at h
    rw [putList, putList_toList r (o + 1) _ (by simp; omega), Array.toList_setIfInBounds]
    have ho : o < c.toList.length := by simp; omega
    have e1 : (c.toList.set o v).take (o + 1) = c.toList.take o ++ [v] := by
      rw [List.take_set, List.take_add_one, List.getElem?_eq_getElem ho]
      have : (c.toList.take o).length = o := by simp; omega
      simp
      rw [List.set_append_right _ _ (by omega), this]
      simp
    have e2 : (c.toList.set o v).drop (o + 1 + r.length) = c.toList.drop (o + (v :: r).length) := by
      rw [List.drop_set_of_lt (by omega)]
      simp
      congr 1
      omega
    rw [e1, e2]
    simp

theorem flat_one {l : List FV} (h : ∀ f, f ∈ l → f.tv.oneCell' = true) : ∀ u, u ∈ l.flatMap FV.cells → u.oneCell' = true := by
  intro u hu
  obtain ⟨f, hf, hu⟩ := List.mem_flatMap.1 hu
  simp [FV.cells] at hu
  rcases hu with rfl | rfl
  · rfl
  · exact h f hf

/-- What Do's branch of CRemove calls, and what it is worth. -/
theorem Delete_rep (B g n cap : Nat) (l1 l2 : List FV) (f : FV) (w : World) (hr : Rep w B (.slice (some ⟨g, 0, none⟩) n cap) (l1 ++ f :: l2)) (hn : n = (l1 ++ f :: l2).length) (hl : n ≤ 1000) :
    Calls Tryz.prog 205 #[.slice (some ⟨g, 0, none⟩) n cap, .int .i64 (l1.length : Int), .int .i64 ((l1.length : Int) + 1)] w
      fun e w' => e = .returned (.slice (some ⟨g, 0, none⟩) (n - 1) cap) ∧ Can w' B 0 (.slice (some ⟨g, 0, none⟩) n cap) ∧ w.heap.size ≤ w'.heap.size ∧
        Turned w B (owns B (.slice (some ⟨g, 0, none⟩) n cap) (l1 ++ f :: l2)) (w'.setCell ⟨B, 0, none⟩ (.slice (some ⟨g, 0, none⟩) (n - 1) cap)) ((l1 ++ l2).map FV.abs) := by
  have hn1 : n = l1.length + l2.length + 1 := by rw [hn]; simp; omega
  obtain ⟨hlen, h2⟩ := hr.row
  rcases h2 with ⟨e, _⟩ | ⟨g', cap', cur, he, _, hh, hnc, hcm, hcs, htk⟩
  · cases e
  obtain ⟨rfl, _, rfl⟩ : g = g' ∧ n = (l1 ++ f :: l2).length ∧ cap = cap' := by simpa using he
  rw [← hn] at hnc htk
  have hcell : ∀ o, w.cell? ⟨g, o, none⟩ = cur[o]? := fun o => by simp [World.cell?, hh]
  have hfz : ∀ o, w.frozen? ⟨g, o, none⟩ = false := fun o => by simp [World.frozen?, hh]
  have hflat : (l1 ++ f :: l2).flatMap FV.cells = l1.flatMap FV.cells ++ (f.cells ++ l2.flatMap FV.cells) := by simp
  have hfl : f.cells.length = 2 := rfl
  have hgB : g ≠ B := fun e => (nd_parts hr.nd).1 (by rw [e]; rfl)
  have hsz : n * 2 ≤ cur.size := by rw [hcs]; omega
  have hget : ∀ o, o < n * 2 → cur[o]? = ((l1 ++ f :: l2).flatMap FV.cells)[o]? := fun o ho => by
    rw [← htk, List.getElem?_take, if_pos ho]; simp
  have h3 : ∀ u, u ∈ l2.flatMap FV.cells → u.oneCell' = true := flat_one fun y hy => by
    obtain ⟨a, c, hv⟩ := row_form (hr.texts y (by simp [hy]))
    rw [hv]; rfl
  have hcon := Delete_any g n cap l1.length (l2.flatMap FV.cells) w (by omega) hnc hcm hl (by rw [flat_len]; omega)
    (fun t u hu => by
      have ht : t < l2.length * 2 := by have := (List.getElem?_eq_some_iff.1 hu).1; rwa [flat_len] at this
      rw [hcell, hget _ (by omega), hflat, List.getElem?_append_right (by rw [flat_len]; omega), flat_len, List.getElem?_append_right (by rw [hfl]; omega), hfl]
      rw [show (l1.length + 1) * 2 + t - l1.length * 2 - 2 = t by omega]
      exact hu) h3
    (fun o ho => ⟨by rw [hcell, Array.getElem?_eq_getElem (by omega)]; rfl, hfz o⟩)
  refine hcon.mono ?_
  rintro e w' ⟨rfl, rfl⟩
  have hk : Kept [g] w (delWorld w.drew g n l1.length (l2.flatMap FV.cells)) := by
    have h0 : Kept [g] w w.drew := ⟨rfl, rfl, rfl, Nat.le_refl _, fun _ _ _ => rfl⟩
    exact (h0.trans (kept_setCells g _ _ _) (fun x hx => .inl hx)).trans (kept_setCells g _ _ _) (fun x hx => .inl hx)
  have hB : B < w.heap.size := hr.lt (mem_owns.2 (.inl rfl))
  have hlz : zeroFile.length = 2 := rfl
  refine ⟨rfl, ⟨?_, ?_⟩, hk.size, hr.erase hk (by simp; omega) ?_⟩
  · rw [hk.cell hB (by simpa using Ne.symm hgB)]; exact hr.cellB
  · rw [hk.frozen hB (by simpa using Ne.symm hgB)]; exact hr.frozenB
  · have hh1 : (delWorld w.drew g n l1.length (l2.flatMap FV.cells)).heap[g]? = some (.cells (putList (putList cur (l1.length * 2) (l2.flatMap FV.cells)) ((n - 1) * 2) zeroFile) 258 (0, 0)) :=
      heap_setCells g 258 (0, 0) _ _ _ _ (heap_setCells g 258 (0, 0) _ _ _ _ hh)
    have hm : (l1 ++ l2).length = n - 1 := by simp; omega
    refine ⟨by rw [flat_len, hm], .inr ⟨g, cap, _, rfl, Nat.zero_le _, hh1, by omega, hcm, by rw [putList_size, putList_size]; exact hcs, ?_⟩⟩
    have e1 := putList_toList (l2.flatMap FV.cells) (l1.length * 2) cur (by rw [flat_len]; omega)
    have e2 := putList_toList zeroFile ((n - 1) * 2) (putList cur (l1.length * 2) (l2.flatMap FV.cells)) (by rw [putList_size, hlz]; omega)
    have e3 : cur.toList.take (l1.length * 2) = l1.flatMap FV.cells := by
      have : cur.toList.take (l1.length * 2) = (cur.toList.take (n * 2)).take (l1.length * 2) := by rw [List.take_take]; congr 1; omega
      rw [this, htk, hflat, List.take_left' (flat_len l1)]
    rw [e2, List.append_assoc, List.take_append_of_le_length (by rw [List.length_take, Array.length_toList, putList_size]; omega), List.take_take, Nat.min_self, e1, e3,
      List.take_append_of_le_length (by rw [List.length_append, flat_len, flat_len]; omega), List.take_of_length_le (by rw [List.length_append, flat_len, flat_len]; omega)]
    simp

end Go.Proofs.YtffgolanmaenfacGreatDoor

namespace Go.Proofs.YtffgolanmaenfacGreatDoor
open Go.RowKit
set_option linter.unusedSimpArgs false
set_option linter.unusedVariables false

/-- A list of texts, rising. -/
def sortB (xs : List ByteArray) : List ByteArray := ((xs.map fun x => x.data.toList).mergeSort fun x y => decide (x ≤ y)).map fun l => ⟨l.toArray⟩
/-- The names, rising. -/
def sNames (st : List AFile) : List ByteArray := sortB (st.map AFile.name)

theorem sortB_length (xs : List ByteArray) : (sortB xs).length = xs.length := by
  simp [sortB, (List.mergeSort_perm _ _).length_eq]

theorem put_toList (g : Nat) (L : List (List UInt8)) (c : Array Value) (h : L.length ≤ c.size) : (Sort.putCells encStr 0 L.toArray c).toList.take L.length = L.map encStr := by
  apply List.ext_getElem?
  intro i
  rw [List.getElem?_take]
  by_cases hi : i < L.length
  · rw [if_pos hi]
    simp only [Array.getElem?_toList, Sort.putCells, Array.getElem?_mapIdx]
    rw [Array.getElem?_eq_getElem (by omega)]
    simp [hi]
  · rw [if_neg hi, List.getElem?_eq_none (by simp; omega)]

theorem Sort_own (N g cap : Nat) (xs : List ByteArray) (w : World) (hown : w.ownsRow N 9 1 (.slice (some ⟨g, 0, none⟩) xs.length cap) xs.length (xs.map .string)) (hl : xs.length ≤ 1000) :
    Calls Tryz.prog 202 #[.slice (some ⟨g, 0, none⟩) xs.length cap] w
      fun e w' => e = .returned (.tuple #[]) ∧ w'.ownsRow N 9 1 (.slice (some ⟨g, 0, none⟩) xs.length cap) xs.length ((sortB xs).map .string) ∧ Kept [g] w w' := by
  obtain ⟨hlen, h2⟩ := hown
  rcases h2 with ⟨e, _⟩ | ⟨g', cap', cur, he, hN, hh, hnc, hcm, hcs, htk⟩
  · cases e
  obtain ⟨rfl, rfl⟩ : g = g' ∧ cap = cap' := by simpa using he
  have hG : g < w.heap.size := (Array.getElem?_eq_some_iff.1 hh).1
  have hcs' : cur.size = cap := by simpa using hcs
  have hL : (xs.map fun x => x.data.toList).length = xs.length := by simp
  have hcon := Tryz.slices_Sort_string g 0 cap (xs.map fun x => x.data.toList) w (fun j hj => by
    have hj' : j < xs.length := by simpa using hj
    refine ⟨?_, by simp [World.frozen?, hh]⟩
    have : cur.toList[j]? = some (.string xs[j]) := by
      have h1 : (cur.toList.take (xs.length * 1))[j]? = (xs.map Value.string)[j]? := by rw [htk]
      rw [List.getElem?_take, if_pos (by omega)] at h1
      rw [h1]; simp [hj']
    simp [World.cell?, hh]
    rw [show cur[j]? = some (.string xs[j]) by simpa using this]
    simp [hj']) hG (by rw [hL]; omega)
  rw [hL] at hcon
  refine hcon.mono ?_
  rintro e w' ⟨rfl, q, os, rfl⟩
  have hls : ((xs.map fun x => x.data.toList).mergeSort fun x y => decide (x ≤ y)).length = xs.length := by simp [(List.mergeSort_perm _ _).length_eq]
  have hsz : (Sort.putRow encStr (Sort.ahead w q) g 0 ((xs.map fun x => x.data.toList).mergeSort fun x y => decide (x ≤ y)).toArray).heap.size = w.heap.size := by
    simp [Sort.putRow, Sort.mapBlock, Sort.ahead]
  have hblk : ∀ k, k < w.heap.size → (Sort.grow (Sort.putRow encStr (Sort.ahead w q) g 0 ((xs.map fun x => x.data.toList).mergeSort fun x y => decide (x ≤ y)).toArray) os).heap[k]? =
      if g = k then (w.heap[k]?).map (Sort.onCells (Sort.putCells encStr 0 ((xs.map fun x => x.data.toList).mergeSort fun x y => decide (x ≤ y)).toArray)) else w.heap[k]? := fun k hk => by
    rw [Sort.heap_grow_old _ _ (by rw [hsz]; exact hk)]
    simp only [Sort.putRow, Sort.mapBlock, Sort.ahead, Array.getElem?_modify]
  refine ⟨rfl, ⟨by simp [sortB_length], .inr ⟨g, cap, Sort.putCells encStr 0 ((xs.map fun x => x.data.toList).mergeSort fun x y => decide (x ≤ y)).toArray cur, rfl, hN, ?_, hnc, hcm, ?_, ?_⟩⟩, ?_⟩
  · rw [hblk g hG, if_pos rfl, hh]; rfl
  · simp [Sort.putCells, hcs']
  · have := put_toList g ((xs.map fun x => x.data.toList).mergeSort fun x y => decide (x ≤ y)) cur (by rw [hls]; omega)
    rw [hls] at this
    rw [Nat.mul_one, this]
    simp [sortB]
  · exact ⟨rfl, rfl, rfl, by rw [Sort.size_grow, hsz]; omega, fun k hk hn => by rw [hblk k hk, if_neg (by simpa using Ne.symm (by simpa using hn : k ≠ g))]⟩


theorem info9 : (Tryz.prog.info? 9).map (fun i => (i.zero, i.size, i.bytes)) = some (some (.string ⟨#[]⟩), 1, 16) := by kernel_rfl

theorem take_snoc_map (fs : List FV) (k : Nat) (x : FV) (hx : fs[k]? = some x) : ((fs.map FV.name).take (k + 1)).map Value.string = ((fs.map FV.name).take k).map Value.string ++ [.string x.name] := by
  rw [List.take_add_one, List.getElem?_map, hx]
  simp

set_option maxRecDepth 100000 in
set_option maxHeartbeats 2000000 in
theorem Names_any (B : Nat) (own : List Nat) (st : List AFile) (w : World) (hr : St w B own st) (hl : st.length ≤ 1000) (hs : ∀ f, f ∈ st → f.name.size ≤ 1000) :
    Calls Tryz.prog 179 #[.pointer (some ⟨B, 0, none⟩)] w
      fun e w' => ∃ g cap, e = .returned (.slice (some ⟨g, 0, none⟩) st.length cap) ∧ w'.ownsRow w.heap.size 9 1 (.slice (some ⟨g, 0, none⟩) st.length cap) st.length ((sNames st).map .string) ∧ Below w.heap.size w w' := by
  obtain ⟨i0, hi0, hz0, hz1, hz2⟩ := info_parts info9
  obtain ⟨v, fs, hr, rfl, rfl⟩ := hr
  have hnm : (fs.map FV.abs).map AFile.name = fs.map FV.name := by simp [FV.abs, Function.comp_def]
  have hlen : fs.length ≤ 1000 := by simpa using hl
  rw [List.length_map]
  have hs2 : Hid (∀ (k : Nat) (x : FV), fs[k]? = some x → x.name.size ≤ 1000) := fun k x hx => hs x.abs (List.mem_map.2 ⟨x, List.mem_of_getElem? hx, rfl⟩)
  have hB : B < w.heap.size := hr.lt (mem_owns.2 (.inl rfl))
  have hc := hr.cellB
  obtain ⟨a, cap, rfl⟩ := row_form hr.row
  have HR := hide hr
  have HN := hide hnm
  clear hr hs hl hnm
  go_enter Tryz.func179, Tryz.ntmps179
  go_wp2_with (refine wpList_make_own _ rfl _ _ 22 rfl w.heap.size 9 i0 _ 1 Tryz.underlying22 hi0 hz0 hz1 .i64 .i64 (fs.length : Int) fs.length rfl rfl rfl (by rw [hz2]; omega) (by unfold maxLen; omega) (Nat.le_refl _) ?_)
  intro w0 hown0 hgr0
  have b0 : Below w.heap.size w w0 := (Below.refl _ _).grown hgr0 (Nat.le_refl _) (by simp)
  have hc0 := (b0.cell (p := ⟨B, 0, none⟩) hB).trans hc
  have HO0 := hide hown0
  have HB0 := hide b0
  clear hc hown0 b0 hgr0
  go_wp2
  go_loopw [3, 5, 17] (fun nv _ i wr => ∃ k : Nat, k ≤ fs.length ∧ i = .int .i64 k ∧ Hid (Below w.heap.size w wr) ∧ Hid (∃ g c, nv = .slice (some ⟨g, 0, none⟩) k c) ∧ Hid (wr.ownsRow w.heap.size 9 1 nv k (((fs.map FV.name).take k).map .string))) (fun _ _ i _ => fs.length - (intOf i).toNat)
  case atStart => exact ⟨0, Nat.zero_le _, rfl, unhide HB0, ⟨_, _, rfl⟩, (by simpa using unhide HO0 : w0.ownsRow w.heap.size 9 1 (Value.slice (some ⟨w.heap.size, 0, none⟩) 0 fs.length) 0 (((fs.map FV.name).take 0).map .string))⟩
  case round =>
    obtain ⟨k, hk, rfl, HB, ⟨g1, c1, rfl⟩, HO⟩ := hrel
    by_cases hlt : k < fs.length
    · obtain ⟨x, hx⟩ : ∃ x, fs[k]? = some x := ⟨_, List.getElem?_eq_getElem hlt⟩
      have hrw := (unhide HR).below (unhide HB)
      rcases hrw.row.2 with ⟨he, h0⟩ | ⟨g, cap', cur, he, _⟩
      · omega
      obtain ⟨rfl, rfl⟩ : a = some ⟨g, 0, none⟩ ∧ cap = cap' := by simpa using he
      obtain ⟨hx0, hx1⟩ := hrw.file k x hx
      have hgz : g < wr.heap.size := World.block_lt_of_cell? wr _ hx0
      obtain ⟨ta, tc, htv⟩ := row_form (hrw.texts x (List.mem_of_getElem? hx))
      rw [htv] at hx1
      have hxs := unhide hs2 k x hx
      have HX := hide hx
      have hwz := (unhide HB).size
      clear hx hrw he htv
      generalize x.text.size = ts at hx1
      have HL : Hid (∀ (wx : World) (o : Obj), Below (wr.heap.size + 1) (wr.alloc o) wx → wx.ownsRow w.heap.size 9 1 (.slice (some ⟨g1, 0, none⟩) k c1) k (((fs.map FV.name).take k).map .string)) := fun wx o hb =>
        ownsRow_same ((unhide HO).alloc o) (fun j hj => hb.block j (by have := (((unhide HO).alloc o).lt j hj).2; simpa using this))
      go_wp2_with (first
        | (at_builtin; refine wpList_append_lies _ rfl _ _ 22 rfl w.heap.size 9 i0 _ 1 16 Tryz.underlying22 hi0 hz0 hz1 hz2 rfl (by omega) (.slice (some ⟨g1, 0, none⟩) k c1) k (((fs.map FV.name).take k).map .string) rfl ((HL.out w1 _ b1').alloc _)
            ⟨w1.heap.size, 0, none⟩ 1 1 [.string x.name] rfl rfl (World.news_of_block (cs := #[.string x.name]) (t := 9) (fr := (0, 0)) (heap_alloc_new w1 _)) (by simp [Value.oneCell'])
            (by omega) (by unfold maxLen; omega) (by omega) (by have := b1.size; simp at this ⊢; omega) (w1.heap.size + 1) (by simp) ?_; intro g2 c2 w2 hown2 hgrow hat hlt2)
        | (go_at_call 83; refine (Clone_any x.name _ hxs).mono ?_; rintro e w1 ⟨rfl, b1⟩; have b1' := b1; rw [al_size] at b1'))
      go_roundw
      case rel =>
        have hb1 : Below w.heap.size w w1 := (((unhide HB).alloc hwz _).trans (b1.mono (by simp; omega)))
        have hz1 : w.heap.size ≤ w1.heap.size := hb1.size
        refine ⟨k + 1, by omega, by go_num, ?_, ⟨_, _, rfl⟩, ?_⟩
        · refine (hb1.alloc hz1 _).grown hgrow (by simp; omega) ?_
          intro j hj
          exact ((unhide HO).lt j hj).1
        · show w2.ownsRow _ _ _ _ _ _
          rw [take_snoc_map fs k x (unhide HX)]
          exact hown2
      case measure => simp [intOf]; omega
    · have hkk : k = fs.length := by omega
      subst hkk
      have hfull : (fs.map FV.name).take fs.length = fs.map FV.name := by rw [List.take_of_length_le (by simp)]
      have hown := unhide HO
      rw [hfull] at hown
      have hcon := Sort_own w.heap.size g1 c1 (fs.map FV.name) wr (by simpa using hown) (by simpa using hlen)
      rw [List.length_map] at hcon
      have hg1 := (hown.lt g1 rfl)
      clear hown hfull
      go_wp2_with (go_at_call 202; refine hcon.mono ?_; rintro e w1 ⟨rfl, hs1, hk1⟩)
      go_ret
      refine ⟨g1, c1, rfl, ?_, (unhide HB).trans (hk1.below (unhide HB).size (by simpa using hg1.1))⟩
      rw [sNames, unhide HN]
      exact hs1

end Go.Proofs.YtffgolanmaenfacGreatDoor

namespace Go.Proofs.YtffgolanmaenfacGreatDoor
open Go.RowKit
set_option linter.unusedSimpArgs false
set_option linter.unusedVariables false

/-- The names in one text, a blank between. -/
def joinNames (st : List AFile) : ByteArray := ⟨(Lib.join ((sNames st).map (·.data.toList)) [32]).toArray⟩
def fileAt (st : List AFile) (j : Nat) : AFile := st.getD j ⟨ByteArray.empty, ByteArray.empty⟩

/-- A code, a text, the files behind. -/
structure Res where
  code : Int
  text : ByteArray
  st : List AFile

def aCreate (st : List AFile) (name : ByteArray) : Int × List AFile :=
  if 0 ≤ fInt name st then (5, st) else if 6 ≤ st.length then (7, st) else (0, st ++ [⟨name, ByteArray.empty⟩])
def aRename (st : List AFile) (j : Nat) (tn : ByteArray) : Int × List AFile :=
  if 0 ≤ fInt tn st then (5, st) else (0, st.set j ⟨tn, (fileAt st j).text⟩)
def aPut (st : List AFile) (j : Nat) (text : ByteArray) : Int × List AFile :=
  if 16 < (fileAt st j).text.size + text.size then (7, st) else (0, st.set j ⟨(fileAt st j).name, (fileAt st j).text ++ text⟩)

def aDo (st : List AFile) (c : ACall) : Res :=
  if checkI c ≠ 0 then ⟨checkI c, ByteArray.empty, st⟩
  else if c.kind = 1 then ⟨(aCreate st c.name).1, ByteArray.empty, (aCreate st c.name).2⟩
  else if c.kind = 6 then ⟨0, joinNames st, st⟩
  else if fInt c.name st < 0 then ⟨6, ByteArray.empty, st⟩
  else if c.kind = 2 then ⟨0, ByteArray.empty, st.eraseIdx (fIdx c.name st)⟩
  else if c.kind = 3 then ⟨(aRename st (fIdx c.name st) c.dst).1, ByteArray.empty, (aRename st (fIdx c.name st) c.dst).2⟩
  else if c.kind = 4 then ⟨(aPut st (fIdx c.name st) c.text).1, ByteArray.empty, (aPut st (fIdx c.name st) c.text).2⟩
  else ⟨0, (fileAt st (fIdx c.name st)).text, st⟩

/-- What holds of all files that calls can make. -/
structure Inv (st : List AFile) : Prop where
  few : st.length ≤ 6
  named : ∀ f, f ∈ st → nameB f.name = true
  short : ∀ f, f ∈ st → f.text.size ≤ 16
  once : (st.map AFile.name).Nodup

theorem toList_data (s : ByteArray) : s.toList = s.data.toList := by
  exact ByteArray.toList_eq s

theorem nameB_size {s : ByteArray} (h : nameB s = true) : 1 ≤ s.size ∧ s.size ≤ 5 := by
  simp only [nameB, withinB, Bool.and_eq_true, decide_eq_true_eq] at h
  omega

theorem fIdx_spec (name : ByteArray) (st : List AFile) (h : 0 ≤ fInt name st) : fIdx name st < st.length ∧ fInt name st = (fIdx name st : Int) := by
  unfold fInt at h ⊢
  by_cases h1 : fIdx name st < st.length
  · rw [if_pos h1] at h ⊢; exact ⟨h1, rfl⟩
  · rw [if_neg h1] at h; omega


/-- Behind a callee that has turned the object, a block of ours that was there reads as it did, and may be written. -/
theorem Turned.can {W w1 : World} {B : Nat} {own : List Nat} {st' : List AFile} (h : Turned W B own w1 st') {b o : Nat} {v : Value} (hc : Can W b o v) (hn : b ∉ own) : Can w1 b o v := by
  obtain ⟨own', _, hk, _⟩ := h
  exact ⟨(hk.cell hc.lt hn).trans hc.1, (hk.frozen hc.lt hn).trans hc.2⟩
/-- .. and writing it turns nothing of the object. -/
theorem Turned.store {w W w1 w2 : World} {B : Nat} {own : List Nat} {st' : List AFile} (hb0 : Below w.heap.size w W) (hT : Turned W B own w1 st') (hown : ∀ k, k ∈ own → k < w.heap.size) {b : Nat} (hb : w.heap.size ≤ b) (hb2 : b < W.heap.size) (hk : Kept [b] w1 w2) :
    Turned w B own w2 st' := by
  obtain ⟨own', ⟨v, fs, hr, rfl, hs⟩, hk1, hn⟩ := hT
  have hnb : ∀ k, k ∈ owns B v fs → k ≠ b := fun k hk e => by
    rcases hn k hk with h | h
    · have := hown k h; omega
    · omega
  refine ⟨owns B v fs, ⟨v, fs, hr.kept hk (fun k hk1 hm => hnb k hk1 (by simpa using hm)), rfl, hs⟩, ?_, fun k hk => ?_⟩
  · exact ((Kept.of_below hb0).trans hk1 (fun x hx => .inl hx)).trans hk (fun x hx => .inr (by rw [List.mem_singleton.1 hx]; exact hb))
  · rcases hn k hk with h | h
    · exact .inl h
    · right; have := hb0.size; omega

theorem create_any (name : ByteArray) (B : Nat) (own : List Nat) (st : List AFile) (w : World) (hr : St w B own st) (hi : Inv st) (hs : name.size ≤ 1000) :
    Calls Tryz.prog 203 #[.pointer (some ⟨B, 0, none⟩), .string name] w fun e w' => e = .returned (.int .i64 (aCreate st name).1) ∧ Turned w B own w' (aCreate st name).2 := by
  have h6 := hi.few
  by_cases h0 : 0 ≤ fInt name st
  · have e : aCreate st name = (5, st) := by simp [aCreate, h0]
    rw [e]
    exact (create_there name B own st w hr (by omega) h0).mono fun e w' ⟨h1, h2⟩ => ⟨h1, Turned.of_below hr h2⟩
  · by_cases h1 : 6 ≤ st.length
    · have e : aCreate st name = (7, st) := by simp [aCreate, h0, h1]
      rw [e]
      exact (create_full name B own st w hr (by omega) (by omega) h1).mono fun e w' ⟨h1, h2⟩ => ⟨h1, Turned.of_below hr h2⟩
    · have e : aCreate st name = (0, st ++ [⟨name, ByteArray.empty⟩]) := by simp [aCreate, h0, h1]
      rw [e]
      exact create_new name B own st w hr (by omega) (by omega) hs

theorem fileAt_mid (l1 l2 : List FV) (f : FV) : fileAt ((l1 ++ f :: l2).map FV.abs) l1.length = ⟨f.name, f.text⟩ := by
  simp [fileAt, FV.abs]

theorem rename_any (tn : ByteArray) (B g n cap : Nat) (l1 l2 : List FV) (f : FV) (w : World) (hr : Rep w B (.slice (some ⟨g, 0, none⟩) n cap) (l1 ++ f :: l2)) (hn : n = (l1 ++ f :: l2).length) (hl : n ≤ 1000) (hs : tn.size ≤ 1000) :
    Calls Tryz.prog 206 #[.pointer (some ⟨B, 0, none⟩), .int .i64 (l1.length : Int), .string tn] w
      fun e w' => e = .returned (.int .i64 (aRename ((l1 ++ f :: l2).map FV.abs) l1.length tn).1) ∧
        Turned w B (owns B (.slice (some ⟨g, 0, none⟩) n cap) (l1 ++ f :: l2)) w' (aRename ((l1 ++ f :: l2).map FV.abs) l1.length tn).2 := by
  have hst : St w B (owns B (.slice (some ⟨g, 0, none⟩) n cap) (l1 ++ f :: l2)) ((l1 ++ f :: l2).map FV.abs) := ⟨_, _, hr, rfl, rfl⟩
  by_cases h0 : 0 ≤ fInt tn ((l1 ++ f :: l2).map FV.abs)
  · have e : aRename ((l1 ++ f :: l2).map FV.abs) l1.length tn = (5, (l1 ++ f :: l2).map FV.abs) := by rw [aRename, if_pos h0]
    rw [e]
    exact (rename_there _ tn B _ _ w hst (by rw [List.length_map, ← hn]; exact hl) h0).mono fun e w' ⟨h1, h2⟩ => ⟨h1, Turned.of_below hst h2⟩
  · have e : aRename ((l1 ++ f :: l2).map FV.abs) l1.length tn = (0, ((l1 ++ f :: l2).map FV.abs).set l1.length ⟨tn, f.text⟩) := by rw [aRename, if_neg h0, fileAt_mid]
    rw [e]
    exact rename_new tn B g n cap l1 l2 f w hr hn hl (by omega) hs

theorem put_any (B g n cap : Nat) (l1 l2 : List FV) (f : FV) (text : ByteArray) (w : World) (hr : Rep w B (.slice (some ⟨g, 0, none⟩) n cap) (l1 ++ f :: l2)) (hf : f.text.size ≤ 1000) (h0 : 0 < text.size) (ht : text.size ≤ 1000) :
    Calls Tryz.prog 207 #[.pointer (some ⟨g, l1.length * 2, none⟩), .string text] w
      fun e w' => e = .returned (.int .i64 (aPut ((l1 ++ f :: l2).map FV.abs) l1.length text).1) ∧
        Turned w B (owns B (.slice (some ⟨g, 0, none⟩) n cap) (l1 ++ f :: l2)) w' (aPut ((l1 ++ f :: l2).map FV.abs) l1.length text).2 := by
  have hst : St w B (owns B (.slice (some ⟨g, 0, none⟩) n cap) (l1 ++ f :: l2)) ((l1 ++ f :: l2).map FV.abs) := ⟨_, _, hr, rfl, rfl⟩
  by_cases h16 : 16 < f.text.size + text.size
  · have e : aPut ((l1 ++ f :: l2).map FV.abs) l1.length text = (7, (l1 ++ f :: l2).map FV.abs) := by rw [aPut, fileAt_mid, if_pos h16]
    rw [e]
    exact (put_full B g n cap l1 l2 f text w hr hf ht h16).mono fun e w' ⟨h1, h2⟩ => ⟨h1, by rw [h2]; exact Turned.of_below hst (Below.refl _ _)⟩
  · have e : aPut ((l1 ++ f :: l2).map FV.abs) l1.length text = (0, ((l1 ++ f :: l2).map FV.abs).set l1.length ⟨f.name, f.text ++ text⟩) := by rw [aPut, fileAt_mid, if_neg h16]
    rw [e]
    exact put_some B g n cap l1 l2 f text w hr h0 (by omega)

end Go.Proofs.YtffgolanmaenfacGreatDoor

namespace Go.Proofs.YtffgolanmaenfacGreatDoor
open Go.RowKit
set_option linter.unusedSimpArgs false
set_option linter.unusedVariables false

/-- The world in which Do has laid its call and its answer. -/
def doW (w : World) (k : Int) (a b t : ByteArray) : World := (w.alloc (.cells #[.int .i64 k, .string a, .string b, .string t] 70)).alloc (.cells #[.int .i64 0, .string ⟨#[]⟩] 100)

theorem doW_size (w : World) (k : Int) (a b t : ByteArray) : (doW w k a b t).heap.size = w.heap.size + 1 + 1 := by simp [doW]
theorem doW_below (w : World) (k : Int) (a b t : ByteArray) : Below w.heap.size w (doW w k a b t) := ((Below.refl _ _).alloc (Nat.le_refl _) _).alloc (by simp) _

/-- What of it stands in a later world. -/
structure DoIn (w : World) (k : Int) (a b t : ByteArray) (w1 : World) : Prop where
  below : Below w.heap.size w w1
  size : w.heap.size + 1 < w1.heap.size
  k0 : w1.cell? ⟨w.heap.size, 0, none⟩ = some (.int .i64 k)
  k1 : w1.cell? ⟨w.heap.size, 1, none⟩ = some (.string a)
  k2 : w1.cell? ⟨w.heap.size, 2, none⟩ = some (.string b)
  k3 : w1.cell? ⟨w.heap.size, 3, none⟩ = some (.string t)
  a0 : Can w1 (w.heap.size + 1) 0 (.int .i64 0)
  a1 : Can w1 (w.heap.size + 1) 1 (.string ⟨#[]⟩)

theorem DoIn.start (w : World) (k : Int) (a b t : ByteArray) : DoIn w k a b t (doW w k a b t) := by
  refine ⟨doW_below w k a b t, by rw [doW_size]; omega, ?_, ?_, ?_, ?_, ⟨?_, ?_⟩, ⟨?_, ?_⟩⟩ <;> simp [doW]
theorem DoIn.later {w w1 w2 : World} {k : Int} {a b t : ByteArray} (h : DoIn w k a b t w1) (hb : Below w1.heap.size w1 w2) : DoIn w k a b t w2 := by
  have hs := h.size
  have hz := hb.size
  have e : ∀ o, w2.cell? ⟨w.heap.size, o, none⟩ = w1.cell? ⟨w.heap.size, o, none⟩ := fun o => hb.cell (p := ⟨w.heap.size, o, none⟩) (show w.heap.size < w1.heap.size by omega)
  exact ⟨h.below.trans (hb.mono (by omega)), by omega, (e 0).trans h.k0, (e 1).trans h.k1, (e 2).trans h.k2, (e 3).trans h.k3, h.a0.below hb (by omega), h.a1.below hb (by omega)⟩

theorem kept_two (b : Nat) (w : World) (x y : Value) : Kept [b] w ((w.setCell ⟨b, 0, none⟩ x).setCell ⟨b, 1, none⟩ y) :=
  (kept_setCell [b] w b 0 x (by simp)).trans (kept_setCell [b] _ b 1 y (by simp)) (fun _ hx => .inl hx)

theorem ans0 {w : World} {b : Nat} {u : Value} (x y : Value) (h : w.cell? ⟨b, 0, none⟩ = some u) : ((w.setCell ⟨b, 0, none⟩ x).setCell ⟨b, 1, none⟩ y).cell? ⟨b, 0, none⟩ = some x := by
  rw [World.cell?_setCell_other _ _ _ _ (by simp)]
  exact World.cell?_setCell_same _ _ _ h
theorem ans1 {w : World} {b : Nat} {u : Value} (x y : Value) (h : w.cell? ⟨b, 1, none⟩ = some u) : ((w.setCell ⟨b, 0, none⟩ x).setCell ⟨b, 1, none⟩ y).cell? ⟨b, 1, none⟩ = some y := by
  have h2 : (w.setCell ⟨b, 0, none⟩ x).cell? ⟨b, 1, none⟩ = some u := by
    rw [World.cell?_setCell_other _ _ _ _ (by simp)]
    exact h
  exact World.cell?_setCell_same _ _ _ h2

set_option maxHeartbeats 1000000 in
theorem Do_code (k : Int) (a b t : ByteArray) (B : Nat) (own : List Nat) (st : List AFile) (w : World) (hr : St w B own st) (ha : a.size ≤ maxLen) (hb : b.size ≤ maxLen) (ht : t.size ≤ maxLen) (hc : checkI ⟨k, a, b, t⟩ ≠ 0) :
    Calls Tryz.prog 180 #[.pointer (some ⟨B, 0, none⟩), .agg #[.int .i64 k, .string a, .string b, .string t]] w
      fun e w' => e = .returned (.agg #[.int .i64 (checkI ⟨k, a, b, t⟩), .string ⟨#[]⟩]) ∧ Turned w B own w' st := by
  have hcon := Check_any k a b t (doW w k a b t) ha hb ht
  have hin := DoIn.start w k a b t
  generalize checkI ⟨k, a, b, t⟩ = code at hcon hc ⊢
  have hc1 : (code != 0) = true := by simpa using hc
  have HI := hide hin
  have HS := hide hr
  unfold doW at hcon
  clear hin hr hc
  go_enter Tryz.func180, Tryz.ntmps180
  go_wp2_with fail
  refine hcon.mono ?_
  rintro e w1 ⟨rfl, b1⟩
  have h1 := (unhide HI).later b1
  have HH := hide h1
  have e1 := h1.a0.1
  have e2 := h1.a0.2
  have e3 := h1.a1.1
  have e4 := h1.a1.2
  clear h1 b1
  have q0 := ans0 (.int .i64 code) (.string ⟨#[]⟩) e1
  have q1 := ans1 (.int .i64 code) (.string ⟨#[]⟩) e3
  go_wp2
  refine bodyPost_ret (v := .agg #[.int .i64 code, .string ⟨#[]⟩]) (by simp [results, Tryz.results180, go_sem, q0, q1]) rfl ⟨rfl, ?_⟩
  have hT := Turned.of_below ((unhide HS).below (unhide HH).below) (Below.refl _ w1)
  exact Turned.store (unhide HH).below hT (fun k hk => (unhide HS).lt hk) (Nat.le_succ _) (unhide HH).size (kept_two _ _ _ _)


set_option maxHeartbeats 1000000 in
theorem Do_make (a b t : ByteArray) (B : Nat) (own : List Nat) (st : List AFile) (w : World) (hr : St w B own st) (hi : Inv st) (ha : a.size ≤ maxLen) (hb : b.size ≤ maxLen) (ht : t.size ≤ maxLen) (hc : checkI ⟨1, a, b, t⟩ = 0) (hs : a.size ≤ 1000) :
    Calls Tryz.prog 180 #[.pointer (some ⟨B, 0, none⟩), .agg #[.int .i64 1, .string a, .string b, .string t]] w
      fun e w' => e = .returned (.agg #[.int .i64 (aCreate st a).1, .string ⟨#[]⟩]) ∧ Turned w B own w' (aCreate st a).2 := by
  have hcon := Check_any 1 a b t (doW w 1 a b t) ha hb ht
  have hin := DoIn.start w 1 a b t
  rw [hc] at hcon
  have HI := hide hin
  have HS := hide hr
  have HV := hide hi
  have hcr : ∀ W : World, St W B own st → Calls Tryz.prog 203 #[.pointer (some ⟨B, 0, none⟩), .string a] W fun e w' => e = .returned (.int .i64 (aCreate st a).1) ∧ Turned W B own w' (aCreate st a).2 := fun W h => create_any a B own st W h hi hs
  have HC := hide hcr
  generalize (aCreate st a).1 = code at HC ⊢
  generalize (aCreate st a).2 = st' at HC ⊢
  unfold doW at hcon
  clear hin hr hc hi hcr
  go_enter Tryz.func180, Tryz.ntmps180
  go_wp2_with fail
  refine hcon.mono ?_
  rintro e w1 ⟨rfl, b1⟩
  have h1 := (unhide HI).later b1
  have HH := hide h1
  have k0 := h1.k0
  have k1 := h1.k1
  have HS1 := hide ((unhide HS).below h1.below)
  clear h1 b1
  go_wp2_with fail
  refine ((unhide HC) _ (unhide HS1)).mono ?_
  rintro e w2 ⟨rfl, hT⟩
  have hnb : w.heap.size + 1 ∉ own := fun hm => by have := (unhide HS).lt hm; omega
  have c0 := hT.can (unhide HH).a0 hnb
  have c1 := hT.can (unhide HH).a1 hnb
  have e1 := c0.1
  have e2 := c0.2
  have e3 := c1.1
  have e4 := c1.2
  have q0 := ans0 (.int .i64 code) (.string ⟨#[]⟩) e1
  have q1 := ans1 (.int .i64 code) (.string ⟨#[]⟩) e3
  have HT := hide hT
  clear hT c0 c1 hnb k0 k1
  go_wp2
  refine bodyPost_ret (v := .agg #[.int .i64 code, .string ⟨#[]⟩]) (by simp [results, Tryz.results180, go_sem, q0, q1]) rfl ⟨rfl, ?_⟩
  exact Turned.store (unhide HH).below (unhide HT) (fun k hk => (unhide HS).lt hk) (Nat.le_succ _) (unhide HH).size (kept_two _ _ _ _)

set_option maxHeartbeats 1000000 in
theorem Do_list (a b t : ByteArray) (B : Nat) (own : List Nat) (st : List AFile) (w : World) (hr : St w B own st) (hi : Inv st) (ha : a.size ≤ maxLen) (hb : b.size ≤ maxLen) (ht : t.size ≤ maxLen) (hc : checkI ⟨6, a, b, t⟩ = 0)
    (hj : (Lib.join ((sNames st).map (·.data.toList)) [32]).length ≤ 1000000) :
    Calls Tryz.prog 180 #[.pointer (some ⟨B, 0, none⟩), .agg #[.int .i64 6, .string a, .string b, .string t]] w
      fun e w' => e = .returned (.agg #[.int .i64 0, .string (joinNames st)]) ∧ Turned w B own w' st := by
  have hcon := Check_any 6 a b t (doW w 6 a b t) ha hb ht
  have hin := DoIn.start w 6 a b t
  rw [hc] at hcon
  have HI := hide hin
  have HS := hide hr
  have h6 := hi.few
  have hnm : ∀ f, f ∈ st → f.name.size ≤ 1000 := fun f hf => by have := nameB_size (hi.named f hf); omega
  have hlen : (sNames st).length = st.length := by simp [sNames, sortB_length]
  have hcr : ∀ W : World, St W B own st → Calls Tryz.prog 179 #[.pointer (some ⟨B, 0, none⟩)] W fun e w' => ∃ g cap, e = .returned (.slice (some ⟨g, 0, none⟩) st.length cap) ∧ w'.ownsRow W.heap.size 9 1 (.slice (some ⟨g, 0, none⟩) st.length cap) st.length ((sNames st).map .string) ∧ Below W.heap.size W w' :=
    fun W h => Names_any B own st W h (by omega) hnm
  have hjo : ∀ (W : World) (N g cap : Nat), W.ownsRow N 9 1 (.slice (some ⟨g, 0, none⟩) st.length cap) st.length ((sNames st).map .string) → Calls Tryz.prog 119 #[.slice (some ⟨g, 0, none⟩) st.length cap, .string ⟨#[32]⟩] W fun e w' => e = .returned (.string (joinNames st)) ∧ Below W.heap.size W w' := by
    intro W N g cap hown
    rw [← hlen]
    refine Tryz.strings_Join g 0 cap (sNames st) ⟨#[32]⟩ W ?_ (hown.lt g rfl).2 (by omega) ?_ (by show (Lib.join ((sNames st).map (·.data.toList)) [32]).length ≤ _; omega)
    · intro j x hx
      have := hown.cells (g := g) rfl j (.string x) (by rw [List.getElem?_map, hx]; rfl)
      have e : (⟨g, 0, none⟩ : Addr).add j = ⟨g, 0 + j, none⟩ := by unfold Addr.add; split <;> simp_all
      rw [e] at this
      exact this
    · rcases hown.2 with ⟨e, _⟩ | ⟨g', cap', cur, he, _, _, hnc, _⟩
      · cases e
      · obtain ⟨_, rfl⟩ : g = g' ∧ cap = cap' := by simpa using he
        omega
  have HC := hide hcr
  have HJ := hide hjo
  generalize joinNames st = jt at HJ ⊢
  unfold doW at hcon
  clear hin hr hc hi hcr hjo hj
  go_enter Tryz.func180, Tryz.ntmps180
  go_wp2_with fail
  refine hcon.mono ?_
  rintro e w1 ⟨rfl, b1⟩
  have h1 := (unhide HI).later b1
  have HH := hide h1
  have k0 := h1.k0
  have k1 := h1.k1
  have HS1 := hide ((unhide HS).below h1.below)
  clear h1 b1
  go_wp2_with fail
  refine ((unhide HC) _ (unhide HS1)).mono ?_
  rintro e w2 ⟨g, cap, rfl, hown, b2⟩
  have HO := hide hown
  have HB2 := hide b2
  clear hown b2
  go_wp2_with fail
  refine ((unhide HJ) _ _ _ _ (unhide HO)).mono ?_
  rintro e w3 ⟨rfl, b3⟩
  have h3 := (unhide HH).later ((unhide HB2).trans (b3.mono (unhide HB2).size))
  have HH3 := hide h3
  have e1 := h3.a0.1
  have e2 := h3.a0.2
  have e3 := h3.a1.1
  have e4 := h3.a1.2
  have q0 := ans0 (.int .i64 0) (.string jt) e1
  have q1 := ans1 (.int .i64 0) (.string jt) e3
  clear h3 b3 k0 k1
  go_wp2
  refine bodyPost_ret (v := .agg #[.int .i64 0, .string jt]) (by simp [results, Tryz.results180, go_sem, q0, q1]) rfl ⟨rfl, ?_⟩
  have hT := Turned.of_below ((unhide HS).below (unhide HH3).below) (Below.refl _ w3)
  exact Turned.store (unhide HH3).below hT (fun k hk => (unhide HS).lt hk) (Nat.le_succ _) (unhide HH3).size (kept_two _ _ _ _)

end Go.Proofs.YtffgolanmaenfacGreatDoor

namespace Go.Proofs.YtffgolanmaenfacGreatDoor
open Go.RowKit
set_option linter.unusedSimpArgs false
set_option linter.unusedVariables false

set_option maxHeartbeats 1000000 in
theorem Do_none (k : Int) (a b t : ByteArray) (B : Nat) (own : List Nat) (st : List AFile) (w : World) (hr : St w B own st) (hi : Inv st) (ha : a.size ≤ maxLen) (hb : b.size ≤ maxLen) (ht : t.size ≤ maxLen) (hc : checkI ⟨k, a, b, t⟩ = 0)
    (h1 : k ≠ 1) (h6 : k ≠ 6) (hf : fInt a st < 0) :
    Calls Tryz.prog 180 #[.pointer (some ⟨B, 0, none⟩), .agg #[.int .i64 k, .string a, .string b, .string t]] w
      fun e w' => e = .returned (.agg #[.int .i64 6, .string ⟨#[]⟩]) ∧ Turned w B own w' st := by
  have hcon := Check_any k a b t (doW w k a b t) ha hb ht
  have hin := DoIn.start w k a b t
  rw [hc] at hcon
  have HI := hide hin
  have HS := hide hr
  have hl := hi.few
  have hcr : ∀ W : World, St W B own st → Calls Tryz.prog 204 #[.pointer (some ⟨B, 0, none⟩), .string a] W fun e w' => e = .returned (.int .i64 (fInt a st)) ∧ Below W.heap.size W w' := fun W h => find_any a B own st W h (by omega)
  have HC := hide hcr
  generalize fInt a st = res at HC hf
  have n1 : (k == 1) = false := by simpa using h1
  have n6 : (k == 6) = false := by simpa using h6
  unfold doW at hcon
  clear hin hr hc hi hcr h1 h6
  go_enter Tryz.func180, Tryz.ntmps180
  go_wp2_with fail
  refine hcon.mono ?_
  rintro e w1 ⟨rfl, b1⟩
  have h1 := (unhide HI).later b1
  have HH := hide h1
  have k0 := h1.k0
  have k1 := h1.k1
  have HS1 := hide ((unhide HS).below h1.below)
  clear h1 b1
  go_wp2_with fail
  refine ((unhide HC) _ (unhide HS1)).mono ?_
  rintro e w2 ⟨rfl, b2⟩
  have h3 := (unhide HH).later b2
  have HH3 := hide h3
  have e1 := h3.a0.1
  have e2 := h3.a0.2
  have e3 := h3.a1.1
  have e4 := h3.a1.2
  have q0 := ans0 (.int .i64 6) (.string ⟨#[]⟩) e1
  have q1 := ans1 (.int .i64 6) (.string ⟨#[]⟩) e3
  clear h3 b2 k0 k1
  go_wp2
  refine bodyPost_ret (v := .agg #[.int .i64 6, .string ⟨#[]⟩]) (by simp [results, Tryz.results180, go_sem, q0, q1]) rfl ⟨rfl, ?_⟩
  have hT := Turned.of_below ((unhide HS).below (unhide HH3).below) (Below.refl _ w2)
  exact Turned.store (unhide HH3).below hT (fun k hk => (unhide HS).lt hk) (Nat.le_succ _) (unhide HH3).size (kept_two _ _ _ _)

/-- A file that is there: the object taken apart at it. -/
theorem St.at_file {w : World} {B : Nat} {own : List Nat} {st : List AFile} (h : St w B own st) (name : ByteArray) (hf : 0 ≤ fInt name st) :
    ∃ (g n cap : Nat) (l1 l2 : List FV) (f : FV), Rep w B (.slice (some ⟨g, 0, none⟩) n cap) (l1 ++ f :: l2) ∧ own = owns B (.slice (some ⟨g, 0, none⟩) n cap) (l1 ++ f :: l2) ∧ st = (l1 ++ f :: l2).map FV.abs ∧
      n = (l1 ++ f :: l2).length ∧ fIdx name st = l1.length ∧ fInt name st = (l1.length : Int) := by
  obtain ⟨v, fs, hr, rfl, rfl⟩ := h
  obtain ⟨h1, h2⟩ := fIdx_spec name _ hf
  have h3 : fIdx name (fs.map FV.abs) < fs.length := by simpa using h1
  obtain ⟨l1, l2, hfs, hl⟩ := split_at (List.getElem?_eq_getElem h3)
  generalize fs[fIdx name (fs.map FV.abs)] = f at hfs
  have hn : 0 < fs.length := by omega
  rcases hr.row.2 with ⟨e, h0⟩ | ⟨g, cap, cur, rfl, _⟩
  · omega
  refine ⟨g, fs.length, cap, l1, l2, f, ?_, ?_, by rw [← hfs], by rw [← hfs], hl.symm, by rw [h2, hl]⟩
  · rw [← hfs]; exact hr
  · rw [← hfs]

set_option maxHeartbeats 1000000 in
theorem Do_remove (a b t : ByteArray) (B : Nat) (own : List Nat) (st : List AFile) (w : World) (hr : St w B own st) (hi : Inv st) (ha : a.size ≤ maxLen) (hb : b.size ≤ maxLen) (ht : t.size ≤ maxLen) (hc : checkI ⟨2, a, b, t⟩ = 0) (hf : 0 ≤ fInt a st) :
    Calls Tryz.prog 180 #[.pointer (some ⟨B, 0, none⟩), .agg #[.int .i64 2, .string a, .string b, .string t]] w
      fun e w' => e = .returned (.agg #[.int .i64 0, .string ⟨#[]⟩]) ∧ Turned w B own w' (st.eraseIdx (fIdx a st)) := by
  have hcon := Check_any 2 a b t (doW w 2 a b t) ha hb ht
  have hin := DoIn.start w 2 a b t
  rw [hc] at hcon
  have HI := hide hin
  have HS := hide hr
  have hl := hi.few
  have hcr : ∀ W : World, St W B own st → Calls Tryz.prog 204 #[.pointer (some ⟨B, 0, none⟩), .string a] W fun e w' => e = .returned (.int .i64 (fInt a st)) ∧ Below W.heap.size W w' := fun W h => find_any a B own st W h (by omega)
  have HC := hide hcr
  obtain ⟨g, n, cap, l1, l2, f, hrep, hown, rfl, hn, hix, hit⟩ := hr.at_file a hf
  have hst : ((l1 ++ f :: l2).map FV.abs).eraseIdx l1.length = (l1 ++ l2).map FV.abs := by
    rw [List.map_append, List.map_cons, List.eraseIdx_append_of_length_le (by simp)]
    simp
  rw [hix, hst]
  rw [hit] at HC
  have hnl : n ≤ 1000 := by rw [hn]; simp at hl ⊢; omega
  have HRep := hide hrep
  have HN := hide hn
  have HW := hide hown
  generalize hq : (l1 ++ l2).map FV.abs = st' 
  have HQ := hide hq
  unfold doW at hcon
  clear hin hr hc hi hcr hf hix hit hst hrep hown hn hl hq
  go_enter Tryz.func180, Tryz.ntmps180
  go_wp2_with fail
  refine hcon.mono ?_
  rintro e w1 ⟨rfl, b1⟩
  have h1 := (unhide HI).later b1
  have HH := hide h1
  have k0 := h1.k0
  have k1 := h1.k1
  have HS1 := hide ((unhide HS).below h1.below)
  clear h1 b1
  go_wp2_with fail
  refine ((unhide HC) _ (unhide HS1)).mono ?_
  rintro e w2 ⟨rfl, b2⟩
  have h3 := (unhide HH).later b2
  have HH3 := hide h3
  have HR2 := hide ((unhide HRep).below h3.below)
  have k03 := h3.k0
  have cB := (unhide HR2).cellB
  have hl0 : (0 : Int) ≤ (l1.length : Int) := by omega
  have hl9 : (l1.length : Int) ≤ 1000 := by have := unhide HN; rw [List.length_append, List.length_cons] at this; omega
  clear h3 b2 k0 k1
  go_wp2_with fail
  refine (Delete_rep B g n cap l1 l2 f _ (unhide HR2) (unhide HN) hnl).mono ?_
  rintro e w3 ⟨rfl, hcan, hsz, hT⟩
  rw [← unhide HW, unhide HQ] at hT
  have hnb : w.heap.size + 1 ∉ own := fun hm => by have := (unhide HS).lt hm; omega
  have c0 := hT.can (unhide HH3).a0 hnb
  have c1 := hT.can (unhide HH3).a1 hnb
  have x1 := hcan.1
  have x2 := hcan.2
  have e1 := c0.1
  have e2 := c0.2
  have e3 := c1.1
  have e4 := c1.2
  have q0 := ans0 (.int .i64 0) (.string ⟨#[]⟩) e1
  have q1 := ans1 (.int .i64 0) (.string ⟨#[]⟩) e3
  have HT := hide hT
  clear hT c0 c1 hnb hcan hsz cB
  go_wp2
  refine bodyPost_ret (v := .agg #[.int .i64 0, .string ⟨#[]⟩]) (by simp [results, Tryz.results180, go_sem, q0, q1]) rfl ⟨rfl, ?_⟩
  exact Turned.store (unhide HH3).below (unhide HT) (fun k hk => (unhide HS).lt hk) (Nat.le_succ _) (unhide HH3).size (kept_two _ _ _ _)

end Go.Proofs.YtffgolanmaenfacGreatDoor

namespace Go.Proofs.YtffgolanmaenfacGreatDoor
open Go.RowKit
set_option linter.unusedSimpArgs false
set_option linter.unusedVariables false

set_option maxHeartbeats 1000000 in
theorem Do_rename (a b t : ByteArray) (B : Nat) (own : List Nat) (st : List AFile) (w : World) (hr : St w B own st) (hi : Inv st) (ha : a.size ≤ maxLen) (hb : b.size ≤ maxLen) (ht : t.size ≤ maxLen) (hc : checkI ⟨3, a, b, t⟩ = 0) (hf : 0 ≤ fInt a st) (hs : b.size ≤ 1000) :
    Calls Tryz.prog 180 #[.pointer (some ⟨B, 0, none⟩), .agg #[.int .i64 3, .string a, .string b, .string t]] w
      fun e w' => e = .returned (.agg #[.int .i64 (aRename st (fIdx a st) b).1, .string ⟨#[]⟩]) ∧ Turned w B own w' (aRename st (fIdx a st) b).2 := by
  have hcon := Check_any 3 a b t (doW w 3 a b t) ha hb ht
  have hin := DoIn.start w 3 a b t
  rw [hc] at hcon
  have HI := hide hin
  have HS := hide hr
  have HV := hide hi
  have hl := hi.few
  have hcr : ∀ W : World, St W B own st → Calls Tryz.prog 204 #[.pointer (some ⟨B, 0, none⟩), .string a] W fun e w' => e = .returned (.int .i64 (fInt a st)) ∧ Below W.heap.size W w' := fun W h => find_any a B own st W h (by omega)
  have HC := hide hcr
  obtain ⟨g, n, cap, l1, l2, f, hrep, hown, rfl, hn, hix, hit⟩ := hr.at_file a hf
  rw [hix]
  rw [hit] at HC
  have hnl : n ≤ 1000 := by rw [hn]; simp at hl ⊢; omega
  have hln : (l1.length : Int) < (n : Int) := by rw [hn]; simp; omega
  have HRep := hide hrep
  have HN := hide hn
  have HW := hide hown
  have hre : ∀ W : World, Rep W B (.slice (some ⟨g, 0, none⟩) n cap) (l1 ++ f :: l2) → Calls Tryz.prog 206 #[.pointer (some ⟨B, 0, none⟩), .int .i64 (l1.length : Int), .string b] W fun e w' => e = .returned (.int .i64 (aRename ((l1 ++ f :: l2).map FV.abs) l1.length b).1) ∧ Turned W B (owns B (.slice (some ⟨g, 0, none⟩) n cap) (l1 ++ f :: l2)) w' (aRename ((l1 ++ f :: l2).map FV.abs) l1.length b).2 :=
    fun W h => rename_any b B g n cap l1 l2 f W h hn hnl hs
  have HE := hide hre
  clear hre
  generalize (aRename ((l1 ++ f :: l2).map FV.abs) l1.length b).1 = code at HE ⊢
  generalize (aRename ((l1 ++ f :: l2).map FV.abs) l1.length b).2 = st' at HE ⊢
  unfold doW at hcon
  clear hin hr hc hi hcr hf hix hit hrep hown hn hl
  go_enter Tryz.func180, Tryz.ntmps180
  go_wp2_with fail
  refine hcon.mono ?_
  rintro e w1 ⟨rfl, b1⟩
  have h1 := (unhide HI).later b1
  have HH := hide h1
  have k0 := h1.k0
  have k1 := h1.k1
  have HS1 := hide ((unhide HS).below h1.below)
  clear h1 b1
  go_wp2_with fail
  refine ((unhide HC) _ (unhide HS1)).mono ?_
  rintro e w2 ⟨rfl, b2⟩
  have h3 := (unhide HH).later b2
  have HH3 := hide h3
  have HR2 := hide ((unhide HRep).below h3.below)
  have k03 := h3.k0
  have k13 := h3.k1
  have k23 := h3.k2
  have k33 := h3.k3
  have cB := (unhide HR2).cellB
  have hl0 : (0 : Int) ≤ (l1.length : Int) := by omega
  clear h3 b2 k0 k1
  go_wp2_with fail
  refine ((unhide HE) _ (unhide HR2)).mono ?_
  rintro e w3 ⟨rfl, hT⟩
  rw [← unhide HW] at hT
  have hnb : w.heap.size + 1 ∉ own := fun hm => by have := (unhide HS).lt hm; omega
  have c0 := hT.can (unhide HH3).a0 hnb
  have c1 := hT.can (unhide HH3).a1 hnb
  have e1 := c0.1
  have e2 := c0.2
  have e3 := c1.1
  have e4 := c1.2
  have q0 := ans0 (.int .i64 code) (.string ⟨#[]⟩) e1
  have q1 := ans1 (.int .i64 code) (.string ⟨#[]⟩) e3
  have HT := hide hT
  clear hT c0 c1 hnb cB
  go_wp2
  refine bodyPost_ret (v := .agg #[.int .i64 code, .string ⟨#[]⟩]) (by simp [results, Tryz.results180, go_sem, q0, q1]) rfl ⟨rfl, ?_⟩
  exact Turned.store (unhide HH3).below (unhide HT) (fun k hk => (unhide HS).lt hk) (Nat.le_succ _) (unhide HH3).size (kept_two _ _ _ _)

theorem textB_size {s : ByteArray} (h : textB s = true) : 1 ≤ s.size ∧ s.size ≤ 8 := by
  simp only [textB, withinB, Bool.and_eq_true, decide_eq_true_eq] at h
  omega

set_option maxRecDepth 100000 in
set_option maxHeartbeats 2000000 in
theorem Do_append (a b t : ByteArray) (B : Nat) (own : List Nat) (st : List AFile) (w : World) (hr : St w B own st) (hi : Inv st) (ha : a.size ≤ maxLen) (hb : b.size ≤ maxLen) (ht : t.size ≤ maxLen) (hc : checkI ⟨4, a, b, t⟩ = 0) (hf : 0 ≤ fInt a st) (hs : textB t = true) :
    Calls Tryz.prog 180 #[.pointer (some ⟨B, 0, none⟩), .agg #[.int .i64 4, .string a, .string b, .string t]] w
      fun e w' => e = .returned (.agg #[.int .i64 (aPut st (fIdx a st) t).1, .string ⟨#[]⟩]) ∧ Turned w B own w' (aPut st (fIdx a st) t).2 := by
  have hcon := Check_any 4 a b t (doW w 4 a b t) ha hb ht
  have hin := DoIn.start w 4 a b t
  rw [hc] at hcon
  have HI := hide hin
  have HS := hide hr
  have HV := hide hi
  have hl := hi.few
  have hcr : ∀ W : World, St W B own st → Calls Tryz.prog 204 #[.pointer (some ⟨B, 0, none⟩), .string a] W fun e w' => e = .returned (.int .i64 (fInt a st)) ∧ Below W.heap.size W w' := fun W h => find_any a B own st W h (by omega)
  have HC := hide hcr
  obtain ⟨g, n, cap, l1, l2, f, hrep, hown, rfl, hn, hix, hit⟩ := hr.at_file a hf
  rw [hix]
  rw [hit] at HC
  have hnl : n ≤ 1000 := by rw [hn]; simp at hl ⊢; omega
  have hln : (l1.length : Int) < (n : Int) := by rw [hn]; simp; omega
  have HRep := hide hrep
  have HN := hide hn
  have HW := hide hown
  have hsz := textB_size hs
  have hfs : f.text.size ≤ 1000 := by have := hi.short f.abs (List.mem_map.2 ⟨f, by simp, rfl⟩); simp [FV.abs] at this; omega
  have hre : ∀ W : World, Rep W B (.slice (some ⟨g, 0, none⟩) n cap) (l1 ++ f :: l2) → Calls Tryz.prog 207 #[.pointer (some ⟨g, l1.length * 2, none⟩), .string t] W fun e w' => e = .returned (.int .i64 (aPut ((l1 ++ f :: l2).map FV.abs) l1.length t).1) ∧ Turned W B (owns B (.slice (some ⟨g, 0, none⟩) n cap) (l1 ++ f :: l2)) w' (aPut ((l1 ++ f :: l2).map FV.abs) l1.length t).2 :=
    fun W h => put_any B g n cap l1 l2 f t W h hfs (by omega) (by omega)
  have HE := hide hre
  clear hre hs
  generalize (aPut ((l1 ++ f :: l2).map FV.abs) l1.length t).1 = code at HE ⊢
  generalize (aPut ((l1 ++ f :: l2).map FV.abs) l1.length t).2 = st' at HE ⊢
  unfold doW at hcon
  clear hin hr hc hi hcr hf hix hit hrep hown hn hl
  go_enter Tryz.func180, Tryz.ntmps180
  go_wp2_with fail
  refine hcon.mono ?_
  rintro e w1 ⟨rfl, b1⟩
  have h1 := (unhide HI).later b1
  have HH := hide h1
  have k0 := h1.k0
  have k1 := h1.k1
  have HS1 := hide ((unhide HS).below h1.below)
  clear h1 b1
  go_wp2_with fail
  refine ((unhide HC) _ (unhide HS1)).mono ?_
  rintro e w2 ⟨rfl, b2⟩
  have h3 := (unhide HH).later b2
  have HH3 := hide h3
  have HR2 := hide ((unhide HRep).below h3.below)
  have k03 := h3.k0
  have k13 := h3.k1
  have k23 := h3.k2
  have k33 := h3.k3
  have cB := (unhide HR2).cellB
  have hl0 : (0 : Int) ≤ (l1.length : Int) := by omega
  clear h3 b2 k0 k1
  have HR3 : Hid (Rep w2.drew B (.slice (some ⟨g, 0, none⟩) n cap) (l1 ++ f :: l2)) := (unhide HR2).below ⟨rfl, rfl, rfl, Nat.le_refl _, fun _ _ => rfl⟩
  have HH4 : Hid (DoIn w 4 a b t w2.drew) := (unhide HH3).later ⟨rfl, rfl, rfl, Nat.le_refl _, fun _ _ => rfl⟩
  have hnb : w.heap.size + 1 ∉ own := fun hm => by have := (unhide HS).lt hm; omega
  have HNB := hide hnb
  clear hnb
  go_wp2_with fail
  go_region_law (go_simp; go_at_call 207; refine ((unhide HE) _ (unhide HR3)).mono ?_; rintro e w3 ⟨rfl, hT⟩; rw [← unhide HW] at hT; have c0 := hT.can (unhide HH4).a0 (unhide HNB); have c1 := hT.can (unhide HH4).a1 (unhide HNB); have e1 := c0.1; have e2 := c0.2; have e3 := c1.1; have e4 := c1.2; have HT := hide hT; clear hT c0 c1)
  all_goals
    have q0 := ans0 (.int .i64 code) (.string ⟨#[]⟩) e1
    have q1 := ans1 (.int .i64 code) (.string ⟨#[]⟩) e3
    go_wp2
    refine bodyPost_ret (v := .agg #[.int .i64 code, .string ⟨#[]⟩]) (by simp [results, Tryz.results180, go_sem, q0, q1]) rfl ⟨rfl, ?_⟩
    exact Turned.store (unhide HH4).below (unhide HT) (fun k hk => (unhide HS).lt hk) (Nat.le_succ _) (unhide HH4).size (kept_two _ _ _ _)

/-- A text read out of its row. -/
theorem conv_back (w : World) (v : Value) (s : ByteArray) (hown : w.ownsRow 0 5 1 v s.size (byteVals s)) : (convert 42 9 v).run Tryz.prog w = .ok (.string s) w := by
  rcases hown.2 with ⟨rfl, h0⟩ | ⟨g, cap, cur, rfl, _, hh, _, _, hcs, htk⟩
  · rw [Lib.run_convert_nil_bytes w 42 9 5 0 Tryz.underlying42 Tryz.underlying5 Tryz.underlying9]
    have : s = ⟨#[]⟩ := by
      cases s with
      | mk d => simp [ByteArray.size] at h0; simp [h0]
    rw [this]
  · have hl : s.data.toList.length = s.size := by rw [Array.length_toList]; rfl
    have hc := run_convert_bytes_back (P := Tryz.prog) w 42 9 5 ⟨g, 0, none⟩ cap s.data.toList Tryz.underlying42 Tryz.underlying5 Tryz.underlying9 (fun j hj => by
      have := World.ownsRow.cells (v := .slice (some ⟨g, 0, none⟩) s.size cap) hown (g := g) rfl j (.int .u8 (s.data.toList[j].toNat : Int)) (by simp [byteVals]; rw [Array.getElem?_eq_getElem (by simpa using hj)]; simp)
      exact this)
    rw [hl] at hc
    simpa using hc

set_option maxRecDepth 100000 in
set_option maxHeartbeats 1000000 in
theorem Do_read (a b t : ByteArray) (B : Nat) (own : List Nat) (st : List AFile) (w : World) (hr : St w B own st) (hi : Inv st) (ha : a.size ≤ maxLen) (hb : b.size ≤ maxLen) (ht : t.size ≤ maxLen) (hc : checkI ⟨5, a, b, t⟩ = 0) (hf : 0 ≤ fInt a st) :
    Calls Tryz.prog 180 #[.pointer (some ⟨B, 0, none⟩), .agg #[.int .i64 5, .string a, .string b, .string t]] w
      fun e w' => e = .returned (.agg #[.int .i64 0, .string (fileAt st (fIdx a st)).text]) ∧ Turned w B own w' st := by
  have hcon := Check_any 5 a b t (doW w 5 a b t) ha hb ht
  have hin := DoIn.start w 5 a b t
  rw [hc] at hcon
  have HI := hide hin
  have HS := hide hr
  have HV := hide hi
  have hl := hi.few
  have hcr : ∀ W : World, St W B own st → Calls Tryz.prog 204 #[.pointer (some ⟨B, 0, none⟩), .string a] W fun e w' => e = .returned (.int .i64 (fInt a st)) ∧ Below W.heap.size W w' := fun W h => find_any a B own st W h (by omega)
  have HC := hide hcr
  obtain ⟨g, n, cap, l1, l2, f, hrep, hown, rfl, hn, hix, hit⟩ := hr.at_file a hf
  rw [hix]
  rw [hit] at HC
  have hnl : n ≤ 1000 := by rw [hn]; simp at hl ⊢; omega
  have hln : (l1.length : Int) < (n : Int) := by rw [hn]; simp; omega
  have HRep := hide hrep
  have HN := hide hn
  have HW := hide hown
  have hfa : (fileAt ((l1 ++ f :: l2).map FV.abs) l1.length).text = f.text := by rw [fileAt_mid]
  rw [hfa]
  clear hfa
  unfold doW at hcon
  clear hin hr hc hi hcr hf hix hit hrep hown hn hl
  go_enter Tryz.func180, Tryz.ntmps180
  go_wp2_with fail
  refine hcon.mono ?_
  rintro e w1 ⟨rfl, b1⟩
  have h1 := (unhide HI).later b1
  have HH := hide h1
  have k0 := h1.k0
  have k1 := h1.k1
  have HS1 := hide ((unhide HS).below h1.below)
  clear h1 b1
  go_wp2_with fail
  refine ((unhide HC) _ (unhide HS1)).mono ?_
  rintro e w2 ⟨rfl, b2⟩
  have h3 := (unhide HH).later b2
  have HH3 := hide h3
  have HR2 := hide ((unhide HRep).below h3.below)
  have k03 := h3.k0
  have k13 := h3.k1
  have k23 := h3.k2
  have k33 := h3.k3
  have cB := (unhide HR2).cellB
  have hl0 : (0 : Int) ≤ (l1.length : Int) := by omega
  clear h3 b2 k0 k1
  have cF := ((unhide HR2).file l1.length f mid_get).2
  obtain ⟨ta, tc, htv⟩ := row_form ((unhide HR2).texts f (by simp))
  have hcv := conv_back w2 f.tv f.text ((unhide HR2).texts f (by simp))
  rw [htv] at cF hcv
  have h3 := unhide HH3
  have e1 := h3.a0.1
  have e2 := h3.a0.2
  have e3 := h3.a1.1
  have e4 := h3.a1.2
  have q0 := ans0 (.int .i64 0) (.string f.text) e1
  have q1 := ans1 (.int .i64 0) (.string f.text) e3
  clear h3 htv
  generalize hts : f.text.size = ts at cF hcv
  clear hts
  go_wp2
  refine bodyPost_ret (v := .agg #[.int .i64 0, .string f.text]) (by simp [results, Tryz.results180, go_sem, q0, q1]) rfl ⟨rfl, ?_⟩
  have hT := Turned.of_below ((unhide HS).below (unhide HH3).below) (Below.refl _ w2)
  exact Turned.store (unhide HH3).below hT (fun k hk => (unhide HS).lt hk) (Nat.le_succ _) (unhide HH3).size (kept_two _ _ _ _)

end Go.Proofs.YtffgolanmaenfacGreatDoor
