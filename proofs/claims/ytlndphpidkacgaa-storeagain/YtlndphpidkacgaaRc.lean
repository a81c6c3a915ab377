/- The reference's Names: names put in their places; append of whatever lies somewhere, at a step of a region that draws. -/
import Derived.Test.YtlndphpidkacgaaRb
import Derived.Deep.AppendLies
import Derived.Deep.AppendSrc
namespace Go.Proofs.Ytlndphpidkacgaa
open Go.RowKit
set_option linter.unusedSimpArgs false
set_option linter.unusedVariables false

def SortedB (L : List ByteArray) : Prop := L.Pairwise fun a b => a.data.toList ≤ b.data.toList

theorem sorted_ins {L : List ByteArray} {x : ByteArray} {k : Nat} (hs : SortedB L) (h1 : ∀ j y, j < k → L[j]? = some y → Op.bytesLess y.toList x.toList = true) (h2 : ∀ y, L[k]? = some y → Op.bytesLess y.toList x.toList = false) :
    SortedB (L.take k ++ [x] ++ L.drop k) := by
  have e : L.take k ++ L.drop k = L := List.take_append_drop k L
  have hs' : SortedB (L.take k ++ L.drop k) := by rw [e]; exact hs
  unfold SortedB at hs' ⊢
  rw [List.pairwise_append] at hs'
  obtain ⟨p1, p2, p3⟩ := hs'
  have q1 : ∀ a, a ∈ L.take k → a.data.toList ≤ x.data.toList := fun a ha => by
    obtain ⟨j, hj⟩ := List.mem_iff_getElem?.1 ha
    rw [List.getElem?_take] at hj
    split at hj
    · have := h1 j a (by assumption) hj
      rw [less_eq] at this
      exact List.le_of_lt (by simpa using this)
    · cases hj
  have q2 : ∀ b, b ∈ L.drop k → x.data.toList ≤ b.data.toList := fun b hb => by
    cases hd : L.drop k with
    | nil => rw [hd] at hb; cases hb
    | cons y r =>
      have hy : L[k]? = some y := by
        have : (L.drop k)[0]? = some y := by rw [hd]; rfl
        simpa using this
      have h3 := h2 y hy
      rw [less_eq] at h3
      have h4 : x.data.toList ≤ y.data.toList := by
        have h5 : ¬ (y.data.toList < x.data.toList) := by simpa using h3
        exact List.not_lt.1 h5
      rw [hd] at hb p2
      rcases List.mem_cons.1 hb with rfl | hb
      · exact h4
      · exact List.le_trans h4 ((List.pairwise_cons.1 p2).1 b hb)
  rw [List.append_assoc, List.pairwise_append]
  refine ⟨p1, ?_, ?_⟩
  · rw [List.singleton_append, List.pairwise_cons]
    exact ⟨q2, p2⟩
  · intro a ha b hb
    rcases List.mem_append.1 hb with hb | hb
    · rw [List.mem_singleton.1 hb]; exact q1 a ha
    · exact p3 a ha b hb

theorem perm_ins {L M : List ByteArray} {x : ByteArray} {k : Nat} (h : L.Perm M) : (L.take k ++ [x] ++ L.drop k).Perm (M ++ [x]) := by
  have h1 : (L.take k ++ [x] ++ L.drop k).Perm (x :: (L.take k ++ L.drop k)) := by
    rw [List.append_assoc, List.singleton_append]
    exact List.perm_middle
  rw [List.take_append_drop] at h1
  exact h1.trans ((h.cons x).trans (List.perm_append_singleton x M).symm)

theorem sorted_unique {L xs : List ByteArray} (hp : L.Perm xs) (hs : SortedB L) : L = sortB xs := by
  have h1 : L.map (fun x => x.data.toList) = (xs.map fun x => x.data.toList).mergeSort fun x y => decide (x ≤ y) := by
    refine List.Perm.eq_of_pairwise (le := fun a b : List UInt8 => a ≤ b) ?_ ?_ ?_ ?_
    · intro a b _ _ h1 h2; exact List.le_antisymm h1 h2
    · rw [List.pairwise_map]; exact hs
    · have := List.pairwise_mergeSort (le := fun x y : List UInt8 => decide (x ≤ y)) le_trans' le_total (xs.map fun x => x.data.toList)
      exact this.imp (fun h => by simpa using h)
    · exact (hp.map _).trans (List.mergeSort_perm _ _).symm
  unfold sortB
  rw [← h1, List.map_map]
  have : ((fun l : List UInt8 => (⟨l.toArray⟩ : ByteArray)) ∘ fun x : ByteArray => x.data.toList) = id := by
    funext x
    exact mk_data x
  rw [this, List.map_id]

/-- The world but for how much was drawn. -/
structure SameW (w w' : World) : Prop where
  os : w'.os = w.os
  tape : w'.tape = w.tape
  output : w'.output = w.output
  heap : w'.heap = w.heap
theorem SameW.refl (w : World) : SameW w w := ⟨rfl, rfl, rfl, rfl⟩
theorem SameW.below {w w' : World} (h : SameW w w') (N : Nat) : Below N w w' := ⟨h.os, h.tape, h.output, by rw [h.heap]; exact Nat.le_refl _, fun k _ => by rw [h.heap]⟩
theorem SameW.cell {w w' : World} (h : SameW w w') (a : Addr) : w'.cell? a = w.cell? a := World.cell?_of_block (by rw [h.heap])
theorem SameW.frozen {w w' : World} (h : SameW w w') (a : Addr) : w'.frozen? a = w.frozen? a := World.frozen?_of_block (by rw [h.heap])
theorem SameW.owns {w w' : World} (h : SameW w w') {base : Nat} {e : TypeId} {size : Nat} {v : Value} {n : Nat} {xs : List Value} (ho : w.ownsRow base e size v n xs) : w'.ownsRow base e size v n xs := ownsRow_same ho fun k _ => by rw [h.heap]

/-- What a slice that lies somewhere yields. -/
def Lies (w : World) (x : Value) (m : Nat) (news : List Value) : Prop :=
  (x = .slice none 0 0 ∧ m = 0 ∧ news = []) ∨ ∃ ad c, x = .slice (some ad) m c ∧ ∀ j u, news[j]? = some u → w.cell? (ad.add j) = some u

theorem run_app {w : World} (t ty : TypeId) (base : Nat) (e : TypeId) (i : TypeInfo) (z : Value) (size bytes : Nat) (ht : Try.prog.underlying t = some (.slice e)) (hi : Try.prog.info? e = some i) (hz : i.zero = some z)
    (hsize : i.size = size) (hby : i.bytes = bytes) (hzs : z.cells.size = size) (hsz : 0 < size)
    (v : Value) (n : Nat) (xs : List Value) (hown : w.ownsRow base e size v n xs) (x : Value) (m : Nat) (news : List Value) (hx : Lies w x m news) (hl : news.length = m * size) (h1 : ∀ u ∈ news, u.oneCell' = true)
    (h63 : n + m ≤ maxLen) (hbytes : (n + m) * bytes ≤ 140737488355328) (hbase : base ≤ w.heap.size) :
    ∃ a c w', (Builtin.append_ #[t, t] ty #[v, x]).run Try.prog w = .ok (.slice a (n + m) c) w' ∧ w'.ownsRow base e size (.slice a (n + m) c) (n + m) (xs ++ news) ∧ w.grownBy w' v.ownBlock ∧
      ((Value.slice a (n + m) c).ownBlock = v.ownBlock ∨ (Value.slice a (n + m) c).ownBlock = some w.heap.size) := by
  rcases hx with ⟨rfl, rfl, rfl⟩ | ⟨ad, c, rfl, hc⟩
  · have hsame : w.grownBy w v.ownBlock := ⟨rfl, rfl, rfl, Nat.le_refl _, fun _ _ _ => rfl⟩
    rcases hown.2 with ⟨rfl, rfl⟩ | ⟨g, cap, cur, rfl, hbg, hg, hnc, hcm, hcs, htake⟩
    · refine ⟨none, 0, w, ?_, by simpa using hown, hsame, .inl rfl⟩
      simp [Builtin.append_, run_underlying ht, sizeOf, typeInfo, hi, Builtin.lenOf, Builtin.firstCells, loadCells, loadCellsFrom]
    · refine ⟨some ⟨g, 0, none⟩, cap, w, ?_, by simpa using hown, hsame, .inl rfl⟩
      have := run_append_room_src (P := Try.prog) w t t ty e i ht hi g 0 n cap (.slice none 0 0) 0 [] (Src.ofNil w ht 0) (by omega) (by simp) (by simp)
      rw [this]
      rfl
  · obtain ⟨v', w', hr, h2, h3, _, h5⟩ := run_append_own_at (P := Try.prog) w base t ty e i z size bytes ht hi hz hsize hby hzs hsz v n xs hown ad m c news hl hc h1 h63 hbytes hbase
    obtain ⟨a, cap, rfl⟩ := row_form h2
    exact ⟨a, cap, w', hr, h2, h3, h5⟩

theorem step_app {w : World} {ops : Array Oper} {o : Oper} {a : Act} {K : Act → World → Prop} {Q : Exit → Act → World → Prop} {E : Prop} (hgd : o.guard = none) (s y : Operand) (t : TypeId)
    (ho : o.op = .call { callee := .builtin .append, args := #[s, y], argTypes := #[t, t] })
    (base : Nat) (e : TypeId) (i : TypeInfo) (z : Value) (size bytes : Nat) (ht : Try.prog.underlying t = some (.slice e)) (hi : Try.prog.info? e = some i) (hz : i.zero = some z)
    (hsize : i.size = size) (hby : i.bytes = bytes) (hzs : z.cells.size = size) (hsz : 0 < size)
    (v : Value) (n : Nat) (xs : List Value) (hs : a.eval s = v) (hown : w.ownsRow base e size v n xs) (x : Value) (m : Nat) (news : List Value) (hy : a.eval y = x) (hx : Lies w x m news) (hl : news.length = m * size) (h1 : ∀ u ∈ news, u.oneCell' = true)
    (h63 : n + m ≤ maxLen) (hbytes : (n + m) * bytes ≤ 140737488355328) (hbase : base ≤ w.heap.size)
    (h : ∀ ad c w', w'.ownsRow base e size (.slice ad (n + m) c) (n + m) (xs ++ news) → w.grownBy w' v.ownBlock → ((Value.slice ad (n + m) c).ownBlock = v.ownBlock ∨ (Value.slice ad (n + m) c).ownBlock = some w.heap.size) → K (a.put o.dst (.slice ad (n + m) c)) w') :
    if Region.wanted o (yielded ops a.tmps) = true then Oper.wp Try.prog o a w K Q else E := by
  have hw : Region.wanted o (yielded ops a.tmps) = true := by simp [Region.wanted, hgd]
  rw [if_pos hw]
  obtain ⟨ad, c, w', hr, h2, h3, h4⟩ := run_app (w := w) t o.type base e i z size bytes ht hi hz hsize hby hzs hsz v n xs hown x m news hx hl h1 h63 hbytes hbase
  unfold Oper.wp execOp
  simp only [ho, resolve, invoke, builtin, Sem.run_bind, Sem.run_pure, Result.andThen_ok, List.map_toArray, List.map_cons, List.map_nil, hs, hy, hr]
  exact h ad c w' h2 h3 h4

theorem below_drew (w : World) : Below w.heap.size w w.drew := ⟨rfl, rfl, rfl, Nat.le_refl _, fun _ _ => rfl⟩
theorem below_drew_alloc (w : World) (o : Obj) : Below w.heap.size w (w.drew.alloc o) := (below_drew w).alloc (Nat.le_refl _) o
theorem drew_alloc_new (w : World) (o : Obj) : (w.drew.alloc o).heap[w.heap.size]? = some o := heap_alloc_new w.drew o
theorem below_alloc_drew (w : World) (o : Obj) : Below w.heap.size w (w.alloc o).drew := ((Below.refl _ _).alloc (Nat.le_refl _) o).drew
theorem alloc_drew_new (w : World) (o : Obj) : (w.alloc o).drew.heap[w.heap.size]? = some o := heap_alloc_new w o
theorem src_after {wx wA : World} {o : Obj} (h : (wx.alloc o).drew.grownBy wA (Value.slice none 0 0).ownBlock) : wA.heap[wx.heap.size]? = some o := (h.block wx.heap.size (by simp) (by simp [Value.ownBlock])).trans (alloc_drew_new wx o)
theorem lies_block {w : World} {b : Nat} {cs : Array Value} {e : TypeId} {fr : Nat × Nat} (h : w.heap[b]? = some (.cells cs e fr)) (m c : Nat) : Lies w (.slice (some ⟨b, 0, none⟩) m c) m cs.toList := .inr ⟨_, _, rfl, World.news_of_block h⟩

/-- An append, at a step of a region that draws, onto a row that is new since wx. -/
theorem step_new {wx w : World} {ops : Array Oper} {o : Oper} {a : Act} {K : Act → World → Prop} {Q : Exit → Act → World → Prop} {E : Prop} (hgd : o.guard = none) (s y : Operand) (t : TypeId)
    (ho : o.op = .call { callee := .builtin .append, args := #[s, y], argTypes := #[t, t] }) (hbw : Below wx.heap.size wx w)
    (e : TypeId) (i : TypeInfo) (z : Value) (size bytes : Nat) (ht : Try.prog.underlying t = some (.slice e)) (hi : Try.prog.info? e = some i) (hz : i.zero = some z)
    (hsize : i.size = size) (hby : i.bytes = bytes) (hzs : z.cells.size = size) (hsz : 0 < size)
    (v : Value) (n : Nat) (xs : List Value) (hs : a.eval s = v) (hown : w.ownsRow wx.heap.size e size v n xs) (x : Value) (m : Nat) (news : List Value) (hy : a.eval y = x) (hx : Lies w x m news) (hl : news.length = m * size) (h1 : ∀ u ∈ news, u.oneCell' = true)
    (h63 : n + m ≤ maxLen) (hbytes : (n + m) * bytes ≤ 140737488355328)
    (h : ∀ ad c w', w'.ownsRow wx.heap.size e size (.slice ad (n + m) c) (n + m) (xs ++ news) → Below wx.heap.size wx w' → w.grownBy w' v.ownBlock → K (a.put o.dst (.slice ad (n + m) c)) w') :
    if Region.wanted o (yielded ops a.tmps) = true then Oper.wp Try.prog o a w K Q else E :=
  step_app hgd s y t ho wx.heap.size e i z size bytes ht hi hz hsize hby hzs hsz v n xs hs hown x m news hy hx hl h1 h63 hbytes hbw.size
    fun ad c w' h2 h3 _ => h ad c w' h2 (hbw.grown h3 hbw.size (fun j hj => (hown.lt j hj).1)) h3

end Go.Proofs.Ytlndphpidkacgaa
