/- CodecCut: rows of one's own, side by side. -/
import Derived.Test.YtemimppknlfghaaCo
import Derived.Test.YtemimppknlfghaaCn
namespace Go.Proofs.Ytemimppknlfghaa
open Go.RowKit
set_option linter.unusedSimpArgs false
set_option linter.unusedVariables false

/-- Append of bytes that lie somewhere onto bytes of one's own; and where they lie then. -/
theorem wpList_bytes' (w : World) {ops : Array Oper} {rest : List Oper} {o : Oper} {a : Act} {Q : Exit → Act → World → Prop} (hgd : o.guard = none) (s x : Operand)
    (ho : o.op = .call { callee := .builtin .append, args := #[s, x], argTypes := #[48, 48] })
    (N : Nat) (v : Value) (xs : List UInt8) (hs : a.eval s = v) (hown : BRow w N v xs) (y : Value) (m : Nat) (ys : List UInt8) (hx : a.eval x = y) (hl : ys.length = m) (hy : Lies w y m (bv ys)) (hsz : xs.length + m ≤ 1000000) (hN : N ≤ w.heap.size)
    (h : ∀ ad c w', BRow w' N (.slice ad (xs.length + m) c) (xs ++ ys) → w.grownBy w' v.ownBlock → ((Value.slice ad (xs.length + m) c).ownBlock = v.ownBlock ∨ (Value.slice ad (xs.length + m) c).ownBlock = some w.heap.size) → wpList Try.prog ops Q rest (a.put o.dst (.slice ad (xs.length + m) c)) w') : wpList Try.prog ops Q (o :: rest) a w := by
  obtain ⟨i0, hi0, hz0, hz1, hz2⟩ := info_parts cinfo5
  refine wpList_plain hgd fun K hK => ?_
  obtain ⟨ad, c, w', hr, h2, h3, h4⟩ := run_app (w := w) 48 o.type N 5 i0 _ 1 1 Try.underlying48 hi0 hz0 hz1 hz2 rfl (by omega) v xs.length (bv xs) hown y m (bv ys) hy (by rw [bv_length]; omega) (bv_one ys) (by unfold maxLen; omega) (by omega) hN
  unfold Oper.wp execOp
  simp only [ho, resolve, invoke, builtin, Sem.run_bind, Sem.run_pure, Result.andThen_ok, List.map_toArray, List.map_cons, List.map_nil, hs, hx, hr]
  refine hK _ _ (h ad c w' ?_ h3 h4)
  unfold BRow
  rw [List.length_append, hl, bv_append]
  exact h2

def endsV (os : List ARec) : List Value := (List.range os.length).map fun j => .int .i64 (endAt os (j + 1) : Int)
theorem endsV_snoc (os : List ARec) (r : ARec) : endsV (os ++ [r]) = endsV os ++ [.int .i64 (((os ++ [r]).flatMap encL).length : Int)] := by
  unfold endsV
  rw [List.length_append, List.length_singleton, List.range_succ, List.map_append]
  congr 1
  · apply List.map_congr_left
    intro j hj
    rw [List.mem_range] at hj
    unfold endAt
    rw [List.take_append_of_le_length (by omega)]
  · simp only [List.map_cons, List.map_nil, endAt]
    rw [List.take_of_length_le (by simp)]
theorem endsV_at (os : List ARec) (j : Nat) (h : j < os.length) : (endsV os)[j]? = some (.int .i64 (endAt os (j + 1) : Int)) := by
  unfold endsV
  rw [List.getElem?_map, List.getElem?_range h]
  rfl

/-- Three rows: bytes, records, where they end. -/
structure CutRows (N : Nat) (wr : World) (v5 v6 v7 : Value) (os : List ARec) : Prop where
  b : BRow wr N v5 (os.flatMap encL)
  r : wr.ownsRow N 47 8 v6 os.length (os.flatMap rcells)
  e : wr.ownsRow N 3 1 v7 os.length (endsV os)
  d56 : ∀ k, v5.ownBlock = some k → v6.ownBlock ≠ some k
  d57 : ∀ k, v5.ownBlock = some k → v7.ownBlock ≠ some k
  d67 : ∀ k, v6.ownBlock = some k → v7.ownBlock ≠ some k
theorem CutRows.start (N : Nat) (w : World) : CutRows N w (.slice none 0 0) (.slice none 0 0) (.slice none 0 0) [] :=
  ⟨BRow.nil _ _, World.ownsRow_nil _ _ _ _, World.ownsRow_nil _ _ _ _, by simp [Value.ownBlock], by simp [Value.ownBlock], by simp [Value.ownBlock]⟩
theorem CutRows.below {N : Nat} {wr W : World} {v5 v6 v7 : Value} {os : List ARec} (h : CutRows N wr v5 v6 v7 os) (hb : Below wr.heap.size wr W) : CutRows N W v5 v6 v7 os :=
  ⟨h.b.below hb, ownsRow_same h.r (fun k hk => hb.block k (h.r.lt k hk).2), ownsRow_same h.e (fun k hk => hb.block k (h.e.lt k hk).2), h.d56, h.d57, h.d67⟩

def okRecs (rs : List ARec) (k : Nat) : List ARec := (rs.take k).filter fun r => decide (recI r = 0)
theorem okRecs_yes {rs : List ARec} {k : Nat} {r : ARec} (hr : rs[k]? = some r) (h : recI r = 0) : okRecs rs (k + 1) = okRecs rs k ++ [r] := by
  unfold okRecs
  rw [List.take_add_one, hr]
  simp [h]
theorem okRecs_no {rs : List ARec} {k : Nat} {r : ARec} (hr : rs[k]? = some r) (h : recI r ≠ 0) : okRecs rs (k + 1) = okRecs rs k := by
  unfold okRecs
  rw [List.take_add_one, hr]
  simp [h]
theorem okRecs_good (rs : List ARec) (k : Nat) : ∀ r, r ∈ okRecs rs k → recI r = 0 := fun r hr => by
  unfold okRecs at hr
  simpa using (List.mem_filter.1 hr).2
theorem okRecs_le (rs : List ARec) (k : Nat) : (okRecs rs k).length ≤ k := by
  unfold okRecs
  have := List.length_filter_le (fun r => decide (recI r = 0)) (rs.take k)
  rw [List.length_take] at this
  omega

/-- A row that another one's growing does not meet. -/
theorem row_keep {w w' : World} {N s n : Nat} {e : TypeId} {v u : Value} {xs : List Value} (h : w.ownsRow N e s v n xs) (hg : w.grownBy w' u.ownBlock) (hd : ∀ k, v.ownBlock = some k → u.ownBlock ≠ some k) : w'.ownsRow N e s v n xs :=
  ownsRow_same h (fun k hk => hg.block k (h.lt k hk).2 (fun e => hd k hk e.symm))
/-- .. and where it lies then is another place still. -/
theorem apart_new {w : World} {v u u' : Value} (hd : ∀ k, v.ownBlock = some k → u.ownBlock ≠ some k) (hat : u'.ownBlock = u.ownBlock ∨ u'.ownBlock = some w.heap.size) (hlt : ∀ k, v.ownBlock = some k → k < w.heap.size) : ∀ k, v.ownBlock = some k → u'.ownBlock ≠ some k := fun k hk e => by
  rcases hat with h1 | h1
  · exact hd k hk (h1.symm.trans e)
  · rw [h1] at e
    cases e
    exact absurd (hlt _ hk) (Nat.lt_irrefl _)
theorem apart_at {v u : Value} {g H n c : Nat} (hd : ∀ k, v.ownBlock = some k → u.ownBlock ≠ some k) (hat : u.ownBlock = some g ∨ g = H) (hlt : ∀ k, v.ownBlock = some k → k < H) : ∀ k, v.ownBlock = some k → (Value.slice (some ⟨g, 0, none⟩) n c).ownBlock ≠ some k := fun k hk e => by
  have e : g = k := by simpa [Value.ownBlock] using e
  subst e
  rcases hat with h1 | h1
  · exact hd g hk h1
  · have := hlt g hk
    omega
theorem apart_sym {v u : Value} (hd : ∀ k, v.ownBlock = some k → u.ownBlock ≠ some k) : ∀ k, u.ownBlock = some k → v.ownBlock ≠ some k := fun k hk e => hd k e hk
theorem row_cap {w : World} {N s n c : Nat} {e : TypeId} {a : Option Addr} {xs : List Value} (h : w.ownsRow N e s (.slice a n c) n xs) : n ≤ c := by
  rcases h.2 with ⟨e, _⟩ | ⟨g', c', cur, e, _, _, h1, _⟩
  · cases e; exact Nat.le_refl _
  · cases e; exact h1
theorem row_none {w : World} {N s n c : Nat} {e : TypeId} {xs : List Value} (h : w.ownsRow N e s (.slice none n c) n xs) : n = 0 ∧ c = 0 := by
  rcases h.2 with ⟨e, _⟩ | ⟨g', c', cur, e, _, _, h1, _⟩
  · cases e; exact ⟨rfl, rfl⟩
  · cases e
theorem row_some {w : World} {N s n c : Nat} {e : TypeId} {A : Addr} {xs : List Value} (h : w.ownsRow N e s (.slice (some A) n c) n xs) : ∃ g, A = ⟨g, 0, none⟩ ∧ g < w.heap.size := by
  rcases h.2 with ⟨e, _⟩ | ⟨g', c', cur, e, _, _, h1, _⟩
  · cases e
  · cases e; exact ⟨g', rfl, (h.lt g' rfl).2⟩

/-- All of a row's first bytes. -/
theorem All_row {w : World} {N nb c K : Nat} {a : Option Addr} {bs : List UInt8} (h : BRow w N (.slice a nb c) bs) (hn : bs.length = nb) (hK : K ≤ nb) (hm : nb ≤ 1000000) : Calls Try.prog 38 #[.slice a K c] w (AllRes w (allR (bs.take K))) := by
  have h' := h
  unfold BRow at h'
  rw [hn] at h'
  cases a with
  | none =>
    obtain ⟨rfl, rfl⟩ := row_none h'
    obtain rfl : K = 0 := by omega
    rw [List.take_zero]
    exact All_none w
  | some A =>
    obtain ⟨g, rfl, hg⟩ := row_some h'
    have hc := row_cap h'
    refine All_some g 0 K c (bs.take K) w (fun j x hx => h.cells j x ?_) hg (by rw [List.length_take]; omega) (by omega) (by omega)
    rw [List.getElem?_take] at hx
    split at hx
    · exact hx
    · cases hx

theorem exists_cut (os : List ARec) (K : Nat) : ∃ m0, m0 ≤ os.length ∧ endAt os m0 ≤ K ∧ (m0 < os.length → K < endAt os (m0 + 1)) ∧ ∀ j, j < m0 → endAt os (j + 1) ≤ K := by
  have key : ∀ n, ∃ m0, m0 ≤ n ∧ endAt os m0 ≤ K ∧ (m0 < n → K < endAt os (m0 + 1)) ∧ ∀ j, j < m0 → endAt os (j + 1) ≤ K := fun n => by
    induction n with
    | zero => exact ⟨0, Nat.le_refl _, by simp [endAt], fun h => absurd h (Nat.lt_irrefl _), fun j h => absurd h (Nat.not_lt_zero _)⟩
    | succ n ih =>
      obtain ⟨m0, h1, h2, h3, h4⟩ := ih
      by_cases hm : m0 < n
      · exact ⟨m0, by omega, h2, fun _ => h3 hm, h4⟩
      · obtain rfl : m0 = n := by omega
        by_cases h5 : endAt os (m0 + 1) ≤ K
        · refine ⟨m0 + 1, Nat.le_refl _, h5, fun h => absurd h (Nat.lt_irrefl _), fun j hj => ?_⟩
          by_cases h6 : j < m0
          · exact h4 j h6
          · obtain rfl : j = m0 := by omega
            exact h5
        · exact ⟨m0, by omega, h2, fun _ => by omega, h4⟩
  exact key os.length
theorem recs_lies {w : World} {N m c : Nat} {a : Option Addr} {os : List ARec} (h : w.ownsRow N 47 8 (.slice a m c) m (os.flatMap rcells)) (hm : os.length = m) (k : Nat) (hk : k ≤ m) : RecsAt w a k (os.take k) := (recs_row h hm).take k hk

theorem info3 : (Try.prog.info? 3).map (fun i => (i.zero, i.size, i.bytes)) = some (some (.int .i64 0), 1, 8) := by kernel_rfl

end Go.Proofs.Ytemimppknlfghaa
