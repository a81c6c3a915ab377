/- What comes in: bytes, a row of records: opened. -/
import Derived.Test.YtemimppknlfghaaCm
import Derived.Test.YtemimppknlfghaaCo
namespace Go.Proofs.Ytemimppknlfghaa
open Go.ChangeShapes Go.WideShapes Go.ChangeAt Go.RowKit Go.Deep Go.Joins
set_option linter.unusedSimpArgs false
set_option linter.unusedVariables false

theorem u8_wf {k : Int} (h : (Lit.int .u8 k).wf = true) : ((UInt8.ofNat k.toNat).toNat : Int) = k := by
  simp [Lit.wf, IntKind.min, IntKind.max, IntKind.signed, IntKind.bits] at h
  exact ofInt_u8 (by omega) (by omega)

theorem spot_none {w : World} {a : Addr} {v : Value} (h : w.cell? a = some v) : a = ⟨a.block, a.off, none⟩ := by
  obtain ⟨b, off, spot⟩ := a
  cases spot with
  | none => rfl
  | some s =>
    exfalso
    simp only [World.cell?] at h
    split at h <;> simp at h

/-- Bytes. -/
theorem open_bytes {H : Type} {enc : TypeId × Value → H} {w : World} {base : Nat} {held : Bool} {fuel : Nat} {a0 : Option Addr} {len cap : Nat} {x : DataW H × List MemPlace}
    (h : DataW.trod enc Try.prog w base (fun _ => true) held fuel 48 [.slice a0 len cap] = some x) : ∃ bs : List UInt8, ByAt w a0 bs ∧ bs.length = len ∧ len ≤ cap ∧ len ≤ maxLen ∧ (a0 = none → len = 0 ∧ cap = 0) := by
  rcases open_slice1 Try.underlying48 cells5 h with ⟨hcs, _⟩ | ⟨a, len', cap', m, n, V, D, Pl, hcs, _, hl, hm, hmm, _, hx⟩
  · simp at hcs
    obtain ⟨rfl, rfl, rfl⟩ := hcs
    exact ⟨[], fun h => absurd rfl h, rfl, Nat.le_refl _, Nat.zero_le _, fun _ => ⟨rfl, rfl⟩⟩
  · simp at hcs
    obtain ⟨rfl, rfl, rfl⟩ := hcs
    simp only [if_true] at hmm
    subst hmm
    obtain ⟨f, hf⟩ : ∃ f : Nat → UInt8, ∀ i, i < len → w.cell? (a.add i) = some (.int .u8 ((f i).toNat : Int)) := by
      classical
      have hc : ∀ i, i < len → ∃ b : UInt8, w.cell? (a.add i) = some (.int .u8 (b.toNat : Int)) := fun i hi => by
        obtain ⟨h1, h2⟩ := hx i (by omega)
        obtain ⟨k, e, _, hw⟩ := DataW.trod_int Try.underlying5 h2
        simp at e
        rw [e] at h1
        exact ⟨UInt8.ofNat k.toNat, by rw [u8_wf hw]; exact h1⟩
      refine ⟨fun i => if hi : i < len then Classical.choose (hc i hi) else 0, fun i hi => ?_⟩
      simp only [dif_pos hi]
      exact Classical.choose_spec (hc i hi)
    refine ⟨(List.range len).map f, fun h0 => ?_, by simp, hl, by omega, fun h => by cases h⟩
    have h0 : 0 < len := by
      rcases Nat.eq_zero_or_pos len with h1 | h1
      · rw [h1] at h0; simp at h0
      · exact h1
    have e0 := hf 0 h0
    have ea : a = ⟨a.block, a.off, none⟩ := by
      have : a.add 0 = a := by simp [Addr.add]
      rw [this] at e0
      exact spot_none e0
    refine ⟨a.block, a.off, by rw [← ea], fun j y hj => ?_⟩
    have hj' : j < len := by have := (List.getElem?_eq_some_iff.1 hj).1; simpa using this
    have hy : y = f j := by
      rw [List.getElem?_map, List.getElem?_range hj'] at hj
      simpa using hj.symm
    subst hy
    have := hf j hj'
    rw [ea, addr_add] at this
    exact this

/-- A row of records. -/
theorem open_recs {H : Type} {enc : TypeId × Value → H} {w : World} {base : Nat} {held : Bool} {fuel : Nat} {a0 : Option Addr} {len cap : Nat} {x : DataW H × List MemPlace}
    (h : DataW.trod enc Try.prog w base (fun _ => true) held fuel 56 [.slice a0 len cap] = some x) : ∃ rs : List ARec, RecsAt w a0 len rs ∧ len ≤ cap ∧ len ≤ maxLen ∧ (a0 = none → len = 0 ∧ cap = 0) ∧ ∀ r, r ∈ rs → r.call.name.size ≤ maxLen ∧ r.call.dst.size ≤ maxLen ∧ r.call.text.size ≤ maxLen ∧ r.ans.size ≤ maxLen := by
  rcases open_slice Try.underlying56 h with ⟨hcs, _⟩ | ⟨a, len', cap', m, n, D, Pl, hcs, _, hl, hm, hmm, _, hx⟩
  · simp at hcs
    obtain ⟨rfl, rfl, rfl⟩ := hcs
    exact ⟨[], ⟨rfl, fun h => absurd h (Nat.lt_irrefl _)⟩, Nat.le_refl _, Nat.zero_le _, fun _ => ⟨rfl, rfl⟩, by simp⟩
  · simp at hcs
    obtain ⟨rfl, rfl, rfl⟩ := hcs
    simp only [if_true] at hmm
    subst hmm
    rw [cells47] at hx
    obtain ⟨f, hf⟩ : ∃ f : Nat → ARec, ∀ i, i < len → w.cells? base (a.add (i * 8)) 8 = some (rcells (f i)) ∧ (f i).call.name.size ≤ maxLen ∧ (f i).call.dst.size ≤ maxLen ∧ (f i).call.text.size ≤ maxLen ∧ (f i).ans.size ≤ maxLen := by
      classical
      have hc : ∀ i, i < len → ∃ r : ARec, w.cells? base (a.add (i * 8)) 8 = some (rcells r) ∧ r.call.name.size ≤ maxLen ∧ r.call.dst.size ≤ maxLen ∧ r.call.text.size ≤ maxLen ∧ r.ans.size ≤ maxLen := fun i hi => by
        obtain ⟨cs', h1, h2⟩ := hx i (by omega)
        obtain ⟨r, rfl, w1⟩ := open_rec h2
        exact ⟨r, h1, w1⟩
      refine ⟨fun i => if hi : i < len then Classical.choose (hc i hi) else zeroRec, fun i hi => ?_⟩
      simp only [dif_pos hi]
      exact Classical.choose_spec (hc i hi)
    refine ⟨(List.range len).map f, ⟨by simp, fun h0 => ?_⟩, hl, by omega, fun h => (by cases h), fun r hr => ?_⟩
    · have hs : ∀ i, i < len → ∀ j, j < 8 → w.cell? ((a.add (i * 8)).add j) = (rcells (f i))[j]? := fun i hi j hj => by
        obtain ⟨_, hlen, hcell⟩ := World.cells?_some (hf i hi).1
        exact hcell j hj
      have e0 := hs 0 h0 0 (by omega)
      have ea : a = ⟨a.block, a.off, none⟩ := by
        have : (a.add (0 * 8)).add 0 = a := by simp [Addr.add]
        rw [this] at e0
        exact spot_none e0
      refine ⟨a.block, a.off, by rw [← ea], fun j r hj => ?_⟩
      have hj' : j < len := by have := (List.getElem?_eq_some_iff.1 hj).1; simpa using this
      have hr : r = f j := by
        rw [List.getElem?_map, List.getElem?_range hj'] at hj
        simpa using hj.symm
      subst hr
      have hq : ∀ i, i < 8 → w.cell? ⟨a.block, a.off + j * 8 + i, none⟩ = (rcells (f j))[i]? := fun i hi => by
        have := hs j hj' i hi
        rw [ea, addr_add, addr_add] at this
        exact this
      exact ⟨hq 0 (by omega), hq 1 (by omega), hq 2 (by omega), hq 3 (by omega), hq 4 (by omega), hq 5 (by omega), hq 6 (by omega), hq 7 (by omega)⟩
    · simp at hr
      obtain ⟨i, hi, rfl⟩ := hr
      exact (hf i hi).2

set_option maxRecDepth 100000 in
/-- A record by value. -/
theorem open_recv {H : Type} {enc : TypeId × Value → H} {w : World} {base base' : Nat} {held : Bool} {spare : Nat → Bool} {v : Value} {d : DataW H} {p : List MemPlace} (hv : Value.okWide Try.prog w .any base' 47 v) (h : ∃ fuel, DataW.trod enc Try.prog w base spare held fuel 47 v.cells.toList = some (d, p)) :
    ∃ r : ARec, v = r.val ∧ r.call.name.size ≤ maxLen ∧ r.call.dst.size ≤ maxLen ∧ r.call.text.size ≤ maxLen ∧ r.ans.size ≤ maxLen := by
  obtain ⟨cells, rfl, hsz⟩ := okWide_struct Try.underlying47 hv
  obtain ⟨fuel, hf⟩ := h
  obtain ⟨r, hcs, hs⟩ := open_rec hf
  refine ⟨r, ?_, hs⟩
  have : cells.toList = rcells r := hcs
  unfold ARec.val
  congr 1
  apply Array.ext'
  simpa [rcells] using this

end Go.Proofs.Ytemimppknlfghaa
