/- What comes in: steps of a world: opened, with the sizes of their texts. -/
import Derived.Test.YtmbhbnoifimeaabGreatQO7
namespace Go.Proofs.YtmbhbnoifimeaabGreat
open Go.ChangeShapes Go.WideShapes Go.ChangeAt Go.RowKit Go.Deep Go.Joins
set_option linter.unusedSimpArgs false
set_option linter.unusedVariables false

theorem cells69 : Tryz.prog.cellsOf 69 = 7 := by kernel_rfl
theorem list7 {α : Type} {l : List α} (h : l.length = 7) : ∃ c0 c1 c2 c3 c4 c5 c6, l = [c0, c1, c2, c3, c4, c5, c6] := by
  match l, h with
  | [c0, c1, c2, c3, c4, c5, c6], _ => exact ⟨_, _, _, _, _, _, _, rfl⟩
set_option maxRecDepth 100000 in
/-- A step's seven cells. -/
theorem open_xW {H : Type} {enc : TypeId × Value → H} {w : World} {base : Nat} {spare : Nat → Bool} {held : Bool} {fuel : Nat} {cs : List Value} {x : DataW H × List MemPlace} (h : DataW.trod enc Tryz.prog w base spare held fuel 69 cs = some x) (hw : ∀ n ∈ x.1.weights Tryz.prog 69, n ≤ reachBytes) :
    ∃ s : AX, cs = wxcells s ∧ SmallC s.call := by
  obtain ⟨y0, y1, y2, y3, n, hx, hl, h0, h1, h2, h3⟩ := trodS4 Tryz.underlying69 h
  rw [cells69] at hl
  obtain ⟨c0, c1, c2, c3, c4, c5, c6, rfl⟩ := list7 hl
  rw [hx] at hw
  simp only [DataW.weights, Tryz.underlying69, List.map, DataW.weightsEach, List.append_nil, List.mem_append] at hw
  simp only [cells3, cells32, List.drop, List.take] at h0 h1 h2 h3
  obtain ⟨k0, f0, _, _⟩ := DataW.trod_int Tryz.underlying3 h0
  obtain ⟨k1, f1, _, _⟩ := DataW.trod_int Tryz.underlying3 h1
  obtain ⟨k2, f2, _, _⟩ := DataW.trod_int Tryz.underlying3 h2
  obtain ⟨c, f3, s1, s2, s3⟩ := open_callW h3 (fun n hn => hw n (by simp [hn]))
  simp at f0 f1 f2 f3
  obtain ⟨rfl, rfl, rfl, rfl⟩ := f3
  subst f0 f1 f2
  exact ⟨⟨k0, k1, k2, c⟩, rfl, s1, s2, s3⟩

/-- A row of steps. -/
theorem open_xs {H : Type} {enc : TypeId × Value → H} {w : World} {base : Nat} {held : Bool} {fuel : Nat} {a0 : Option Addr} {len cap : Nat} {x : DataW H × List MemPlace}
    (h : DataW.trod enc Tryz.prog w base (fun _ => true) held fuel 22 [.slice a0 len cap] = some x) (hw : ∀ n ∈ x.1.weights Tryz.prog 22, n ≤ reachBytes) : ∃ xs : List AX, XsAt w a0 len xs := by
  rcases open_slice Tryz.underlying22 h with ⟨hcs, _⟩ | ⟨a, len', cap', m, n, D, Pl, hcs, _, hl, hm, hmm, hxe, hx⟩
  · simp at hcs
    obtain ⟨rfl, rfl, rfl⟩ := hcs
    exact ⟨[], rfl, Nat.zero_le _, by simp, fun h => absurd h (Nat.lt_irrefl _)⟩
  · simp at hcs
    obtain ⟨rfl, rfl, rfl⟩ := hcs
    simp only [if_true] at hmm
    subst hmm
    rw [cells69] at hx
    have hwD : ∀ i, i < len → ∀ n ∈ (D i).weights Tryz.prog 69, n ≤ reachBytes := fun i hi n hn => hw n (by
      rw [hxe]
      simp only [DataW.weights, Tryz.underlying22, List.mem_cons, List.mem_append]
      exact .inr (.inl (mem_weightsAll (List.mem_map.2 ⟨i, List.mem_range.2 hi, rfl⟩) n hn)))
    obtain ⟨f, hf⟩ : ∃ f : Nat → AX, ∀ i, i < len → w.cells? base (a.add (i * 7)) 7 = some (wxcells (f i)) ∧ SmallC (f i).call := by
      classical
      have hc : ∀ i, i < len → ∃ r : AX, w.cells? base (a.add (i * 7)) 7 = some (wxcells r) ∧ SmallC r.call := fun i hi => by
        obtain ⟨cs', h1, h2⟩ := hx i (by omega)
        obtain ⟨r, rfl, w1⟩ := open_xW h2 (hwD i hi)
        exact ⟨r, h1, w1⟩
      refine ⟨fun i => if hi : i < len then Classical.choose (hc i hi) else ⟨0, 0, 0, zeroCall⟩, fun i hi => ?_⟩
      simp only [dif_pos hi]
      exact Classical.choose_spec (hc i hi)
    refine ⟨(List.range len).map f, by simp, by omega, fun r hr => ?_, fun h0 => ?_⟩
    · simp at hr
      obtain ⟨i, hi, rfl⟩ := hr
      exact (hf i hi).2
    · have hs : ∀ i, i < len → ∀ j, j < 7 → w.cell? ((a.add (i * 7)).add j) = (wxcells (f i))[j]? := fun i hi j hj => by
        obtain ⟨_, hlen, hcell⟩ := World.cells?_some (hf i hi).1
        exact hcell j hj
      have e0 := hs 0 h0 0 (by omega)
      have ea : a = ⟨a.block, a.off, none⟩ := by
        have : (a.add (0 * 7)).add 0 = a := by simp [Addr.add]
        rw [this] at e0
        exact spot_none e0
      refine ⟨a.block, a.off, by rw [← ea], fun j r hj => ?_⟩
      have hj' : j < len := by have := (List.getElem?_eq_some_iff.1 hj).1; simpa using this
      have hr : r = f j := by
        rw [List.getElem?_map, List.getElem?_range hj'] at hj
        simpa using hj.symm
      subst hr
      have hq : ∀ i, i < 7 → w.cell? ⟨a.block, a.off + j * 7 + i, none⟩ = (wxcells (f j))[i]? := fun i hi => by
        have := hs j hj' i hi
        rw [ea, addr_add, addr_add] at this
        exact this
      exact ⟨hq 0 (by omega), hq 1 (by omega), hq 2 (by omega), hq 3 (by omega), hq 4 (by omega), hq 5 (by omega), hq 6 (by omega)⟩

end Go.Proofs.YtmbhbnoifimeaabGreat
