/- What comes in: steps of a client, calls by value: opened, with the sizes of their texts. -/
import Derived.Test.YtfpommjolbipmabKg
import Derived.ProofKit
import Derived.OpenShut
import Derived.ShutString
import Derived.ChangeOld
import Derived.SizedLaws
import Derived.Deep.Slices
import Derived.Lib.SmallJoins
namespace Go.Proofs.Ytfpommjolbipmab
open Go.ChangeShapes Go.WideShapes Go.ChangeAt Go.RowKit Go.Deep Go.Joins
set_option linter.unusedSimpArgs false
set_option linter.unusedVariables false

theorem own0 : ownKnob Try.prog.godebug = none := by kernel_rfl

theorem laidOut0 : laidOutB Try.prog = true := by kernel_rfl

theorem cells29 : Try.prog.cellsOf 29 = 4 := by kernel_rfl

theorem cells31 : Try.prog.cellsOf 31 = 2 := by kernel_rfl

theorem cells3 : Try.prog.cellsOf 3 = 1 := by kernel_rfl

theorem cells4 : Try.prog.cellsOf 4 = 1 := by kernel_rfl

theorem cells9 : Try.prog.cellsOf 9 = 1 := by kernel_rfl

theorem cells33 : Try.prog.cellsOf 33 = 9 := by kernel_rfl

theorem spot_none {w : World} {a : Addr} {v : Value} (h : w.cell? a = some v) : a = ⟨a.block, a.off, none⟩ := by
  obtain ⟨b, off, spot⟩ := a
  cases spot with
  | none => rfl
  | some s =>
    exfalso
    simp only [World.cell?] at h
    split at h <;> simp at h

theorem reach48 {s : ByteArray} (h : s.data.toList.length ≤ reachBytes) : s.size ≤ 281474976710656 := by
  have h1 : s.size = s.data.toList.length := by show s.data.size = _; rw [Array.length_toList]
  unfold reachBytes at h
  omega

theorem cells56 : Try.prog.cellsOf 56 = 16 := by kernel_rfl

section
variable {H : Type} {enc : TypeId × Value → H} {w : World} {base : Nat} {spare : Nat → Bool} {held : Bool}

theorem trodS2 {P : Program} {t : TypeId} {f0 f1 : Field} {fuel : Nat} {cs : List Value} {x : DataW H × List MemPlace} (ht : P.underlying t = some (.struct #[f0, f1])) (h : DataW.trod enc P w base spare held fuel t cs = some x) :
    ∃ y0 y1 n, x.1 = .agg [y0.1, y1.1] ∧ cs.length = P.cellsOf t ∧ DataW.trod enc P w base spare held n f0.type ((cs.drop f0.offset).take (P.cellsOf f0.type)) = some y0 ∧ DataW.trod enc P w base spare held n f1.type ((cs.drop f1.offset).take (P.cellsOf f1.type)) = some y1 := by
  obtain ⟨xs, n, _, rfl, hl, hlen, hf⟩ := DataW.trod_struct ht h
  match xs, hlen with
  | [y0, y1], _ => exact ⟨y0, y1, n, rfl, hl, by simpa using hf 0 f0 rfl, by simpa using hf 1 f1 rfl⟩

theorem trodS4 {P : Program} {t : TypeId} {f0 f1 f2 f3 : Field} {fuel : Nat} {cs : List Value} {x : DataW H × List MemPlace} (ht : P.underlying t = some (.struct #[f0, f1, f2, f3])) (h : DataW.trod enc P w base spare held fuel t cs = some x) :
    ∃ y0 y1 y2 y3 n, x.1 = .agg [y0.1, y1.1, y2.1, y3.1] ∧ cs.length = P.cellsOf t ∧ DataW.trod enc P w base spare held n f0.type ((cs.drop f0.offset).take (P.cellsOf f0.type)) = some y0 ∧ DataW.trod enc P w base spare held n f1.type ((cs.drop f1.offset).take (P.cellsOf f1.type)) = some y1 ∧ DataW.trod enc P w base spare held n f2.type ((cs.drop f2.offset).take (P.cellsOf f2.type)) = some y2 ∧ DataW.trod enc P w base spare held n f3.type ((cs.drop f3.offset).take (P.cellsOf f3.type)) = some y3 := by
  obtain ⟨xs, n, _, rfl, hl, hlen, hf⟩ := DataW.trod_struct ht h
  match xs, hlen with
  | [y0, y1, y2, y3], _ => exact ⟨y0, y1, y2, y3, n, rfl, hl, by simpa using hf 0 f0 rfl, by simpa using hf 1 f1 rfl, by simpa using hf 2 f2 rfl, by simpa using hf 3 f3 rfl⟩

theorem trodS5 {P : Program} {t : TypeId} {f0 f1 f2 f3 f4 : Field} {fuel : Nat} {cs : List Value} {x : DataW H × List MemPlace} (ht : P.underlying t = some (.struct #[f0, f1, f2, f3, f4])) (h : DataW.trod enc P w base spare held fuel t cs = some x) :
    ∃ y0 y1 y2 y3 y4 n, x.1 = .agg [y0.1, y1.1, y2.1, y3.1, y4.1] ∧ cs.length = P.cellsOf t ∧ DataW.trod enc P w base spare held n f0.type ((cs.drop f0.offset).take (P.cellsOf f0.type)) = some y0 ∧ DataW.trod enc P w base spare held n f1.type ((cs.drop f1.offset).take (P.cellsOf f1.type)) = some y1 ∧ DataW.trod enc P w base spare held n f2.type ((cs.drop f2.offset).take (P.cellsOf f2.type)) = some y2 ∧ DataW.trod enc P w base spare held n f3.type ((cs.drop f3.offset).take (P.cellsOf f3.type)) = some y3 ∧ DataW.trod enc P w base spare held n f4.type ((cs.drop f4.offset).take (P.cellsOf f4.type)) = some y4 := by
  obtain ⟨xs, n, _, rfl, hl, hlen, hf⟩ := DataW.trod_struct ht h
  match xs, hlen with
  | [y0, y1, y2, y3, y4], _ => exact ⟨y0, y1, y2, y3, y4, n, rfl, hl, by simpa using hf 0 f0 rfl, by simpa using hf 1 f1 rfl, by simpa using hf 2 f2 rfl, by simpa using hf 3 f3 rfl, by simpa using hf 4 f4 rfl⟩

set_option maxRecDepth 100000 in
/-- A call's four cells. -/
theorem open_callW {fuel : Nat} {cs : List Value} {x : DataW H × List MemPlace} (h : DataW.trod enc Try.prog w base spare held fuel 29 cs = some x) (hw : ∀ n ∈ x.1.weights Try.prog 29, n ≤ reachBytes) :
    ∃ c : ACall, cs = [.int .i64 c.kind, .string c.name, .string c.dst, .string c.text] ∧ c.name.size ≤ 281474976710656 ∧ c.dst.size ≤ 281474976710656 ∧ c.text.size ≤ 281474976710656 := by
  obtain ⟨y0, y1, y2, y3, n, hx, hl, h0, h1, h2, h3⟩ := trodS4 Try.underlying29 h
  rw [cells29] at hl
  obtain ⟨c0, c1, c2, c3, hcs⟩ := array4 (cs := cs.toArray) (by simpa using hl)
  have hcs : cs = [c0, c1, c2, c3] := by simpa using congrArg Array.toList hcs
  subst hcs
  simp only [cells3, cells9, List.drop, List.take] at h0 h1 h2 h3
  obtain ⟨k, e0, f0, wk⟩ := DataW.trod_int Try.underlying3 h0
  obtain ⟨a, e1, f1, wa⟩ := DataW.trod_string Try.underlying9 h1
  obtain ⟨b, e2, f2, wb⟩ := DataW.trod_string Try.underlying9 h2
  obtain ⟨t, e3, f3, wt⟩ := DataW.trod_string Try.underlying9 h3
  simp at e0 e1 e2 e3
  rw [hx] at hw
  subst e0 e1 e2 e3 f0 f1 f2 f3
  simp only [DataW.weights, Try.underlying29, List.map, DataW.weightsEach, List.nil_append, List.append_nil, List.mem_append, List.mem_singleton] at hw
  exact ⟨⟨k, a, b, t⟩, rfl, reach48 (hw _ (by simp)), reach48 (hw _ (by simp)), reach48 (hw _ (by simp))⟩

theorem list9 {α : Type} {l : List α} (h : l.length = 9) : ∃ c0 c1 c2 c3 c4 c5 c6 c7 c8, l = [c0, c1, c2, c3, c4, c5, c6, c7, c8] := by
  match l, h with
  | [c0, c1, c2, c3, c4, c5, c6, c7, c8], _ => exact ⟨_, _, _, _, _, _, _, _, _, rfl⟩

set_option maxRecDepth 100000 in
/-- A packet's nine cells. -/
theorem open_pktW {fuel : Nat} {cs : List Value} {x : DataW H × List MemPlace} (h : DataW.trod enc Try.prog w base spare held fuel 33 cs = some x) (hw : ∀ n ∈ x.1.weights Try.prog 33, n ≤ reachBytes) :
    ∃ m : APkt, cs = pcells m ∧ SmallP m := by
  obtain ⟨y0, y1, y2, y3, y4, n, hx, hl, h0, h1, h2, h3, h4⟩ := trodS5 Try.underlying33 h
  rw [cells33] at hl
  obtain ⟨c0, c1, c2, c3, c4, c5, c6, c7, c8, rfl⟩ := list9 hl
  simp only [cells3, cells4, cells9, cells29, cells31, List.drop, List.take] at h0 h1 h2 h3 h4
  rw [hx] at hw
  simp only [DataW.weights, Try.underlying33, List.map, DataW.weightsEach, List.append_nil, List.mem_append] at hw
  obtain ⟨b0, e0, _⟩ := DataW.trod_bool Try.underlying4 h0
  obtain ⟨k1, e1, _, _⟩ := DataW.trod_int Try.underlying3 h1
  obtain ⟨k2, e2, _, _⟩ := DataW.trod_int Try.underlying3 h2
  obtain ⟨c, e3, s1, s2, s3⟩ := open_callW h3 (fun n hn => hw n (by simp [hn]))
  obtain ⟨z0, z1, n', hx', hl', g0, g1⟩ := trodS2 Try.underlying31 h4
  simp only [cells3, cells9, List.drop, List.take] at g0 g1
  obtain ⟨d, e4, _, _⟩ := DataW.trod_int Try.underlying3 g0
  obtain ⟨u, e5, f5, wu⟩ := DataW.trod_string Try.underlying9 g1
  have s4 : u.size ≤ 281474976710656 := reach48 (hw _ (by
    rw [hx', f5]
    simp [DataW.weights, Try.underlying31, DataW.weightsEach]))
  simp at e0 e1 e2 e3 e4 e5
  obtain ⟨rfl, rfl, rfl, rfl⟩ := e3
  subst e0 e1 e2 e4 e5
  exact ⟨⟨b0, k1, k2, c, d, u⟩, rfl, s1, s2, s3, s4⟩

theorem mem_weightsAll {e : TypeId} : ∀ {l : List (DataW H)} {d : DataW H}, d ∈ l → ∀ n ∈ d.weights Try.prog e, n ∈ DataW.weightsAll Try.prog e l
  | x :: l, d, hd, n, hn => by
    simp only [DataW.weightsAll, List.mem_append]
    rcases List.mem_cons.1 hd with rfl | h
    · exact .inl hn
    · exact .inr (mem_weightsAll h n hn)


theorem list16 {α : Type} {l : List α} (h : l.length = 16) : ∃ c0 l1 l2 l3, l = c0 :: (l1 ++ (l2 ++ l3)) ∧ l1.length = 4 ∧ l2.length = 9 ∧ l3.length = 2 := by
  match l, h with
  | [c0, c1, c2, c3, c4, c5, c6, c7, c8, c9, c10, c11, c12, c13, c14, c15], _ => exact ⟨c0, [c1, c2, c3, c4], [c5, c6, c7, c8, c9, c10, c11, c12, c13], [c14, c15], rfl, rfl, rfl, rfl⟩

set_option maxRecDepth 100000 in
/-- An answer's two cells. -/
theorem open_ansW {fuel : Nat} {cs : List Value} {x : DataW H × List MemPlace} (h : DataW.trod enc Try.prog w base spare held fuel 31 cs = some x) (hw : ∀ n ∈ x.1.weights Try.prog 31, n ≤ reachBytes) :
    ∃ (d : Int) (u : ByteArray), cs = [.int .i64 d, .string u] ∧ u.size ≤ 281474976710656 := by
  obtain ⟨y0, y1, n, hx, hl, h0, h1⟩ := trodS2 Try.underlying31 h
  rw [cells31] at hl
  match cs, hl with
  | [c0, c1], _ =>
    simp only [cells3, cells9, List.drop, List.take] at h0 h1
    obtain ⟨k, e0, f0, wk⟩ := DataW.trod_int Try.underlying3 h0
    obtain ⟨a, e1, f1, wa⟩ := DataW.trod_string Try.underlying9 h1
    simp at e0 e1
    rw [hx] at hw
    subst e0 e1 f0 f1
    simp only [DataW.weights, Try.underlying31, List.map, DataW.weightsEach, List.nil_append, List.append_nil, List.mem_append, List.mem_singleton] at hw
    exact ⟨k, a, rfl, reach48 (hw _ (by simp))⟩

set_option maxRecDepth 100000 in
/-- A step's sixteen cells. -/
theorem open_kstepW {fuel : Nat} {cs : List Value} {x : DataW H × List MemPlace} (h : DataW.trod enc Try.prog w base spare held fuel 56 cs = some x) (hw : ∀ n ∈ x.1.weights Try.prog 56, n ≤ reachBytes) :
    ∃ s : AKStep, cs = kxcells s ∧ SmallK s := by
  obtain ⟨y0, y1, y2, y3, n, hx, hl, h0, h1, h2, h3⟩ := trodS4 Try.underlying56 h
  rw [cells56] at hl
  obtain ⟨c0, l1, l2, l3, rfl, e1, e2, e3⟩ := list16 hl
  rw [hx] at hw
  simp only [DataW.weights, Try.underlying56, List.map, DataW.weightsEach, List.append_nil, List.mem_append] at hw
  have d0 : (c0 :: (l1 ++ (l2 ++ l3))).take 1 = [c0] := rfl
  have d1 : ((c0 :: (l1 ++ (l2 ++ l3))).drop 1).take 4 = l1 := by simp [← e1]
  have d2 : ((c0 :: (l1 ++ (l2 ++ l3))).drop 5).take 9 = l2 := by
    rw [show (c0 :: (l1 ++ (l2 ++ l3))).drop 5 = l2 ++ l3 by rw [List.drop_succ_cons, List.drop_append, e1]; simp [← e1]]
    simp [← e2]
  have d3 : ((c0 :: (l1 ++ (l2 ++ l3))).drop 14).take 2 = l3 := by
    rw [show (c0 :: (l1 ++ (l2 ++ l3))).drop 14 = l3 by rw [List.drop_succ_cons, List.drop_append, e1, List.drop_append, e2, List.drop_of_length_le (by omega), List.drop_of_length_le (by omega)]; simp]
    exact List.take_of_length_le (by omega)
  simp only [cells3, cells29, cells31, cells33, List.drop_zero] at h0 h1 h2 h3
  rw [d0] at h0
  rw [d1] at h1
  rw [d2] at h2
  rw [d3] at h3
  obtain ⟨k0, f0, _, _⟩ := DataW.trod_int Try.underlying3 h0
  obtain ⟨c, f1, s1, s2, s3⟩ := open_callW h1 (fun n hn => hw n (by simp [hn]))
  obtain ⟨m, f2, s4⟩ := open_pktW h2 (fun n hn => hw n (by simp [hn]))
  obtain ⟨d, u, f3, s5⟩ := open_ansW h3 (fun n hn => hw n (by simp [hn]))
  simp at f0
  subst f0 f1 f2 f3
  exact ⟨⟨k0, c, m, d, u⟩, rfl, ⟨s1, s2, s3⟩, s4, s5⟩
end

/-- A row of steps. -/
theorem open_ksteps {H : Type} {enc : TypeId × Value → H} {w : World} {base : Nat} {held : Bool} {fuel : Nat} {a0 : Option Addr} {len cap : Nat} {x : DataW H × List MemPlace}
    (h : DataW.trod enc Try.prog w base (fun _ => true) held fuel 46 [.slice a0 len cap] = some x) (hw : ∀ n ∈ x.1.weights Try.prog 46, n ≤ reachBytes) : ∃ xs : List AKStep, KStepsAt w a0 len xs := by
  rcases open_slice Try.underlying46 h with ⟨hcs, _⟩ | ⟨a, len', cap', m, n, D, Pl, hcs, _, hl, hm, hmm, hxe, hx⟩
  · simp at hcs
    obtain ⟨rfl, rfl, rfl⟩ := hcs
    exact ⟨[], rfl, Nat.zero_le _, by simp, fun h => absurd h (Nat.lt_irrefl _)⟩
  · simp at hcs
    obtain ⟨rfl, rfl, rfl⟩ := hcs
    simp only [if_true] at hmm
    subst hmm
    rw [cells56] at hx
    have hwD : ∀ i, i < len → ∀ n ∈ (D i).weights Try.prog 56, n ≤ reachBytes := fun i hi n hn => hw n (by
      rw [hxe]
      simp only [DataW.weights, Try.underlying46, List.mem_cons, List.mem_append]
      exact .inr (.inl (mem_weightsAll (List.mem_map.2 ⟨i, List.mem_range.2 hi, rfl⟩) n hn)))
    obtain ⟨f, hf⟩ : ∃ f : Nat → AKStep, ∀ i, i < len → w.cells? base (a.add (i * 16)) 16 = some (kxcells (f i)) ∧ SmallK (f i) := by
      classical
      have hc : ∀ i, i < len → ∃ r : AKStep, w.cells? base (a.add (i * 16)) 16 = some (kxcells r) ∧ SmallK r := fun i hi => by
        obtain ⟨cs', h1, h2⟩ := hx i (by omega)
        obtain ⟨r, rfl, w1⟩ := open_kstepW h2 (hwD i hi)
        exact ⟨r, h1, w1⟩
      refine ⟨fun i => if hi : i < len then Classical.choose (hc i hi) else ⟨0, zeroCall, zeroPkt, 0, ⟨#[]⟩⟩, fun i hi => ?_⟩
      simp only [dif_pos hi]
      exact Classical.choose_spec (hc i hi)
    refine ⟨(List.range len).map f, by simp, by omega, fun r hr => ?_, fun h0 => ?_⟩
    · simp at hr
      obtain ⟨i, hi, rfl⟩ := hr
      exact (hf i hi).2
    · have hs : ∀ i, i < len → ∀ j, j < 16 → w.cell? ((a.add (i * 16)).add j) = (kxcells (f i))[j]? := fun i hi j hj => by
        obtain ⟨_, hlen, hcell⟩ := World.cells?_some (hf i hi).1
        exact hcell j hj
      have e0 := hs 0 h0 0 (by omega)
      have ea : a = ⟨a.block, a.off, none⟩ := by
        have : (a.add (0 * 16)).add 0 = a := by simp [Addr.add]
        rw [this] at e0
        exact spot_none e0
      refine ⟨a.block, a.off, by rw [← ea], fun j r hj => ?_⟩
      have hj' : j < len := by have := (List.getElem?_eq_some_iff.1 hj).1; simpa using this
      have hr : r = f j := by
        rw [List.getElem?_map, List.getElem?_range hj'] at hj
        simpa using hj.symm
      subst hr
      have hq : ∀ i, i < 16 → w.cell? ⟨a.block, a.off + j * 16 + i, none⟩ = (kxcells (f j))[i]? := fun i hi => by
        have := hs j hj' i hi
        rw [ea, addr_add, addr_add] at this
        exact this
      exact ⟨hq 0 (by omega), hq 1 (by omega), hq 2 (by omega), hq 3 (by omega), hq 4 (by omega), hq 5 (by omega), hq 6 (by omega), hq 7 (by omega), hq 8 (by omega), hq 9 (by omega), hq 10 (by omega), hq 11 (by omega), hq 12 (by omega), hq 13 (by omega), hq 14 (by omega), hq 15 (by omega)⟩

set_option maxRecDepth 100000 in
/-- A call by value. -/
theorem open_kcallv {H : Type} {enc : TypeId × Value → H} {w : World} {base base' : Nat} {held : Bool} {spare : Nat → Bool} {v : Value} {d : DataW H} {p : List MemPlace} (hv : Value.okWide Try.prog w .any base' 29 v) (h : ∃ fuel, DataW.trod enc Try.prog w base spare held fuel 29 v.cells.toList = some (d, p)) (hw : ∀ n ∈ d.weights Try.prog 29, n ≤ reachBytes) :
    ∃ x : ACall, v = .agg #[.int .i64 x.kind, .string x.name, .string x.dst, .string x.text] ∧ SmallC x := by
  obtain ⟨cells, rfl, hsz⟩ := okWide_struct Try.underlying29 hv
  obtain ⟨fuel, hf⟩ := h
  obtain ⟨r, hcs, hs⟩ := open_callW hf hw
  refine ⟨r, ?_, hs⟩
  have : cells.toList = [.int .i64 r.kind, .string r.name, .string r.dst, .string r.text] := hcs
  congr 1
  apply Array.ext'
  simpa using this

end Go.Proofs.Ytfpommjolbipmab
