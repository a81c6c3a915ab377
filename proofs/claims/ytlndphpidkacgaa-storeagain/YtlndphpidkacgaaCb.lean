/- Package codec: put: texts behind bytes. -/
import Derived.Test.YtlndphpidkacgaaCa
import Derived.Deep.AppendLies
import Derived.Lib.AppendStr
namespace Go.Proofs.Ytlndphpidkacgaa
open Go.RowKit
set_option linter.unusedSimpArgs false
set_option linter.unusedVariables false

/-- Bytes as values. -/
def bv (l : List UInt8) : List Value := l.map fun b => .int .u8 (b.toNat : Int)
theorem bv_append (a b : List UInt8) : bv (a ++ b) = bv a ++ bv b := by simp [bv]
theorem bv_length (a : List UInt8) : (bv a).length = a.length := by simp [bv]

/-- A text, with its length ahead. -/
def ebytes (t : ByteArray) : List UInt8 := UInt8.ofNat t.size :: t.data.toList
theorem ebytes_length (t : ByteArray) : (ebytes t).length = 1 + t.size := by
  have : t.data.toList.length = t.size := by rw [Array.length_toList]; rfl
  simp [ebytes, this]; omega
theorem bv_ebytes (t : ByteArray) (h : t.size ≤ 255) : bv (ebytes t) = [.int .u8 (t.size : Int)] ++ byteVals t := by
  have : (UInt8.ofNat t.size).toNat = t.size := by simp; omega
  simp [bv, ebytes, byteVals, this]

theorem cinfo5 : (Try.prog.info? 5).map (fun i => (i.zero, i.size, i.bytes)) = some (some (.int .u8 0), 1, 1) := by kernel_rfl

theorem app_any_run (w : World) (base g n cap : Nat) (xs : List Value) (hown : w.ownsRow base 5 1 (.slice (some ⟨g, 0, none⟩) n cap) n xs) (s : ByteArray) (hn : 0 < n) (hb : n + s.size ≤ 1000000) (hbase : base ≤ w.heap.size) (ty : TypeId) :
    ∃ g' cap' w', (Builtin.append_ #[48, 9] ty #[.slice (some ⟨g, 0, none⟩) n cap, .string s]).run Try.prog w = .ok (.slice (some ⟨g', 0, none⟩) (n + s.size) cap') w' ∧
      w'.ownsRow base 5 1 (.slice (some ⟨g', 0, none⟩) (n + s.size) cap') (n + s.size) (xs ++ byteVals s) ∧ w.grownBy w' (some g) ∧ (g' = g ∨ g' = w.heap.size) := by
  obtain ⟨i0, hi0, hz0, hz1, hz2⟩ := info_parts cinfo5
  obtain ⟨v', w', hr, h2, h3, h4⟩ := Lib.run_append_own_string (P := Try.prog) w base 48 9 ty 5 i0 Try.underlying48 Try.underlying9 hi0 hz0 hz1 hz2 (.slice (some ⟨g, 0, none⟩) n cap) n xs hown s (by unfold maxLen; omega) (by omega) hbase
  obtain ⟨g', cap', rfl, _, hlt⟩ := h2.form (by omega)
  refine ⟨g', cap', w', hr, h2, h3, ?_⟩
  have hxl : xs.length = n := by simpa using hown.1
  rcases hown.2 with ⟨e, h0⟩ | ⟨g1, cap1, cur, e1, hbg, hg, hnc, hcm, hcs, htake⟩
  · omega
  · obtain ⟨rfl, rfl⟩ : g = g1 ∧ cap = cap1 := by simpa using e1
    by_cases hroom : n + s.size ≤ cap
    · left
      have hcs2 : cur.size = cap := by simpa using hcs
      have hr2 := Lib.run_append_room_string (P := Try.prog) w 48 9 ty 5 i0 Try.underlying48 Try.underlying9 hi0 hz1 g n cap cur hg s hroom (by omega)
      rw [hr2] at hr
      simp at hr
      exact hr.1.1.symm
    · right
      have holds : ∀ j u, xs[j]? = some u → w.cell? ((⟨g, 0, none⟩ : Addr).add j) = some u := World.ownsRow.cells (v := .slice (some ⟨g, 0, none⟩) n cap) hown (g := g) rfl
      have hr2 := Lib.run_append_grow_string (P := Try.prog) w 48 9 ty 5 i0 (.int .u8 0) Try.underlying48 Try.underlying9 hi0 hz0 ⟨g, 0, none⟩ n cap xs (by rw [hz1]; simpa using hxl) holds s (by omega) (by omega) (by rw [hz2]; exact growslice_fits (by omega) (by omega))
      rw [hr2] at hr
      simp at hr
      exact hr.1.1.symm

theorem wpList_app_any (w : World) {ops : Array Oper} {rest : List Oper} {o : Oper} {a : Act} {Q : Exit → Act → World → Prop} (hgd : o.guard = none) (sl x : Operand)
    (ho : o.op = .call { callee := .builtin .append, args := #[sl, x], argTypes := #[48, 9] })
    (base g n cap : Nat) (xs : List Value) (hs : a.eval sl = .slice (some ⟨g, 0, none⟩) n cap) (hown : w.ownsRow base 5 1 (.slice (some ⟨g, 0, none⟩) n cap) n xs) (s : ByteArray) (hx : a.eval x = .string s) (hn : 0 < n) (hb : n + s.size ≤ 1000000) (hbase : base ≤ w.heap.size)
    (h : ∀ g' cap' w', w'.ownsRow base 5 1 (.slice (some ⟨g', 0, none⟩) (n + s.size) cap') (n + s.size) (xs ++ byteVals s) → w.grownBy w' (some g) → (g' = g ∨ g' = w.heap.size) → wpList Try.prog ops Q rest (a.put o.dst (.slice (some ⟨g', 0, none⟩) (n + s.size) cap')) w') : wpList Try.prog ops Q (o :: rest) a w := by
  refine wpList_plain hgd fun K hK => ?_
  obtain ⟨g', cap', w', hr, h2, h3, h4⟩ := app_any_run w base g n cap xs hown s hn hb hbase o.type
  unfold Oper.wp execOp
  simp only [ho, resolve, invoke, builtin, Sem.run_bind, Sem.run_pure, Result.andThen_ok, List.map_toArray, List.map_cons, List.map_nil, hs, hx, hr]
  exact hK _ _ (h g' cap' w' h2 h3 h4)

/-- Texts, each with its length ahead. -/
def tb (ts : List ByteArray) : List UInt8 := ts.flatMap ebytes
theorem ftake_succ (ts : List ByteArray) (k : Nat) (x : ByteArray) (hx : ts[k]? = some x) : tb (ts.take (k + 1)) = tb (ts.take k) ++ ebytes x := by
  unfold tb
  rw [List.take_add_one, hx]; simp
theorem flen_le (ts : List ByteArray) (hts : ∀ t, t ∈ ts → t.size ≤ 255) : (tb ts).length ≤ ts.length * 256 := by
  induction ts with
  | nil => simp [tb]
  | cons x xs ih =>
    have := ih (fun t h => hts t (by simp [h]))
    have h2 := hts x (by simp)
    have h3 := ebytes_length x
    have e : tb (x :: xs) = ebytes x ++ tb xs := by simp [tb]
    rw [e, List.length_append, List.length_cons]
    omega

set_option maxRecDepth 100000 in
set_option maxHeartbeats 2000000 in
theorem cput_any (base g n cap T ca : Nat) (xs : List Value) (ts : List ByteArray) (w : World) (hown : w.ownsRow base 5 1 (.slice (some ⟨g, 0, none⟩) n cap) n xs) (hn : 0 < n) (hn2 : n ≤ 1000) (hl : ts.length ≤ 1000) (hT : T ≠ g)
    (hc : ∀ (j : Nat) t, ts[j]? = some t → w.cell? ⟨T, j, none⟩ = some (.string t)) (hts : ∀ t, t ∈ ts → t.size ≤ 255) :
    Calls Try.prog 67 #[.slice (some ⟨g, 0, none⟩) n cap, .slice (some ⟨T, 0, none⟩) ts.length ca] w
      fun e w' => ∃ g' cap', e = .returned (.slice (some ⟨g', 0, none⟩) (n + (tb ts).length) cap') ∧ w'.ownsRow base 5 1 (.slice (some ⟨g', 0, none⟩) (n + (tb ts).length) cap') (n + (tb ts).length) (xs ++ bv (tb ts)) ∧ Below base w w' := by
  obtain ⟨i0, hi0, hz0, hz1, hz2⟩ := info_parts cinfo5
  have hbase : base ≤ w.heap.size := by have := hown.lt g rfl; omega
  obtain ⟨fl, hfl⟩ : ∃ fl : Nat → Nat, ∀ k, fl k = (tb (ts.take k)).length := ⟨_, fun _ => rfl⟩
  have hfle : ∀ k, fl k ≤ 256000 := fun k => by
    rw [hfl]
    have h1 := flen_le (ts.take k) (fun t h => hts t (List.mem_of_mem_take h))
    have h2 : (ts.take k).length ≤ 1000 := by rw [List.length_take]; omega
    omega
  have HFL := hide hfl
  have HTS := hide hts
  have HC := hide hc
  have H0 := hide hown
  clear hown hc hts hfl
  go_enter Try.func67, Try.ntmps67
  go_wp2
  go_loopw [0, 6, 9] (fun v _ i wr => ∃ (k g1 c1 : Nat), k ≤ ts.length ∧ i = .int .i64 k ∧ v = .slice (some ⟨g1, 0, none⟩) (n + fl k) c1 ∧ Hid (wr.ownsRow base 5 1 (.slice (some ⟨g1, 0, none⟩) (n + fl k) c1) (n + fl k) (xs ++ bv (tb (ts.take k)))) ∧ Hid (Below base w wr) ∧ Hid (T ≠ g1 ∧ ∀ (j : Nat) t, ts[j]? = some t → wr.cell? ⟨T, j, none⟩ = some (.string t))) (fun _ _ i _ => ts.length - (intOf i).toNat)
  case atStart => 
    have e0 : fl 0 = 0 := by rw [unhide HFL]; simp [tb]
    refine ⟨0, g, cap, Nat.zero_le _, rfl, by rw [e0]; rfl, ?_, Below.refl _ _, hT, unhide HC⟩
    rw [e0]
    have h0 := unhide H0
    simp only [Nat.add_zero, List.take_zero, tb, List.flatMap_nil, bv, List.map_nil, List.append_nil]
    exact h0
  case round =>
    obtain ⟨k, g1, c1, hk, rfl, rfl, HO, HB, HT⟩ := hrel
    by_cases h1 : (k : Int) < (ts.length : Int)
    · obtain ⟨x, hx⟩ : ∃ x, ts[k]? = some x := ⟨_, List.getElem?_eq_getElem (by omega)⟩
      have hcx := (unhide HT).2 k x hx
      have hsx := (unhide HTS) x (List.mem_of_getElem? hx)
      have hw8 : IntKind.u8.wrap (x.size : Int) = (x.size : Int) := by rw [IntKind.wrap_u8]; omega
      have hf1 := hfle k
      have hsucc : fl (k + 1) = fl k + (1 + x.size) := by rw [unhide HFL, unhide HFL, ftake_succ ts k x hx, List.length_append, ebytes_length]
      have HX := hide hx
      have HSU := hide hsucc
      have hbz : base ≤ wr.heap.size := Nat.le_trans hbase (unhide HB).size
      clear hx hsucc
      go_wp2_with (first
        | (at_builtin; refine wpList_append_lies _ rfl _ _ 48 rfl base 5 i0 _ 1 1 Try.underlying48 hi0 hz0 hz1 hz2 rfl (by omega) (.slice (some ⟨g1, 0, none⟩) (n + fl k) c1) (n + fl k) (xs ++ bv (tb (ts.take k))) rfl ((unhide HO).alloc _)
            ⟨wr.heap.size, 0, none⟩ 1 1 [.int .u8 (x.size : Int)] rfl rfl (World.news_of_block (cs := #[.int .u8 (x.size : Int)]) (t := 5) (fr := (0, 0)) (heap_alloc_new wr _)) (by simp [Value.oneCell'])
            (by omega) (by unfold maxLen; omega) (by omega) (by simp; omega) (wr.heap.size + 1) (by simp) ?_; intro g2 c2 w2 hown2 hgrow hat hlt2; have hz2' : base ≤ w2.heap.size := by (have := hown2.lt g2 rfl; omega))
        | (at_builtin; refine wpList_app_any _ rfl _ _ rfl base g2 (n + fl k + 1) c2 (xs ++ bv (tb (ts.take k)) ++ [.int .u8 (x.size : Int)]) rfl hown2 x rfl (by omega) (by omega) hz2' ?_; intro g3 c3 w3 hown3 hgrow3 hat3))
      go_roundw
      case rel =>
        have bA : Below base w (wr.alloc (.cells #[.int .u8 (x.size : Int)] 5)) := (unhide HB).alloc hbz _
        have hlo : base ≤ g1 ∧ g1 < wr.heap.size := (unhide HO).lt g1 rfl
        have hb2 : Below base w w2 := bA.grown hgrow (by simp; omega) (fun j hj => by have : j = g1 := by simpa [Value.ownBlock] using hj.symm
                                                                                      omega)
        have hlo2 := hown2.lt g2 rfl
        have hb3 : Below base w w3 := hb2.grown hgrow3 hz2' (fun j hj => by have : j = g2 := by simpa using hj.symm
                                                                            omega)
        have hTl : T < wr.heap.size := World.block_lt_of_cell? wr _ hcx
        have hT1 := (unhide HT).1
        have hg2 : T ≠ g2 := by
          rcases hat with h | h
          · have : g1 = g2 := by simpa [Value.ownBlock] using h
            omega
          · omega
        have hz3 : wr.heap.size < w2.heap.size := by have := hgrow.size; simp at this; omega
        refine ⟨k + 1, g3, c3, by omega, by go_num, by rw [HSU.out]; congr 1; omega, ?_, hb3, by omega, fun j t hj => ?_⟩
        · have e1 : n + fl (k + 1) = n + fl k + 1 + x.size := by rw [HSU.out]; omega
          rw [e1, ftake_succ ts k x (unhide HX), bv_append, bv_ebytes x hsx, ← List.append_assoc, ← List.append_assoc]
          exact hown3
        · have q0 := (unhide HT).2 j t hj
          have q1 := (al_old wr (.cells #[.int .u8 (x.size : Int)] 5) T j hTl).trans q0
          have q2 := (World.cell?_of_block (a := ⟨T, j, none⟩) (hgrow.block T (by simp; omega) (by simp [Value.ownBlock]; omega))).trans q1
          exact (World.cell?_of_block (a := ⟨T, j, none⟩) (hgrow3.block T (by omega) (by simp; omega))).trans q2
      case measure => simp [intOf]; omega
    · have hkk : k = ts.length := by omega
      subst hkk
      have hrow := unhide HO
      rw [List.take_of_length_le (Nat.le_refl _)] at hrow
      have hfn : fl ts.length = (tb ts).length := by rw [unhide HFL, List.take_of_length_le (Nat.le_refl _)]
      have HR := hide hrow
      have HN := hide hfn
      clear hrow hfn
      go_wp2
      go_ret
      refine ⟨g1, c1, ?_, ?_, unhide HB⟩
      · rw [← HN.out]; exact rfl
      · rw [← HN.out]; exact unhide HR

end Go.Proofs.Ytlndphpidkacgaa
