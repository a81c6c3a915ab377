/- The walks of rename, put. -/
import Derived.Test.YtlndphpidkacgaaWd
namespace Go.Proofs.Ytlndphpidkacgaa
open Go.RowKit
set_option linter.unusedSimpArgs false
set_option linter.unusedVariables false

theorem info5 : (Try.prog.info? 5).map (fun i => (i.zero, i.size, i.bytes)) = some (some (.int .u8 0), 1, 1) := by kernel_rfl

theorem app_str_run (w : World) (v : Value) (n : Nat) (xs : List Value) (hown : w.ownsRow 0 5 1 v n xs) (s : ByteArray) (hs : 0 < s.size) (hb : n + s.size ≤ 1000) (ty : TypeId) :
    ∃ g cap w', (Builtin.append_ #[48, 9] ty #[v, .string s]).run Try.prog w = .ok (.slice (some ⟨g, 0, none⟩) (n + s.size) cap) w' ∧
      w'.ownsRow 0 5 1 (.slice (some ⟨g, 0, none⟩) (n + s.size) cap) (n + s.size) (xs ++ byteVals s) ∧ w.grownBy w' v.ownBlock ∧ (v.ownBlock = some g ∨ g = w.heap.size) := by
  obtain ⟨i0, hi0, hz0, hz1, hz2⟩ := info_parts info5
  obtain ⟨v', w', hr, h2, h3, h4⟩ := Lib.run_append_own_string (P := Try.prog) w 0 48 9 ty 5 i0 Try.underlying48 Try.underlying9 hi0 hz0 hz1 hz2 v n xs hown s (by unfold maxLen; omega) (by omega) (Nat.zero_le _)
  obtain ⟨g, cap, rfl, _, hlt⟩ := h2.form (by omega)
  refine ⟨g, cap, w', hr, h2, h3, ?_⟩
  have hxl : xs.length = n := by simpa using hown.1
  rcases hown.2 with ⟨rfl, rfl⟩ | ⟨g', cap', cur, rfl, hbg, hg, hnc, hcm, hcs, htake⟩
  · right
    have hr2 := run_append_nil_string (P := Try.prog) w 48 9 ty 5 i0 (.int .u8 0) Try.underlying48 Try.underlying9 hi0 hz0 s (by omega) (by omega) (by rw [hz2]; omega)
    rw [hr2] at hr
    simp at hr
    exact hr.1.1.symm
  · by_cases hroom : n + s.size ≤ cap'
    · left
      have hcs2 : cur.size = cap' := by simpa using hcs
      have hr2 := Lib.run_append_room_string (P := Try.prog) w 48 9 ty 5 i0 Try.underlying48 Try.underlying9 hi0 hz1 g' n cap' cur hg s hroom (by omega)
      rw [hr2] at hr
      simp at hr
      rw [← hr.1.1]; rfl
    · right
      have holds : ∀ j u, xs[j]? = some u → w.cell? ((⟨g', 0, none⟩ : Addr).add j) = some u := World.ownsRow.cells (v := .slice (some ⟨g', 0, none⟩) n cap') hown (g := g') rfl
      have hr2 := Lib.run_append_grow_string (P := Try.prog) w 48 9 ty 5 i0 (.int .u8 0) Try.underlying48 Try.underlying9 hi0 hz0 ⟨g', 0, none⟩ n cap' xs (by rw [hz1]; simpa using hxl) holds s (by omega) (by omega) (by rw [hz2]; exact growslice_fits (by omega) (by omega))
      rw [hr2] at hr
      simp at hr
      exact hr.1.1.symm

theorem wpList_app_str (w : World) {ops : Array Oper} {rest : List Oper} {o : Oper} {a : Act} {Q : Exit → Act → World → Prop} (hgd : o.guard = none) (sl x : Operand)
    (ho : o.op = .call { callee := .builtin .append, args := #[sl, x], argTypes := #[48, 9] })
    (v : Value) (n : Nat) (xs : List Value) (hs : a.eval sl = v) (hown : w.ownsRow 0 5 1 v n xs) (s : ByteArray) (hx : a.eval x = .string s) (hs0 : 0 < s.size) (hb : n + s.size ≤ 1000)
    (h : ∀ g cap w', w'.ownsRow 0 5 1 (.slice (some ⟨g, 0, none⟩) (n + s.size) cap) (n + s.size) (xs ++ byteVals s) → w.grownBy w' v.ownBlock → (v.ownBlock = some g ∨ g = w.heap.size) → wpList Try.prog ops Q rest (a.put o.dst (.slice (some ⟨g, 0, none⟩) (n + s.size) cap)) w') : wpList Try.prog ops Q (o :: rest) a w := by
  refine wpList_plain hgd fun K hK => ?_
  obtain ⟨g, cap, w', hr, h2, h3, h4⟩ := app_str_run w v n xs hown s hs0 hb o.type
  unfold Oper.wp execOp
  simp only [ho, resolve, invoke, builtin, Sem.run_bind, Sem.run_pure, Result.andThen_ok, List.map_toArray, List.map_cons, List.map_nil, hs, hx, hr]
  exact hK _ _ (h g cap w' h2 h3 h4)

set_option maxHeartbeats 400000 in
theorem put_full (B g n cap : Nat) (l1 l2 : List FV) (f : FV) (text : ByteArray) (w : World) (hr : Rep w B (.slice (some ⟨g, 0, none⟩) n cap) (l1 ++ f :: l2)) (hf : f.text.size ≤ 1000) (ht : text.size ≤ 1000) (h16 : 16 < f.text.size + text.size) :
    Calls Try.prog 63 #[.pointer (some ⟨g, l1.length * 2, none⟩), .string text] w fun e w' => e = .returned (.int .i64 7) ∧ w' = w := by
  have hc := (hr.file l1.length f mid_get).2
  obtain ⟨a, c, hv⟩ := row_form (hr.texts f (by simp))
  rw [hv] at hc
  have h16' : (16 : Int) < (f.text.size : Int) + (text.size : Int) := by omega
  clear hr hv
  go_enter Try.func63, Try.ntmps63
  go_wp2
  go_ret
  exact ⟨rfl, rfl⟩

theorem byteVals_append (s t : ByteArray) : byteVals (s ++ t) = byteVals s ++ byteVals t := by
  simp [byteVals]

theorem setAbs (l1 l2 : List FV) (f f' : FV) : (l1 ++ f' :: l2).map FV.abs = ((l1 ++ f :: l2).map FV.abs).set l1.length f'.abs := by
  simp

set_option maxHeartbeats 1000000 in
theorem put_some (B g n cap : Nat) (l1 l2 : List FV) (f : FV) (text : ByteArray) (w : World) (hr : Rep w B (.slice (some ⟨g, 0, none⟩) n cap) (l1 ++ f :: l2)) (ht : 0 < text.size) (h16 : f.text.size + text.size ≤ 16) :
    Calls Try.prog 63 #[.pointer (some ⟨g, l1.length * 2, none⟩), .string text] w
      fun e w' => e = .returned (.int .i64 0) ∧ Turned w B (owns B (.slice (some ⟨g, 0, none⟩) n cap) (l1 ++ f :: l2)) w' (((l1 ++ f :: l2).map FV.abs).set l1.length ⟨f.name, f.text ++ text⟩) := by
  have hc := (hr.file l1.length f mid_get).2
  have hfm : f ∈ l1 ++ f :: l2 := by simp
  have hown := hr.texts f hfm
  obtain ⟨a, c, hv⟩ := row_form hown
  have n3 := (nd_parts hr.nd).2.2
  have hne : f.tv.ownBlock ≠ some g := fun e => n3 f hfm g e rfl
  have hcan : Can w g (l1.length * 2 + 1) f.tv := ⟨hc, by
    rcases hr.row.2 with ⟨e, _⟩ | ⟨g', cap', cur, he, _, hh, _⟩
    · cases e
    · obtain ⟨rfl, _⟩ : g = g' ∧ _ := by simpa using he
      simp [World.frozen?, hh]⟩
  rw [hv] at hc
  have h16' : (f.text.size : Int) + (text.size : Int) ≤ 16 := by omega
  have HR := hide hr
  have HO := hide hown
  have HV := hide hv
  have HC := hide hcan
  clear hr hv hown hcan n3
  go_enter Try.func63, Try.ntmps63
  go_wp2_with (at_builtin; refine wpList_app_str _ rfl _ _ rfl f.tv f.text.size (byteVals f.text) ?hs (unhide HO) text rfl ht (by omega) ?_; case hs => rw [unhide HV]; rfl)
  intro g2 cap2 w2 hown2 hgrow hat
  have hcan2 := (unhide HC).grown hgrow hne
  rw [unhide HV] at hcan2
  have hc2 := hcan2.1
  have hf2 := hcan2.2
  have hT : Turned w B (owns B (.slice (some ⟨g, 0, none⟩) n cap) (l1 ++ f :: l2)) (w2.setCell ⟨g, l1.length * 2 + 1, none⟩ (.slice (some ⟨g2, 0, none⟩) (f.text.size + text.size) cap2)) (((l1 ++ f :: l2).map FV.abs).set l1.length ⟨f.name, f.text ++ text⟩) := by
    have := (unhide HR).setFile (f' := ⟨f.name, .slice (some ⟨g2, 0, none⟩) (f.text.size + text.size) cap2, f.text ++ text⟩) 1 (by omega) (.slice (some ⟨g2, 0, none⟩) (f.text.size + text.size) cap2) (by simp [FV.cells]) hgrow
      (by simp only [ByteArray.size_append, byteVals_append]; exact hown2) (by rcases hat with h | h; exact .inl h.symm; right; rw [h]; rfl)
    rw [setAbs l1 l2 f] at this
    exact this
  have HT := hide hT
  clear hT hcan2 hown2 hgrow hat hc
  go_wp2
  go_ret
  exact ⟨rfl, unhide HT⟩

end Go.Proofs.Ytlndphpidkacgaa
