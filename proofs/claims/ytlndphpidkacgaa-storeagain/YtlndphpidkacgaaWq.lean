/- all: how all files are. -/
import Derived.Test.YtlndphpidkacgaaWp
namespace Go.Proofs.Ytlndphpidkacgaa
open Go.RowKit
set_option linter.unusedSimpArgs false
set_option linter.unusedVariables false

/-- What a read of a name tells. -/
def textOf (st : List AFile) (nm : ByteArray) : ByteArray := (aDo st ⟨5, nm, ⟨#[]⟩, ⟨#[]⟩⟩).text
def pairs (st : List AFile) (ns : List ByteArray) : List ByteArray := ns.flatMap fun nm => [nm, textOf st nm]
/-- Each name, rising, with its text behind it. -/
def allB (st : List AFile) : List ByteArray := pairs st (sNames st)

theorem pairs_length (st : List AFile) (ns : List ByteArray) : (pairs st ns).length = ns.length * 2 := by
  unfold pairs
  induction ns with
  | nil => rfl
  | cons x xs ih => simp at ih ⊢; omega
theorem pairs_succ (st : List AFile) (ns : List ByteArray) (k : Nat) (x : ByteArray) (h : ns[k]? = some x) : (pairs st (ns.take (k + 1))).map Value.string = (pairs st (ns.take k)).map Value.string ++ [.string x, .string (textOf st x)] := by
  rw [List.take_add_one, h]
  simp [pairs]

theorem OObj.grown {N : Nat} {w w' : World} {B : Nat} {own : List Nat} {st : List AFile} {row : Option Nat} (h : OObj N w B own st) (hg : w.grownBy w' row) (hr : ∀ k, row = some k → k ∉ own) : OObj N w' B own st := by
  refine ⟨?_, h.inv, h.own⟩
  obtain ⟨v, fs, hrep, rfl, hs⟩ := h.rep
  exact ⟨v, fs, hrep.same (fun k hk => hg.block k (hrep.lt hk) (fun e => hr k e.symm hk)), rfl, hs⟩
theorem TRow.grown {w w' : World} {own : List Nat} {g c n : Nat} {xs : List ByteArray} {row : Option Nat} (h : TRow w own g c n xs) (hg : w.grownBy w' row) (hr : row ≠ some g) : TRow w' own g c n xs :=
  ⟨h.out, ownsRow_same h.row (fun k hk => hg.block k (h.row.lt k hk).2 (fun e => hr (by
    have : k = g := by simpa [Value.ownBlock] using hk.symm
    rw [← e, this])))⟩

/-- A row of texts, nil or not, none of the object's blocks. -/
structure ARow (w : World) (own : List Nat) (base : Nat) (v : Value) (n : Nat) (xs : List ByteArray) : Prop where
  out : ∀ g, v.ownBlock = some g → g ∉ own
  row : w.ownsRow base 9 1 v n (xs.map .string)
theorem ARow.below {w w' : World} {own : List Nat} {base : Nat} {v : Value} {n : Nat} {xs : List ByteArray} (h : ARow w own base v n xs) (hb : Below w.heap.size w w') : ARow w' own base v n xs :=
  ⟨h.out, ownsRow_same h.row (fun k hk => hb.block k (h.row.lt k hk).2)⟩
theorem ARow.next {N : Nat} {w w' : World} {own own' : List Nat} {base : Nat} {v : Value} {n : Nat} {xs : List ByteArray} (h : ARow w own base v n xs) (hn : Next N w w' own own') : ARow w' own' base v n xs :=
  ⟨fun g hg => (hn.keep g (h.row.lt g hg).2 (h.out g hg)).1, ownsRow_same h.row (fun k hk => (hn.keep k (h.row.lt k hk).2 (h.out k hk)).2)⟩
theorem ARow.grown {w w' : World} {own : List Nat} {base : Nat} {v : Value} {n : Nat} {xs : List ByteArray} {row : Option Nat} (h : ARow w own base v n xs) (hg : w.grownBy w' row) (hr : ∀ g, v.ownBlock = some g → row ≠ some g) : ARow w' own base v n xs :=
  ⟨h.out, ownsRow_same h.row (fun k hk => hg.block k (h.row.lt k hk).2 (fun e => hr k hk e.symm))⟩

theorem Next.grown {N : Nat} {w w1 w' : World} {own own1 : List Nat} {row : Option Nat} (h : Next N w w1 own own1) (hg : w1.grownBy w' row) (hN : N ≤ w1.heap.size) (hr : ∀ k, row = some k → w.heap.size ≤ k ∧ N ≤ k) : Next N w w' own own1 :=
  ⟨h.below.grown hg hN (fun k hk => (hr k hk).2), fun b hb hn => by
    obtain ⟨h1, h2⟩ := h.keep b hb hn
    refine ⟨h1, (hg.block b (Nat.lt_of_lt_of_le hb h.size) (fun e => ?_)).trans h2⟩
    have := (hr b e.symm).1
    omega⟩
theorem Next.below' {N : Nat} {w w1 w' : World} {own own1 : List Nat} (h : Next N w w1 own own1) (hb : Below w1.heap.size w1 w') (hN : N ≤ w1.heap.size) : Next N w w' own own1 :=
  h.trans (Next.of_below own1 hb hN)

set_option maxRecDepth 100000 in
set_option maxHeartbeats 4000000 in
theorem all_obj {N B : Nat} {own : List Nat} {st : List AFile} {w : World} (h : OObj N w B own st) :
    Calls Try.prog 30 #[.pointer (some ⟨B, 0, none⟩)] w
      fun e w' => ∃ v own', e = .returned v ∧ OObj N w' B own' st ∧ Next N w w' own own' ∧ ARow w' own' w.heap.size v (st.length * 2) (allB st) := by
  obtain ⟨i0, hi0, hz0, hz1, hz2⟩ := info_parts info9
  have hfew := h.inv.few
  have hsz := h.size
  have H0 := hide h
  clear h
  go_enter Try.func30, Try.ntmps30
  go_wp2_with fail
  refine (Names_obj (unhide H0)).mono ?_
  rintro e w5 ⟨g, c5, rfl, hown5, b5⟩
  have HO5 := hide ((unhide H0).below b5)
  have HN5 := hide (Next.of_below own b5 hsz)
  have HG5 : Hid (TRow w5 own g c5 st.length (sNames st)) := ⟨(unhide H0).not_new (hown5.lt g rfl).1, ownsRow_base hown5 (Nat.zero_le _)⟩
  have hgw : w.heap.size ≤ g := (hown5.lt g rfl).1
  clear hown5 b5
  go_wp2
  go_loopw [3, 5] (fun v i wr => ∃ (k : Nat) (own2 : List Nat), k ≤ st.length ∧ i = .int .i64 k ∧ Hid (∃ a c, v = .slice a (k * 2) c) ∧ Hid (v.ownBlock ≠ some g) ∧ Hid (OObj N wr B own2 st) ∧ Hid (Next N w wr own own2) ∧ Hid (TRow wr own2 g c5 st.length (sNames st)) ∧ Hid (ARow wr own2 w.heap.size v (k * 2) (pairs st ((sNames st).take k)))) (fun _ i _ => st.length - (intOf i).toNat)
  case atStart => exact ⟨0, own, Nat.zero_le _, rfl, ⟨none, 0, rfl⟩, by simp [Hid, Value.ownBlock], unhide HO5, unhide HN5, unhide HG5, ⟨by simp [Value.ownBlock], World.ownsRow_nil _ _ _ _⟩⟩
  case round =>
    obtain ⟨k, own2, hk, rfl, ⟨va, vc, rfl⟩, HV, HO, HN, HG, HA⟩ := hrel
    by_cases h1 : (k : Int) < (st.length : Int)
    · obtain ⟨x, hx⟩ : ∃ x, (sNames st)[k]? = some x := ⟨_, List.getElem?_eq_getElem (by rw [sNames_length]; omega)⟩
      have hcx := (unhide HG).cell k x hx
      have hsx := nameB_size (sNames_named (unhide HO).inv (List.mem_of_getElem? hx))
      obtain ⟨code2, text2, hrd, ht2⟩ := read_eq st x (unhide HO).inv
      have HT2 : Hid (textOf st x = text2) := by unfold textOf; rw [hrd]; exact rfl
      have HRD := hide hrd
      have HX := hide hx
      have hk0 : (0 : Int) ≤ (k : Int) := by omega
      have HOd : Hid (OObj N wr.drew B own2 st) := (unhide HO).below ⟨rfl, rfl, rfl, Nat.le_refl _, fun _ _ => rfl⟩
      have HGd : Hid (TRow wr.drew own2 g c5 st.length (sNames st)) := (unhide HG).below ⟨rfl, rfl, rfl, Nat.le_refl _, fun _ _ => rfl⟩
      have HAd : Hid (ARow wr.drew own2 w.heap.size (.slice va (k * 2) vc) (k * 2) (pairs st ((sNames st).take k))) := (unhide HA).below ⟨rfl, rfl, rfl, Nat.le_refl _, fun _ _ => rfl⟩
      have hwz := (unhide HN).size
      have hNz := (unhide HO).size
      have fd1 := field1 code2 text2
      clear hrd hx
      go_wp2_with fail
      go_region_law (first
        | (go_simp; go_at_call 20; refine (Do_lit 5 x ⟨#[]⟩ ⟨#[]⟩ _ _ _ _ (unhide HRD) (unhide HOd) (by omega) (by decide) (by decide)).mono ?_; rintro e w6 ⟨rfl, own3, o3, n3⟩; have HG6 := hide ((unhide HGd).next n3); have HA6 := hide ((unhide HAd).next n3); have hcx6 := (unhide HG6).cell k x (unhide HX); have HO6 := hide o3; have HN6 := hide n3; have hz6 := n3.size; clear o3 n3)
        | (refine step_append_lies _ (by rfl) _ _ _ (by rfl) w.heap.size 9 i0 _ 1 16 Try.underlying37 hi0 hz0 hz1 hz2 rfl (by omega) (.slice va (k * 2) vc) (k * 2) ((pairs st ((sNames st).take k)).map .string) (by rfl) ((unhide HA6).row.alloc _)
            ⟨w6.heap.size, 0, none⟩ 2 2 [.string x, .string text2] (by rfl) (by rfl) (World.news_of_block (cs := #[.string x, .string text2]) (t := 9) (fr := (0, 0)) (heap_alloc_new w6 _)) (by simp [Value.oneCell'])
            (by omega) (by unfold maxLen; omega) (by omega) (by simp at hz6 ⊢; omega) (w6.heap.size + 1) (by simp) ?_; intro g2 c2 w7 hown7 hgrow hat hlt7))
      all_goals
        have bA : Below w6.heap.size w6 (w6.alloc (Obj.cells #[Value.string x, Value.string text2] 9)) := (Below.refl _ _).alloc (Nat.le_refl _) _
        have o7 := ((unhide HO6).below bA).grown hgrow (unhide HA6).out
        have nd : Next N w wr.drew own own2 := (unhide HN).below' ⟨rfl, rfl, rfl, Nat.le_refl _, fun _ _ => rfl⟩ hNz
        have n7 := ((nd.trans (unhide HN6)).below' bA (unhide HO6).size).grown hgrow ((unhide HO6).below bA).size (fun k hk => ⟨((unhide HA6).row.lt k hk).1, Nat.le_trans hsz ((unhide HA6).row.lt k hk).1⟩)
        have t7 := ((unhide HG6).below bA).grown hgrow (unhide HV)
        have hgl := (unhide HG6).lt
        have hv7 : Hid ((Value.slice (some ⟨g2, 0, none⟩) (k * 2 + 2) c2).ownBlock ≠ some g) := by
          intro e
          have e' : g2 = g := by simpa [Value.ownBlock] using e
          rcases hat with h | h
          · exact unhide HV (by rw [h, e'])
          · omega
        have a7 : ARow w7 own3 w.heap.size (.slice (some ⟨g2, 0, none⟩) (k * 2 + 2) c2) (k * 2 + 2) (pairs st ((sNames st).take (k + 1))) := by
          refine ⟨fun j hj hm => ?_, ?_⟩
          · have e' : j = g2 := by simpa [Value.ownBlock] using hj.symm
            subst e'
            rcases hat with h | h
            · exact (unhide HA6).out j h hm
            · have := (unhide HO6).lt hm; omega
          · rw [pairs_succ st (sNames st) k x (unhide HX), HT2.out]
            exact hown7
        have HO7 := hide o7
        have HN7 := hide n7
        have HT7 := hide t7
        have HA7 := hide a7
        clear o7 n7 t7 a7 nd hown7 hgrow hat hcx6 bA
        go_wp2
        go_roundw
        case rel => exact ⟨k + 1, own3, by omega, by go_num, ⟨_, _, by rw [show (k + 1) * 2 = k * 2 + 2 by omega]⟩, hv7, unhide HO7, unhide HN7, unhide HT7, by rw [show (k + 1) * 2 = k * 2 + 2 by omega]; exact unhide HA7⟩
        case measure => simp [intOf]; omega
    · have hkk : k = st.length := by omega
      subst hkk
      go_wp2
      go_ret
      refine ⟨_, rfl, own2, unhide HO, unhide HN, ?_⟩
      have ha := unhide HA
      rw [List.take_of_length_le (by rw [sNames_length]; omega)] at ha
      exact ha

end Go.Proofs.Ytlndphpidkacgaa
