/- FilesOrder: the walk. -/
import Derived.Test.YtlndphpidkacgaaPlain3
namespace Go.Proofs.Ytlndphpidkacgaa
open Go.RowKit
set_option linter.unusedSimpArgs false
set_option linter.unusedVariables false

theorem OObj.wider {N N' : Nat} {w : World} {B : Nat} {own : List Nat} {st : List AFile} (h : OObj N w B own st) (hN : N' ≤ N) : OObj N' w B own st := ⟨h.rep, h.inv, fun k hk => Nat.le_trans hN (h.own k hk)⟩

theorem field0 (c : Int) (t : ByteArray) (w : World) : (Instr.field 34 (.agg #[.int .i64 c, .string t]) 0).run Try.prog w = .ok (.int .i64 c) w := by kernel_rfl
theorem field1 (c : Int) (t : ByteArray) (w : World) : (Instr.field 34 (.agg #[.int .i64 c, .string t]) 1).run Try.prog w = .ok (.string t) w := by kernel_rfl

/-- Names, at an object. -/
theorem Names_obj {N B : Nat} {own : List Nat} {st : List AFile} {w : World} (h : OObj N w B own st) :
    Calls Try.prog 23 #[.pointer (some ⟨B, 0, none⟩)] w
      fun e w' => ∃ g cap, e = .returned (.slice (some ⟨g, 0, none⟩) st.length cap) ∧ w'.ownsRow w.heap.size 9 1 (.slice (some ⟨g, 0, none⟩) st.length cap) st.length ((sNames st).map .string) ∧ Below w.heap.size w w' :=
  Names_any B own st w h.rep (by have := h.inv.few; omega) (fun f hf => by have := nameB_size (h.inv.named f hf); omega)

/-- The cells of a row of texts. -/
theorem texts_cell {w : World} {base g n cap : Nat} {xs : List ByteArray} (h : w.ownsRow base 9 1 (.slice (some ⟨g, 0, none⟩) n cap) n (xs.map .string)) (j : Nat) (x : ByteArray) (hx : xs[j]? = some x) : w.cell? ⟨g, j, none⟩ = some (.string x) := by
  have := h.cells (g := g) rfl j (.string x) (by rw [List.getElem?_map, hx]; rfl)
  have e : (⟨g, 0, none⟩ : Addr).add j = ⟨g, j, none⟩ := by unfold Addr.add; split <;> simp_all
  rwa [e] at this

/-- A row of texts of the call's own, none of the object's blocks. -/
structure TRow (w : World) (own : List Nat) (g c n : Nat) (xs : List ByteArray) : Prop where
  out : g ∉ own
  row : w.ownsRow 0 9 1 (.slice (some ⟨g, 0, none⟩) n c) n (xs.map .string)
theorem ownsRow_base {w : World} {base base' : Nat} {e : TypeId} {size : Nat} {v : Value} {n : Nat} {xs : List Value} (h : w.ownsRow base e size v n xs) (hb : base' ≤ base) : w.ownsRow base' e size v n xs := by
  refine ⟨h.1, ?_⟩
  rcases h.2 with hn | ⟨g, cap, cur, rfl, hb1, rest⟩
  · exact .inl hn
  · exact .inr ⟨g, cap, cur, rfl, by omega, rest⟩
theorem TRow.lt {w : World} {own : List Nat} {g c n : Nat} {xs : List ByteArray} (h : TRow w own g c n xs) : g < w.heap.size := (h.row.lt g rfl).2
theorem TRow.cell {w : World} {own : List Nat} {g c n : Nat} {xs : List ByteArray} (h : TRow w own g c n xs) (j : Nat) (x : ByteArray) (hx : xs[j]? = some x) : w.cell? ⟨g, j, none⟩ = some (.string x) := texts_cell h.row j x hx
theorem TRow.below {w w' : World} {own : List Nat} {g c n : Nat} {xs : List ByteArray} (h : TRow w own g c n xs) (hb : Below w.heap.size w w') : TRow w' own g c n xs :=
  ⟨h.out, ownsRow_same h.row (fun k hk => hb.block k (h.row.lt k hk).2)⟩
theorem TRow.next {N : Nat} {w w' : World} {own own' : List Nat} {g c n : Nat} {xs : List ByteArray} (h : TRow w own g c n xs) (hn : Next N w w' own own') : TRow w' own' g c n xs := by
  obtain ⟨h1, h2⟩ := hn.keep g h.lt h.out
  refine ⟨h1, ownsRow_same h.row (fun k hk => ?_)⟩
  have : k = g := by simpa [Value.ownBlock] using hk.symm
  rw [this]; exact h2

set_option maxRecDepth 100000 in
set_option maxHeartbeats 4000000 in
theorem order_walk (a0 : Option Addr) (len cap : Nat) (cs : List ACall) (w : World) (hl : IsCalls w a0 len cs) :
    Calls Try.prog 6 #[.slice a0 len cap] w fun e w' => e = .returned (.bool true) ∧ Below w.heap.size w w' := by
  have hm := hl.2.1
  unfold maxLen at hm
  have HL := hide hl
  clear hl
  go_enter Try.func6, Try.ntmps6
  go_wp2_with fail
  refine (begun_any w).mono ?_
  rintro e w1 ⟨rfl, b1⟩
  have HL1 := hide ((unhide HL).later b1)
  have HB1 := hide b1
  clear b1
  go_wp2_with fail
  refine (greatCalls_any a0 len cap cs w1 (unhide HL1)).mono ?_
  rintro e w2 ⟨⟨r, rfl⟩, b2⟩
  have HB2 := hide ((unhide HB1).trans (b2.mono (unhide HB1).size))
  clear b2
  cases r
  rotate_left
  · go_wp2
    go_ret
    exact ⟨rfl, unhide HB2⟩
  go_wp2_with fail
  refine (New_any w2).mono ?_
  rintro e w3 ⟨rfl, rfl⟩
  have hz2 := (unhide HB2).size
  have HO3 := hide ((New_obj w2).wider hz2)
  have HB3 := hide ((unhide HB2).alloc hz2 (.cells #[.slice none 0 0] 95))
  generalize w2.heap.size = B at HO3 HB3 ⊢
  generalize w2.alloc (.cells #[.slice none 0 0] 95) = w3 at HO3 HB3 ⊢
  clear hz2
  go_wp2
  go_loopw [4, 5, 6, 7] (fun i _ _ _ wr => ∃ (j : Nat) (own : List Nat) (st : List AFile), j ≤ len ∧ i = .int .i64 j ∧ Hid (OObj w.heap.size wr B own st) ∧ Hid (Below w.heap.size w wr)) (fun i _ _ _ _ => len - (intOf i).toNat)
  case atStart => exact ⟨0, _, _, Nat.zero_le _, rfl, unhide HO3, unhide HB3⟩
  case round =>
    obtain ⟨j, own, st, hj, rfl, HO, HB⟩ := hrel
    obtain ⟨wo, rfl⟩ : ∃ wo : World, wo = wr := ⟨_, rfl⟩
    by_cases h1 : (j : Int) < (len : Int)
    · obtain ⟨b, off, rfl, hlt, hc⟩ := ((unhide HL).later (unhide HB)).2.2 (by omega)
      obtain ⟨c, hcj⟩ : ∃ c, cs[j]? = some c := ⟨_, List.getElem?_eq_getElem (by rw [(unhide HL).1]; omega)⟩
      obtain ⟨⟨g0, g1, g2, g3⟩, s1, s2, s3⟩ := hc j c hcj
      have hdo := Do_obj c (unhide HO) s1 s2 s3
      generalize (aDo st c).code = code at hdo
      generalize (aDo st c).text = text at hdo
      generalize (aDo st c).st = st1 at hdo
      obtain ⟨ck, ca, cb, ct⟩ := c
      dsimp only at g0 g1 g2 g3 hdo
      clear hc hcj s1 s2 s3
      go_wp2_with fail
      refine hdo.mono ?_
      rintro e w4 ⟨rfl, own1, o1, n1⟩
      have HO1 := hide o1
      have HB4 := hide ((unhide HB).trans n1.below)
      clear hdo g0 g1 g2 g3 o1 n1
      go_wp2_with fail
      refine (Names_obj (unhide HO1)).mono ?_
      rintro e w5 ⟨g, c5, rfl, hown5, b5⟩
      have hz4 := (unhide HO1).size
      have HO5 := hide ((unhide HO1).below b5)
      have HB5 := hide ((unhide HB4).trans (b5.mono hz4))
      have HG5 : Hid (TRow w5 own1 g c5 st1.length (sNames st1)) := ⟨(unhide HO1).not_new (hown5.lt g rfl).1, ownsRow_base hown5 (Nat.zero_le _)⟩
      clear hown5 b5
      have hfew := (unhide HO1).inv.few
      obtain ⟨J, HJ⟩ : ∃ J : Nat → ByteArray, Hid (∀ m, J m = jn ((sNames st1).take m)) := ⟨_, fun _ => rfl⟩
      have HJ0 : Hid (J 0 = ⟨#[]⟩) := unhide HJ 0
      go_wp2
      go_loopw [6, 7] (fun s k wr => ∃ (m : Nat) (own2 : List Nat), m ≤ st1.length ∧ k = .int .i64 m ∧ s = .string (J m) ∧ Hid (OObj w.heap.size wr B own2 st1) ∧ Hid (TRow wr own2 g c5 st1.length (sNames st1)) ∧ Hid (Below w.heap.size w wr)) (fun _ k _ => st1.length - (intOf k).toNat)
      case atStart => exact ⟨0, own1, Nat.zero_le _, rfl, by rw [HJ0.out], unhide HO5, unhide HG5, unhide HB5⟩
      case round =>
        obtain ⟨m, own2, hm1, rfl, rfl, HO2, HG2, HB6⟩ := hrel
        by_cases h2 : (m : Int) < (st1.length : Int)
        · obtain ⟨x, hx⟩ : ∃ x, (sNames st1)[m]? = some x := ⟨_, List.getElem?_eq_getElem (by rw [sNames_length]; omega)⟩
          have hcx := (unhide HG2).cell m x hx
          have hnx := sNames_named (unhide HO1).inv (List.mem_of_getElem? hx)
          have hsx := nameB_size hnx
          have hJs : (J m).size ≤ 1000000 := by
            rw [unhide HJ m]
            exact jn_size _ _ (by rw [sNames_length]; omega) (fun y hy => (nameB_size (sNames_named (unhide HO1).inv hy)).2)
          have hnm := fun W => Name_any x W (by unfold maxLen; omega)
          rw [hnx] at hnm
          obtain ⟨code2, text2, hrd, ht2⟩ := read_eq st1 x (unhide HO1).inv
          have HRD := hide hrd
          have HNM := hide hnm
          clear hnx hrd hnm
          by_cases h0 : m = 0
          · subst h0
            have HJ1 : Hid (J 0 ++ x = J 1) := by rw [unhide HJ 1, HJ0.out, jn_first _ _ hx]; exact rfl
            clear hx
            go_wp2_with fail
            refine ((unhide HNM) _).mono ?_
            rintro e w6 ⟨rfl, b6⟩
            have hcx6 := (b6.cell (p := ⟨g, 0, none⟩) (World.block_lt_of_cell? wr _ hcx)).trans hcx
            have HO6 := hide ((unhide HO2).below b6)
            have HG6 := hide ((unhide HG2).below b6)
            have HB7 := hide ((unhide HB6).trans (b6.mono (unhide HO2).size))
            clear b6 hcx
            go_wp2_with fail
            refine (Do_lit 5 x ⟨#[]⟩ ⟨#[]⟩ _ _ _ _ (unhide HRD) (unhide HO6) (by omega) (by decide) (by decide)).mono ?_
            rintro e w7 ⟨rfl, own3, o3, n3⟩
            have HG7 := hide ((unhide HG6).next n3)
            have HB8 := hide ((unhide HB7).trans n3.below)
            have HO7 := hide o3
            clear n3 o3 hcx6
            have fd1 := field1 code2 text2
            go_wp2
            go_roundw
            case rel => exact ⟨1, own3, by omega, by go_num, by rw [HJ1.out], unhide HO7, unhide HG7, unhide HB8⟩
            case measure => simp [intOf]; omega
          · obtain ⟨y, hy⟩ : ∃ y, (sNames st1)[m - 1]? = some y := ⟨_, List.getElem?_eq_getElem (by rw [sNames_length]; omega)⟩
            have hcy := (unhide HG2).cell (m - 1) y hy
            have hrise := sNames_rise (unhide HO1).inv (m - 1) y x hy (by rw [show m - 1 + 1 = m by omega]; exact hx)
            have HJ1 : Hid (J m ++ ⟨#[32]⟩ ++ x = J (m + 1)) := by rw [unhide HJ (m + 1), unhide HJ m, jn_succ _ _ _ (by omega) hx]; exact rfl
            have h01 : (0 : Int) < (m : Int) := by omega
            have h02 : (0 : Int) ≤ (m : Int) - 1 := by omega
            have h03 : (m : Int) - 1 < (st1.length : Int) := by omega
            have h04 : ((m : Int) - 1).toNat = m - 1 := by omega
            clear hx hy
            go_wp2_with fail
            go_quiet (fail)
            go_wp2_with fail
            refine ((unhide HNM) _).mono ?_
            rintro e w6 ⟨rfl, b6⟩
            have bq : Below wr.heap.size wr w6 := ⟨b6.os, b6.tape, b6.output, b6.size, b6.block⟩
            have hcx6 := (bq.cell (p := ⟨g, m, none⟩) (World.block_lt_of_cell? wr _ hcx)).trans hcx
            have HO6 := hide ((unhide HO2).below bq)
            have HG6 := hide ((unhide HG2).below bq)
            have HB7 := hide ((unhide HB6).trans (bq.mono (unhide HO2).size))
            clear b6 bq hcx hcy hrise
            go_wp2_with fail
            refine (Do_lit 5 x ⟨#[]⟩ ⟨#[]⟩ _ _ _ _ (unhide HRD) (unhide HO6) (by omega) (by decide) (by decide)).mono ?_
            rintro e w7 ⟨rfl, own3, o3, n3⟩
            have HG7 := hide ((unhide HG6).next n3)
            have HB8 := hide ((unhide HB7).trans n3.below)
            have HO7 := hide o3
            clear n3 o3 hcx6
            have fd1 := field1 code2 text2
            go_wp2
            go_roundw
            case rel => exact ⟨m + 1, own3, by omega, by go_num, by rw [HJ1.out], unhide HO7, unhide HG7, unhide HB8⟩
            case measure => simp [intOf]; omega
        · have hmm : m = st1.length := by omega
          subst hmm
          have HJn : Hid (J st1.length = jn (sNames st1)) := by rw [unhide HJ, List.take_of_length_le (by rw [sNames_length]; omega)]; exact rfl
          have h6 : (st1.length : Int) ≤ 6 := by omega
          go_wp2_with fail
          refine (Do_lit 6 ⟨#[]⟩ ⟨#[]⟩ ⟨#[]⟩ _ _ _ _ (list_same st1) (unhide HO2) (by decide) (by decide) (by decide)).mono ?_
          rw [← HJn.out]
          rintro e w7 ⟨rfl, own3, o3, n3⟩
          have HB8 := hide ((unhide HB6).trans n3.below)
          have HO7 := hide o3
          clear n3 o3
          have fd1 := field1 0 (J st1.length)
          go_wp2
          go_roundw
          case rel => exact ⟨j + 1, own3, st1, by omega, by go_num, unhide HO7, unhide HB8⟩
          case measure => simp [intOf]; omega
    · go_wp2
      go_ret
      exact ⟨rfl, unhide HB⟩

end Go.Proofs.Ytlndphpidkacgaa
