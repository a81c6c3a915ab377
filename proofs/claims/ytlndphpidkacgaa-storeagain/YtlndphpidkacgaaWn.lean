/- filesBegun. -/
import Derived.Test.YtlndphpidkacgaaWm
namespace Go.Proofs.Ytlndphpidkacgaa
open Go.RowKit
set_option linter.unusedSimpArgs false
set_option linter.unusedVariables false

def bgB : ByteArray := ⟨#[98]⟩
def bgA : ByteArray := ⟨#[97]⟩
def bgT : ByteArray := ⟨#[120, 32, 121]⟩
theorem begun1 : aDo [] ⟨1, ⟨#[98]⟩, ⟨#[]⟩, ⟨#[]⟩⟩ = ⟨0, ⟨#[]⟩, [⟨bgB, ⟨#[]⟩⟩]⟩ := by kernel_rfl
theorem begun2 : aDo [⟨bgB, ⟨#[]⟩⟩] ⟨1, ⟨#[97]⟩, ⟨#[]⟩, ⟨#[]⟩⟩ = ⟨0, ⟨#[]⟩, [⟨bgB, ⟨#[]⟩⟩, ⟨bgA, ⟨#[]⟩⟩]⟩ := by kernel_rfl
theorem begun3 : aDo [⟨bgB, ⟨#[]⟩⟩, ⟨bgA, ⟨#[]⟩⟩] ⟨4, ⟨#[98]⟩, ⟨#[]⟩, ⟨#[120, 32, 121]⟩⟩ = ⟨0, ⟨#[]⟩, [⟨bgB, bgT⟩, ⟨bgA, ⟨#[]⟩⟩]⟩ := by kernel_rfl
theorem begun4 : aDo [⟨bgB, bgT⟩, ⟨bgA, ⟨#[]⟩⟩] ⟨5, ⟨#[98]⟩, ⟨#[]⟩, ⟨#[]⟩⟩ = ⟨0, ⟨#[120, 32, 121]⟩, [⟨bgB, bgT⟩, ⟨bgA, ⟨#[]⟩⟩]⟩ := by kernel_rfl
theorem begun5s : sortB [bgB, bgA] = [bgA, bgB] := by
  have h : ¬ ([98] : List UInt8) ≤ [97] := by decide
  simp [sortB, bgA, bgB, List.mergeSort, List.MergeSort.Internal.splitInTwo, List.merge, h]
theorem begun5c : checkI ⟨6, ⟨#[]⟩, ⟨#[]⟩, ⟨#[]⟩⟩ = 0 := by kernel_rfl
theorem begun5 : aDo [⟨bgB, bgT⟩, ⟨bgA, ⟨#[]⟩⟩] ⟨6, ⟨#[]⟩, ⟨#[]⟩, ⟨#[]⟩⟩ = ⟨0, ⟨#[97, 32, 98]⟩, [⟨bgB, bgT⟩, ⟨bgA, ⟨#[]⟩⟩]⟩ := by
  rw [aDo, begun5c]
  simp only [ne_eq, not_true_eq_false, if_false, joinNames, sNames, List.map_cons, List.map_nil, begun5s]
  kernel_rfl
theorem begun6 : checkI ⟨0, ⟨#[]⟩, ⟨#[]⟩, ⟨#[]⟩⟩ = 1 := by kernel_rfl
theorem begun7 : nameB ⟨#[97, 98, 99, 100, 101]⟩ = true := by kernel_rfl

/-- A call that is written out, at an object. -/
theorem Do_lit (k : Int) (a b t : ByteArray) (code : Int) (text : ByteArray) (st st' : List AFile) (he : aDo st ⟨k, a, b, t⟩ = ⟨code, text, st'⟩) {N B : Nat} {own : List Nat} {w : World} (h : OObj N w B own st) (ha : a.size ≤ 1000) (hb : b.size ≤ 1000) (ht : t.size ≤ 1000) :
    Calls Try.prog 20 #[.pointer (some ⟨B, 0, none⟩), .agg #[.int .i64 k, .string a, .string b, .string t]] w
      fun e w' => e = .returned (.agg #[.int .i64 code, .string text]) ∧ ∃ own', OObj N w' B own' st' ∧ Next N w w' own own' := by
  have := Do_obj ⟨k, a, b, t⟩ h (by unfold maxLen; dsimp only; omega) (by unfold maxLen; dsimp only; omega) (by unfold maxLen; dsimp only; omega)
  rw [he] at this
  exact this

set_option maxRecDepth 100000 in
set_option maxHeartbeats 2000000 in
theorem begun_any (w : World) :
    Calls Try.prog 15 #[] w fun e w' => e = .returned (.bool true) ∧ Below w.heap.size w w' := by
  have H0 := hide (New_obj w)
  go_enter Try.func15, Try.ntmps15
  go_wp2_with (go_at_call 17; refine (New_any w).mono ?_; rintro e w' ⟨rfl, rfl⟩)
  refine (Do_lit 1 ⟨#[98]⟩ ⟨#[]⟩ ⟨#[]⟩ _ _ _ _ begun1 (unhide H0) (by decide) (by decide) (by decide)).mono ?_
  rintro e w1 ⟨rfl, own1, o1, n1⟩
  have H1 := hide (o1.alloc (.cells #[.int .i64 0, .string ⟨#[]⟩] 34))
  have HX1 := hide (o1.not_new (Nat.le_refl w1.heap.size))
  have HA1 : Hid (Can (w1.alloc (.cells #[.int .i64 0, .string ⟨#[]⟩] 34)) w1.heap.size 0 (.int .i64 0) ∧ Can (w1.alloc (.cells #[.int .i64 0, .string ⟨#[]⟩] 34)) w1.heap.size 1 (.string ⟨#[]⟩)) := ⟨⟨by simp, by simp⟩, ⟨by simp, by simp⟩⟩
  have HB1 := hide n1.below
  have hs1 := o1.size
  clear o1 n1
  go_wp2_with fail
  refine (Do_lit 1 ⟨#[97]⟩ ⟨#[]⟩ ⟨#[]⟩ _ _ _ _ begun2 (unhide H1) (by decide) (by decide) (by decide)).mono ?_
  rintro e w2 ⟨rfl, own2, o2, n2⟩
  have H2 := hide (o2.alloc (.cells #[.int .i64 0, .string ⟨#[]⟩] 34))
  have HX2 := hide (o2.not_new (Nat.le_refl w2.heap.size))
  have HX12 := hide (n2.keep w1.heap.size (by simp) (unhide HX1)).1
  have HA12 := hide (And.intro (n2.can (unhide HA1).1 (unhide HX1)) (n2.can (unhide HA1).2 (unhide HX1)))
  have HA2 : Hid (Can (w2.alloc (.cells #[.int .i64 0, .string ⟨#[]⟩] 34)) w2.heap.size 0 (.int .i64 0) ∧ Can (w2.alloc (.cells #[.int .i64 0, .string ⟨#[]⟩] 34)) w2.heap.size 1 (.string ⟨#[]⟩)) := ⟨⟨by simp, by simp⟩, ⟨by simp, by simp⟩⟩
  have HB2 := hide (((unhide HB1).alloc hs1 (.cells #[.int .i64 0, .string ⟨#[]⟩] 34)).trans n2.below)
  have hs2 := o2.size
  have hz12 : w1.heap.size < w2.heap.size := by have := n2.size; simp at this; omega
  clear o2 n2
  go_wp2_with fail
  refine (Do_lit 4 ⟨#[98]⟩ ⟨#[]⟩ ⟨#[120, 32, 121]⟩ _ _ _ _ begun3 (unhide H2) (by decide) (by decide) (by decide)).mono ?_
  rintro e w3 ⟨rfl, own3, o3, n3⟩
  have H3 := hide (o3.alloc (.cells #[.int .i64 0, .string ⟨#[]⟩] 34))
  have HX3 := hide (o3.not_new (Nat.le_refl w3.heap.size))
  have HX13 := hide (n3.keep w1.heap.size (by simp; omega) (unhide HX12)).1
  have HX23 := hide (n3.keep w2.heap.size (by simp) (unhide HX2)).1
  have HA13 := hide (And.intro (n3.can ((unhide HA12).1.alloc _) (unhide HX12)) (n3.can ((unhide HA12).2.alloc _) (unhide HX12)))
  have HA23 := hide (And.intro (n3.can (unhide HA2).1 (unhide HX2)) (n3.can (unhide HA2).2 (unhide HX2)))
  have HA3 : Hid (Can (w3.alloc (.cells #[.int .i64 0, .string ⟨#[]⟩] 34)) w3.heap.size 0 (.int .i64 0) ∧ Can (w3.alloc (.cells #[.int .i64 0, .string ⟨#[]⟩] 34)) w3.heap.size 1 (.string ⟨#[]⟩)) := ⟨⟨by simp, by simp⟩, ⟨by simp, by simp⟩⟩
  have HB3 := hide (((unhide HB2).alloc hs2 (.cells #[.int .i64 0, .string ⟨#[]⟩] 34)).trans n3.below)
  have hs3 := o3.size
  have hz23 : w2.heap.size < w3.heap.size := by have := n3.size; simp at this; omega
  clear o3 n3
  go_wp2_with fail
  refine (Do_lit 5 ⟨#[98]⟩ ⟨#[]⟩ ⟨#[]⟩ _ _ _ _ begun4 (unhide H3) (by decide) (by decide) (by decide)).mono ?_
  rintro e w4 ⟨rfl, own4, o4, n4⟩
  have H4 := hide (o4.alloc (.cells #[.int .i64 0, .string ⟨#[120, 32, 121]⟩] 34))
  have HX4 := hide (o4.not_new (Nat.le_refl w4.heap.size))
  have HX14 := hide (n4.keep w1.heap.size (by simp; omega) (unhide HX13)).1
  have HX24 := hide (n4.keep w2.heap.size (by simp; omega) (unhide HX23)).1
  have HX34 := hide (n4.keep w3.heap.size (by simp) (unhide HX3)).1
  have HA14 := hide (And.intro (n4.can ((unhide HA13).1.alloc _) (unhide HX13)) (n4.can ((unhide HA13).2.alloc _) (unhide HX13)))
  have HA24 := hide (And.intro (n4.can ((unhide HA23).1.alloc _) (unhide HX23)) (n4.can ((unhide HA23).2.alloc _) (unhide HX23)))
  have HA34 := hide (And.intro (n4.can (unhide HA3).1 (unhide HX3)) (n4.can (unhide HA3).2 (unhide HX3)))
  have HA4 : Hid (Can (w4.alloc (.cells #[.int .i64 0, .string ⟨#[120, 32, 121]⟩] 34)) w4.heap.size 0 (.int .i64 0) ∧ Can (w4.alloc (.cells #[.int .i64 0, .string ⟨#[120, 32, 121]⟩] 34)) w4.heap.size 1 (.string ⟨#[120, 32, 121]⟩)) := ⟨⟨by simp, by simp⟩, ⟨by simp, by simp⟩⟩
  have HB4 := hide (((unhide HB3).alloc hs3 (.cells #[.int .i64 0, .string ⟨#[]⟩] 34)).trans n4.below)
  have hs4 := o4.size
  have hz34 : w3.heap.size < w4.heap.size := by have := n4.size; simp at this; omega
  clear o4 n4
  go_wp2_with fail
  refine (Do_lit 6 ⟨#[]⟩ ⟨#[]⟩ ⟨#[]⟩ _ _ _ _ begun5 (unhide H4) (by decide) (by decide) (by decide)).mono ?_
  rintro e w5 ⟨rfl, own5, o5, n5⟩
  have HA15 := And.intro (n5.can ((unhide HA14).1.alloc _) (unhide HX14)) (n5.can ((unhide HA14).2.alloc _) (unhide HX14))
  have HA25 := And.intro (n5.can ((unhide HA24).1.alloc _) (unhide HX24)) (n5.can ((unhide HA24).2.alloc _) (unhide HX24))
  have HA35 := And.intro (n5.can ((unhide HA34).1.alloc _) (unhide HX34)) (n5.can ((unhide HA34).2.alloc _) (unhide HX34))
  have HA45 := And.intro (n5.can (unhide HA4).1 (unhide HX4)) (n5.can (unhide HA4).2 (unhide HX4))
  have a10 := fun o => (Can.alloc HA15.1 o).1
  have a11 := fun o => (Can.alloc HA15.2 o).1
  have a20 := fun o => (Can.alloc HA25.1 o).1
  have a21 := fun o => (Can.alloc HA25.2 o).1
  have a30 := fun o => (Can.alloc HA35.1 o).1
  have a31 := fun o => (Can.alloc HA35.2 o).1
  have a40 := fun o => (Can.alloc HA45.1 o).1
  have a41 := fun o => (Can.alloc HA45.2 o).1
  have HB5 := hide (((unhide HB4).alloc hs4 (.cells #[.int .i64 0, .string ⟨#[120, 32, 121]⟩] 34)).trans n5.below)
  have hs5 := o5.size
  have hz45 : w4.heap.size < w5.heap.size := by have := n5.size; simp at this; omega
  have y1 : ¬ w1.heap.size = w5.heap.size := by omega
  have y2 : ¬ w2.heap.size = w5.heap.size := by omega
  have y3 : ¬ w3.heap.size = w5.heap.size := by omega
  have y4 : ¬ w4.heap.size = w5.heap.size := by omega
  clear HA15 HA25 HA35 HA45 o5 n5
  go_wp2_with fail
  have hck := Check_any 0 ⟨#[]⟩ ⟨#[]⟩ ⟨#[]⟩ (w5.alloc (Obj.cells #[Value.int IntKind.i64 0, Value.string { data := #[97, 32, 98] }] 34)) (by decide) (by decide) (by decide)
  rw [begun6] at hck
  refine hck.mono ?_
  rintro e w6 ⟨rfl, b6⟩
  have HB6 := hide ((((Below.refl w.heap.size w).alloc (Nat.le_refl _) (.cells #[.slice none 0 0] 95)).trans (unhide HB5)).alloc hs5 (Obj.cells #[Value.int IntKind.i64 0, Value.string { data := #[97, 32, 98] }] 34) |>.trans (b6.mono (by simp; omega)))
  have hs6 : w.heap.size ≤ w6.heap.size := by have := b6.size; simp at this; omega
  clear hck b6 a10 a11 a20 a21 a30 a31 a40 a41
  go_wp2_with fail
  refine (Changes_any 1 _).mono ?_
  rintro e w7 ⟨rfl, rfl⟩
  go_wp2_with fail
  refine (Changes_any 5 _).mono ?_
  rintro e w8 ⟨rfl, rfl⟩
  have hnm := fun W => Name_any ⟨#[97, 98, 99, 100, 101]⟩ W (by decide)
  rw [begun7] at hnm
  go_wp2_with (go_at_call 27; refine (hnm _).mono ?_; rintro e w9 ⟨rfl, b9⟩)
  go_ret
  exact ⟨rfl, (unhide HB6).trans (b9.mono hs6)⟩

end Go.Proofs.Ytlndphpidkacgaa
