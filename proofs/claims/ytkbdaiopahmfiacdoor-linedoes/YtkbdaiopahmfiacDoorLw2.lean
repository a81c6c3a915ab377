/- Texts joined, what is needed of them: Lc Ld Lm Ln Lo Lr Le Le0 Le1 Le2 Le3 Le4 Le5. -/
import Derived.Test.YtkbdaiopahmfiacDoorLw1
import Derived.Lib.ItoaLen
import Derived.Shelf.Unicode.PredsPay
namespace Go.Proofs.YtkbdaiopahmfiacDoor
open Go.RowKit
set_option linter.unusedSimpArgs false
set_option linter.unusedVariables false

theorem cut_at {l : List UInt8} {q : Nat} (h : ∀ (j : Nat) (x : UInt8), j < q → l[j]? = some x → x ≠ 32) (hq : l[q]? = some 32) : cutB l = (l.take q, l.drop (q + 1), true) := by
  have hl : q < l.length := (List.getElem?_eq_some_iff.1 hq).1
  have hx : l[q] = 32 := by have := List.getElem?_eq_getElem hl; rw [hq] at this; exact (Option.some.inj this).symm
  have e : l.take q ++ 32 :: l.drop (q + 1) = l := by rw [← hx, ← List.drop_eq_getElem_cons hl, List.take_append_drop]
  have hn : 32 ∉ l.take q := fun hm => by
    obtain ⟨j, hj⟩ := List.mem_iff_getElem?.1 hm
    rw [List.getElem?_take] at hj
    split at hj
    · rename_i hjq; exact h j 32 hjq hj rfl
    · cases hj
  have := cutB_yes _ (l.drop (q + 1)) hn
  rw [e] at this
  exact this
theorem cut_none {l : List UInt8} (h : ∀ (j : Nat) (x : UInt8), j < l.length → l[j]? = some x → x ≠ 32) : cutB l = (l, [], false) := cutB_no l (fun hm => by
  obtain ⟨j, hj⟩ := List.mem_iff_getElem?.1 hm
  exact h j 32 (List.getElem?_eq_some_iff.1 hj).1 hj rfl)
theorem ext_take (s : ByteArray) (q : Nat) : s.extract 0 q = B (s.data.toList.take q) := by
  apply ByteArray.ext
  rw [ByteArray.data_extract]
  apply Array.toList_inj.1
  rw [Array.toList_extract, B_data, List.extract_eq_take_drop, List.drop_zero, Nat.sub_zero]
theorem ext_drop (s : ByteArray) (q : Nat) : s.extract q s.size = B (s.data.toList.drop q) := by
  apply ByteArray.ext
  rw [ByteArray.data_extract]
  apply Array.toList_inj.1
  rw [Array.toList_extract, B_data, List.extract_eq_take_drop, List.take_of_length_le (by rw [List.length_drop, bsize]; omega)]

set_option maxRecDepth 100000 in
set_option maxHeartbeats 4000000 in
theorem word_any (s : ByteArray) (w : World) (hs : s.size ≤ maxLen) :
    Calls Tryd.prog 23 #[.string s] w fun e w' => e = .returned (.tuple #[.string (B (cutB s.data.toList).1), .string (B (cutB s.data.toList).2.1), .bool (cutB s.data.toList).2.2]) ∧ Below w.heap.size w w' := by
  unfold maxLen at hs
  have hlen : s.data.toList.length = s.size := bsize s
  obtain ⟨r1, HR1⟩ : ∃ r, Hid (B (cutB s.data.toList).1 = r) := ⟨_, rfl⟩
  obtain ⟨r2, HR2⟩ : ∃ r, Hid (B (cutB s.data.toList).2.1 = r) := ⟨_, rfl⟩
  obtain ⟨r3, HR3⟩ : ∃ r, Hid ((cutB s.data.toList).2.2 = r) := ⟨_, rfl⟩
  rw [unhide HR1, unhide HR2, unhide HR3]
  go_enter Tryd.func23, Tryd.ntmps23
  go_wp2
  go_loop [5] (fun i => ∃ k : Nat, k ≤ s.size ∧ i = .int .i64 k ∧ Hid (∀ (j : Nat) (x : UInt8), j < k → s.data.toList[j]? = some x → x ≠ 32)) (fun i => s.size - (intOf i).toNat)
  case atStart => exact ⟨0, Nat.zero_le _, rfl, fun j x hj => absurd hj (by omega)⟩
  case round =>
    obtain ⟨q, hq, rfl, HA⟩ := hrel
    by_cases hlt : q < s.size
    · have hx : s.data.toList[q]? = some s[q] := by rw [List.getElem?_eq_getElem (by omega)]; rfl
      by_cases hb : s[q] = 32
      · have hcut := cut_at (unhide HA) (by rw [hx, hb])
        have h1 : s.extract 0 q = r1 := by rw [ext_take, ← unhide HR1, hcut]
        have h2 : s.extract (q + 1) s.size = r2 := by rw [ext_drop, ← unhide HR2, hcut]
        have HR3q : Hid (r3 = true) := by rw [← show (cutB s.data.toList).2.2 = r3 from unhide HR3, hcut]; exact rfl
        have hbi : ((s[q].toNat : Int) == 32) = true := by rw [hb]; rfl
        have hw : wrap64 ((q : Int) + 1) = (q : Int) + 1 := by unfold wrap64; omega
        have hw2 : IntKind.i64.wrap ((q : Int) + 1) = (q : Int) + 1 := by rw [IntKind.wrap_i64]; omega
        have hq0 : (0 : Int) ≤ (q : Int) := by omega
        have hq3 : (0 : Int) ≤ (q : Int) + 1 := by omega
        have hq1 : (q : Int) ≤ (s.size : Int) := by omega
        have hq2 : (q : Int) + 1 ≤ (s.size : Int) := by omega
        have hn1 : ((q : Int) + 1).toNat = q + 1 := by omega
        clear hx hb hcut
        go_wp2_with fail
        refine wp_region_held_drew (S := (fun wx => True)) (by kernel_rfl) (trivial) (fun hHeld => ?_)
        refine wpAnyH_take (i := 0) (v := ?_) opn0 (by kernel_rfl) (by kernel_rfl) (by kernel_rfl) (fun _ _ _ h => h) (Or.inl ⟨by kernel_rfl, ?_⟩) (by assumption) ?_
        rotate_left 1
        · intro wz hSw
          try dsimp only at hSw
          go_simp
          all_goals with_reducible rfl
        try simp only [Act.put, List.setIfInBounds_toArray, List.set_cons_zero, List.set_cons_succ]
        refine wpAnyH_take (i := 1) (v := ?_) opn1 (by kernel_rfl) (by kernel_rfl) (by kernel_rfl) (fun _ _ _ h => h) (Or.inl ⟨by kernel_rfl, ?_⟩) (by assumption) ?_
        rotate_left 1
        · intro wz hSw
          try dsimp only at hSw
          go_simp
          all_goals with_reducible rfl
        try simp only [Act.put, List.setIfInBounds_toArray, List.set_cons_zero, List.set_cons_succ]
        refine wpAnyH_take (i := 2) (v := ?_) opn2 (by kernel_rfl) (by kernel_rfl) (by kernel_rfl) (fun _ _ _ h => h) (Or.inl ⟨by kernel_rfl, ?_⟩) (by assumption) ?_
        rotate_left 1
        · intro wz hSw
          try dsimp only at hSw
          go_simp
          all_goals with_reducible rfl
        try simp only [Act.put, List.setIfInBounds_toArray, List.set_cons_zero, List.set_cons_succ]
        refine wpAnyH_take (i := 3) (v := ?_) opn3 (by kernel_rfl) (by kernel_rfl) (by kernel_rfl) (fun _ _ _ h => h) (Or.inl ⟨by kernel_rfl, ?_⟩) (by assumption) ?_
        rotate_left 1
        · intro wz hSw
          try dsimp only at hSw
          go_simp
          all_goals with_reducible rfl
        try simp only [Act.put, List.setIfInBounds_toArray, List.set_cons_zero, List.set_cons_succ]
        refine wpAnyH_take (i := 4) (v := ?_) opn4 (by kernel_rfl) (by kernel_rfl) (by kernel_rfl) (fun _ _ _ h => h) (Or.inl ⟨by kernel_rfl, ?_⟩) (by assumption) ?_
        rotate_left 1
        · intro wz hSw
          try dsimp only at hSw
          go_simp
          all_goals with_reducible rfl
        try simp only [Act.put, List.setIfInBounds_toArray, List.set_cons_zero, List.set_cons_succ]
        refine wpAnyH_take (i := 5) (v := ?_) opn5 (by kernel_rfl) (by kernel_rfl) (by kernel_rfl) (fun _ _ _ h => h) (Or.inl ⟨by kernel_rfl, ?_⟩) (by assumption) ?_
        rotate_left 1
        · intro wz hSw
          try dsimp only at hSw
          go_simp
          all_goals with_reducible rfl
        try simp only [Act.put, List.setIfInBounds_toArray, List.set_cons_zero, List.set_cons_succ]
        refine wpAnyH_take (i := 6) (v := ?_) opn6 (by kernel_rfl) (by kernel_rfl) (by kernel_rfl) (fun _ _ _ h => h) (Or.inl ⟨by kernel_rfl, ?_⟩) (by assumption) ?_
        rotate_left 1
        · intro wz hSw
          try dsimp only at hSw
          go_simp
          all_goals with_reducible rfl
        try simp only [Act.put, List.setIfInBounds_toArray, List.set_cons_zero, List.set_cons_succ]
        refine wpAnyH_take (i := 7) (v := ?_) opn7 (by kernel_rfl) (by kernel_rfl) (by kernel_rfl) (fun _ _ _ h => h) (Or.inl ⟨by kernel_rfl, ?_⟩) (by assumption) ?_
        rotate_left 1
        · intro wz hSw
          try dsimp only at hSw
          go_simp
          all_goals with_reducible rfl
        try simp only [Act.put, List.setIfInBounds_toArray, List.set_cons_zero, List.set_cons_succ]
        refine wpAnyH_take (i := 8) (v := ?_) opn8 (by kernel_rfl) (by kernel_rfl) (by kernel_rfl) (fun _ _ _ h => h) (Or.inl ⟨by kernel_rfl, ?_⟩) (by assumption) ?_
        rotate_left 1
        · intro wz hSw
          try dsimp only at hSw
          go_simp
          all_goals with_reducible rfl
        try simp only [Act.put, List.setIfInBounds_toArray, List.set_cons_zero, List.set_cons_succ]
        refine wpAnyH_take (i := 9) (v := ?_) opn9 (by kernel_rfl) (by kernel_rfl) (by kernel_rfl) (fun _ _ _ h => h) (Or.inl ⟨by kernel_rfl, ?_⟩) (by assumption) ?_
        rotate_left 1
        · intro wz hSw
          try dsimp only at hSw
          go_simp
          all_goals with_reducible rfl
        try simp only [Act.put, List.setIfInBounds_toArray, List.set_cons_zero, List.set_cons_succ]
        refine wpAnyH_done (by kernel_rfl) ?_ _
        clear hHeld
        go_wp2
        refine bodyPost_ret (v := .tuple #[.string r1, .string r2, .bool true]) (by simp [results, Tryd.results23, go_sem]) rfl ⟨by rw [unhide HR3q], below_drew w⟩
      · have hbi : ((s[q].toNat : Int) == 32) = false := by
          have : s[q].toNat ≠ 32 := fun e => hb (UInt8.toNat_inj.1 (by rw [e]; rfl))
          simp; omega
        have HA2 : Hid (∀ (j : Nat) (x : UInt8), j < q + 1 → s.data.toList[j]? = some x → x ≠ 32) := fun j x hj hjx => by
          by_cases hjq : j = q
          · subst hjq; rw [hx] at hjx; exact fun e => hb ((Option.some.inj hjx).trans e)
          · exact (unhide HA) j x (by omega) hjx
        clear hx hb
        go_wp2
        go_round
        case rel => exact ⟨q + 1, by omega, by go_num, unhide HA2⟩
        case measure => simp [intOf]; omega
    · obtain rfl : q = s.size := by omega
      have hcut := cut_none (l := s.data.toList) (fun j x hj => (unhide HA) j x (by omega))
      have h1 : s = r1 := by rw [← unhide HR1, hcut]; exact (data_B s).symm
      have h2 : (⟨#[]⟩ : ByteArray) = r2 := by rw [← unhide HR2, hcut]; rfl
      have h3 : false = r3 := by rw [← unhide HR3, hcut]
      have K1 := hide h1
      have K2 := hide h2
      have K3 := hide h3
      clear hcut HR1 HR2 HR3 hlen h1 h2 h3
      go_wp2
      refine bodyPost_ret (v := .tuple #[.string s, .string ⟨#[]⟩, .bool false]) (by simp [results, Tryd.results23, go_sem]) rfl ⟨by rw [← unhide K2, ← unhide K3, ← unhide K1], Below.refl _ _⟩

set_option maxRecDepth 100000 in
set_option maxHeartbeats 4000000 in
theorem num_any (n : Int) (h0 : -9223372036854775808 ≤ n) (h1 : n ≤ 9223372036854775807) (w : World) (ht : Lib.TabIs Tryd.prog w "internal/strconv.uint64pow10" .u64 Lib.pow10Tab) :
    Calls Tryd.prog 25 #[.int .i64 n] w fun e w' => e = .returned (.string (B (Lib.itoa n))) ∧ Below w.heap.size w w' := by
  have HI := hide (Tryd.strconv_Itoa n h0 h1 w ht)
  obtain ⟨r, HR⟩ : ∃ r : ByteArray, Hid (⟨(Lib.itoa n).toArray⟩ = r) := ⟨_, rfl⟩
  rw [show B (Lib.itoa n) = r from unhide HR]
  rw [show (⟨(Lib.itoa n).toArray⟩ : ByteArray) = r from unhide HR] at HI
  clear ht
  go_enter Tryd.func25, Tryd.ntmps25
  go_wp2_with fail
  refine (unhide HI).mono ?_
  rintro e w1 ⟨rfl, k, os, hw⟩
  have HB : Hid (Below w.heap.size w w1) := by
    rw [hw]
    exact ⟨rfl, rfl, rfl, by show w.heap.size ≤ (w.heap ++ os).size; simp, fun j hj => by show (w.heap ++ os)[j]? = w.heap[j]?; exact Array.getElem?_append_left hj⟩
  clear hw
  go_wp2
  go_ret
  exact ⟨rfl, unhide HB⟩

theorem B_app (a b : List UInt8) : B a ++ B b = B (a ++ b) := by
  apply WideShapes.bytes_inj
  simp [B]
theorem B_line (w : List UInt8) (W : ByteArray) (hW : W = B (w ++ [32])) (s : ByteArray) : W ++ s = B (w ++ 32 :: s.data.toList) := by
  rw [hW, ← data_B s, B_app, B_data]; simp
theorem B_line2 (w : List UInt8) (W : ByteArray) (hW : W = B (w ++ [32])) (s u : ByteArray) : W ++ s ++ ⟨#[32]⟩ ++ u = B (w ++ 32 :: (s.data.toList ++ 32 :: u.data.toList)) := by
  rw [hW, ← data_B s, ← data_B u, show (⟨#[32]⟩ : ByteArray) = B [32] from rfl, B_app, B_app, B_app, B_data, B_data]; simp
set_option maxRecDepth 100000 in
set_option maxHeartbeats 4000000 in
theorem CallText_any (x : ACall) (w : World) (h1 : x.name.size ≤ maxLen) (h2 : x.dst.size ≤ maxLen) (h3 : x.text.size ≤ maxLen) :
    Calls Tryd.prog 9 #[.agg #[.int .i64 x.kind, .string x.name, .string x.dst, .string x.text]] w fun e w' => e = .returned (.tuple #[.string (B (aLine x).1), .int .i64 (aLine x).2]) ∧ Below w.heap.size w w' := by
  have hok := fun (h : checkI x = 0) => check_zero h
  have hkk := fun (h : checkI x = 0) => kinds6 h
  have hnm : checkI x = 0 → x.kind ≠ 6 → x.name.size ≤ 5 := fun h h6 => (nameB_size (named_name (check_zero h).2.2.2.1 h6)).2
  have hds : checkI x = 0 → x.kind = 3 → x.dst.size ≤ 5 := fun h h6 => (nameB_size (named_dst (check_zero h).2.2.2.1 h6)).2
  have htx : checkI x = 0 → x.kind = 4 → x.text.size ≤ 8 := fun h h6 => (textB_size ((check_zero h).2.2.2.2 h6)).2
  obtain ⟨R, hR⟩ : ∃ R : ByteArray × Int, R = (B (aLine x).1, (aLine x).2) := ⟨_, rfl⟩
  have e1 : B (aLine x).1 = R.1 := by rw [hR]
  have e2 : (aLine x).2 = R.2 := by rw [hR]
  rw [e1, e2]
  have HR : Hid (R = if checkI x ≠ 0 then (⟨#[]⟩, checkI x) else (B (lineL x), 0)) := by
    rw [hR]; unfold aLine; split <;> exact rfl
  clear e1 e2 hR
  have hcf := CallFault_any x.kind x.name x.dst x.text (w.alloc (.cells #[.int .i64 x.kind, .string x.name, .string x.dst, .string x.text] 23)) h1 h2 h3
  obtain ⟨ck, ca, cb, ct⟩ := x
  dsimp only at *
  generalize hcc : checkI ⟨ck, ca, cb, ct⟩ = code at *
  have HCF := hide hcf
  obtain ⟨V, hV⟩ : ∃ V, V = w.alloc (.cells #[.int .i64 ck, .string ca, .string cb, .string ct] 23) := ⟨_, rfl⟩
  have hB0 : Below w.heap.size w V := by rw [hV]; exact (Below.refl _ _).alloc (Nat.le_refl _) _
  have hX0 : V.heap[w.heap.size]? = some (.cells #[.int .i64 ck, .string ca, .string cb, .string ct] 23 (0, 0)) := by rw [hV]; exact heap_alloc_new _ _
  have HB0 := hide hB0
  have HX0 := hide hX0
  have HV := hide hV
  have HH := hide hcc
  clear hB0 hX0 hV hcf h1 h2 h3 hcc hok
  go_enter Tryd.func9, Tryd.ntmps9
  go_wp2_with fail
  refine (unhide HCF).mono ?_
  rintro e w1 ⟨rfl, b1⟩
  rw [← unhide HV] at b1
  have hX1 := (b1.block _ (Array.getElem?_eq_some_iff.1 (unhide HX0)).1).trans (unhide HX0)
  have HB1 := hide ((unhide HB0).trans (b1.mono (unhide HB0).size))
  obtain ⟨x0, x1, x2, x3, _⟩ := fourK hX1
  clear b1 hX1 HB0 HX0 HV HCF
  by_cases hc : code = 0
  · subst hc
    have hkd := hkk rfl
    replace HR : Hid (R = (B (lineL ⟨ck, ca, cb, ct⟩), 0)) := hide (by have := unhide HR; simpa using this)
    rcases hkd with rfl | rfl | rfl | rfl | rfl | rfl
    · have hs := hnm rfl (by decide)
      have hR1 : (⟨#[109, 97, 107, 101, 32]⟩ : ByteArray) ++ ca = R.1 := by rw [unhide HR]; exact (B_line wMake _ rfl ca).trans (by simp [lineL])
      have hR2 : (0 : Int) = R.2 := by rw [unhide HR]
      have hz : ¬ (9223372036854775807 < 5 + ca.size) := by omega
      obtain ⟨R1, R2⟩ := R
      dsimp only at hR1 hR2 HR
      subst hR2
      clear HR hkk hnm hds htx HH
      go_wp2
      go_ret2
      exact ⟨by rw [← hR1]; exact rfl, unhide HB1⟩
    · have hs := hnm rfl (by decide)
      have hR1 : (⟨#[114, 101, 109, 111, 118, 101, 32]⟩ : ByteArray) ++ ca = R.1 := by rw [unhide HR]; exact (B_line wRemove _ rfl ca).trans (by simp [lineL])
      have hR2 : (0 : Int) = R.2 := by rw [unhide HR]
      have hz : ¬ (9223372036854775807 < 7 + ca.size) := by omega
      obtain ⟨R1, R2⟩ := R
      dsimp only at hR1 hR2 HR
      subst hR2
      clear HR hkk hnm hds htx HH
      go_wp2
      go_ret2
      exact ⟨by rw [← hR1]; exact rfl, unhide HB1⟩
    · have hs := hnm rfl (by decide)
      have hu := hds rfl rfl
      have hR1 : (⟨#[114, 101, 110, 97, 109, 101, 32]⟩ : ByteArray) ++ ca ++ ⟨#[32]⟩ ++ cb = R.1 := by rw [unhide HR]; exact (B_line2 wRename _ rfl ca _).trans (by simp [lineL])
      have hR2 : (0 : Int) = R.2 := by rw [unhide HR]
      have hz : ¬ (9223372036854775807 < 7 + ca.size) := by omega
      have hz2 : ¬ (9223372036854775807 < 7 + ca.size + 1) := by omega
      have hz3 : ¬ (9223372036854775807 < 7 + ca.size + 1 + cb.size) := by omega
      obtain ⟨R1, R2⟩ := R
      dsimp only at hR1 hR2 HR
      subst hR2
      clear HR hkk hnm hds htx HH
      go_wp2
      go_ret2
      exact ⟨by rw [← hR1]; exact rfl, unhide HB1⟩
    · have hs := hnm rfl (by decide)
      have hu := htx rfl rfl
      have hR1 : (⟨#[97, 112, 112, 101, 110, 100, 32]⟩ : ByteArray) ++ ca ++ ⟨#[32]⟩ ++ ct = R.1 := by rw [unhide HR]; exact (B_line2 wAppend _ rfl ca _).trans (by simp [lineL])
      have hR2 : (0 : Int) = R.2 := by rw [unhide HR]
      have hz : ¬ (9223372036854775807 < 7 + ca.size) := by omega
      have hz2 : ¬ (9223372036854775807 < 7 + ca.size + 1) := by omega
      have hz3 : ¬ (9223372036854775807 < 7 + ca.size + 1 + ct.size) := by omega
      obtain ⟨R1, R2⟩ := R
      dsimp only at hR1 hR2 HR
      subst hR2
      clear HR hkk hnm hds htx HH
      go_wp2
      go_ret2
      exact ⟨by rw [← hR1]; exact rfl, unhide HB1⟩
    · have hs := hnm rfl (by decide)
      have hR1 : (⟨#[114, 101, 97, 100, 32]⟩ : ByteArray) ++ ca = R.1 := by rw [unhide HR]; exact (B_line wRead _ rfl ca).trans (by simp [lineL])
      have hR2 : (0 : Int) = R.2 := by rw [unhide HR]
      have hz : ¬ (9223372036854775807 < 5 + ca.size) := by omega
      obtain ⟨R1, R2⟩ := R
      dsimp only at hR1 hR2 HR
      subst hR2
      clear HR hkk hnm hds htx HH
      go_wp2
      go_ret2
      exact ⟨by rw [← hR1]; exact rfl, unhide HB1⟩
    · have hR1 : (⟨#[108, 105, 115, 116]⟩ : ByteArray) = R.1 := by rw [unhide HR]; simp [lineL]; rfl
      have hR2 : (0 : Int) = R.2 := by rw [unhide HR]
      obtain ⟨R1, R2⟩ := R
      dsimp only at hR1 hR2 HR
      subst hR2
      clear HR hkk hnm hds htx HH
      go_wp2
      go_ret2
      exact ⟨by rw [← hR1]; exact rfl, unhide HB1⟩
  · replace HR : Hid (R = (⟨#[]⟩, code)) := by have := unhide HR; rw [if_pos hc] at this; exact this
    obtain ⟨R1, R2⟩ := R
    have hR := unhide HR
    simp only [Prod.mk.injEq] at hR
    obtain ⟨rfl, rfl⟩ := hR
    have hne : (R2 != 0) = true := by simpa using hc
    clear HR hkk hnm hds htx HH hc
    go_wp2
    go_ret2
    exact ⟨rfl, unhide HB1⟩

theorem TabIs_later {n : String} {k : IntKind} {zs : List Int} {w w' : World} (h : Lib.TabIs Tryd.prog w n k zs) (hb : Below w.heap.size w w') : Lib.TabIs Tryd.prog w' n k zs := by
  cases hg : Tryd.prog.globalNamed n with
  | none => unfold Lib.TabIs World.var? at h; rw [hg] at h; simp at h
  | some g => exact TabIs_below hg h hb

end Go.Proofs.YtkbdaiopahmfiacDoor

namespace Go.Proofs.YtkbdaiopahmfiacDoor
open Go.RowKit
set_option linter.unusedSimpArgs false
set_option linter.unusedVariables false

theorem B_size (l : List UInt8) : (B l).size = l.length := by show l.toArray.size = _; simp
theorem size_pos {u : ByteArray} (h : u.data.toList ≠ []) : 0 < u.size := by
  rcases Nat.eq_zero_or_pos u.size with h0 | h0
  · exact absurd (List.length_eq_zero_iff.1 ((bsize u).trans h0)) h
  · exact h0
theorem tail_some {u : ByteArray} (hu : u.data.toList ≠ []) (a : List UInt8) : B a ++ ⟨#[32]⟩ ++ u = B (a ++ tailL u.data.toList) := by
  have e : B a ++ ⟨#[32]⟩ ++ B u.data.toList = B (a ++ tailL u.data.toList) := by
    rw [show (⟨#[32]⟩ : ByteArray) = B [32] from rfl, B_app, B_app]
    unfold tailL
    rw [if_neg hu]; simp
  rwa [data_B] at e
theorem tail_none {u : ByteArray} (hu : u.data.toList = []) (a : List UInt8) : B a = B (a ++ tailL u.data.toList) := by
  unfold tailL
  rw [if_pos hu, List.append_nil]

set_option maxRecDepth 100000 in
set_option maxHeartbeats 4000000 in
theorem AnswerText_zero (u : ByteArray) (w : World) (hu : u.size ≤ 1000000) :
    Calls Tryd.prog 13 #[.agg #[.int .i64 0, .string u]] w fun e w' => e = .returned (.string (B (ansL 0 u.data.toList))) ∧ Below w.heap.size w w' := by
  have HB := hide ((Below.refl w.heap.size w).alloc (Nat.le_refl _) (.cells #[.int .i64 0, .string u] 25))
  have ha : ansL 0 u.data.toList = [111, 107] ++ tailL u.data.toList := by simp [ansL]
  rw [ha]
  clear ha
  by_cases h : u.data.toList = []
  · have hs : u.size = 0 := by rw [← bsize u, h]; rfl
    have hn : ¬ ((0 : Int) < (u.size : Int)) := by omega
    have e := tail_none h [111, 107]
    rw [← e]
    clear h e hs
    go_enter Tryd.func13, Tryd.ntmps13
    go_wp2
    go_ret
    exact ⟨rfl, unhide HB⟩
  · have hp := size_pos h
    have hn : (0 : Int) < (u.size : Int) := by omega
    have e := tail_some h [111, 107]
    rw [← e]
    have hz1 : ¬ (9223372036854775807 < 2 + 1) := by omega
    have hz2 : ¬ (9223372036854775807 < 2 + 1 + u.size) := by omega
    have hz3 : ¬ (9223372036854775807 < 3 + u.size) := by omega
    clear h e hp
    go_enter Tryd.func13, Tryd.ntmps13
    go_wp2
    go_ret
    exact ⟨rfl, unhide HB⟩

set_option maxRecDepth 100000 in
set_option maxHeartbeats 4000000 in
theorem AnswerText_code (d : Int) (u : ByteArray) (w : World) (hd : d ≠ 0) (h0 : -9223372036854775808 ≤ d) (h1 : d ≤ 9223372036854775807) (hu : u.size ≤ 1000000) (ht : Lib.TabIs Tryd.prog w "internal/strconv.uint64pow10" .u64 Lib.pow10Tab) :
    Calls Tryd.prog 13 #[.agg #[.int .i64 d, .string u]] w fun e w' => e = .returned (.string (B (ansL d u.data.toList))) ∧ Below w.heap.size w w' := by
  obtain ⟨V, hV⟩ : ∃ V, V = w.alloc (.cells #[.int .i64 d, .string u] 25) := ⟨_, rfl⟩
  have hB0 : Below w.heap.size w V := by rw [hV]; exact (Below.refl _ _).alloc (Nat.le_refl _) _
  have hX0 : V.heap[w.heap.size]? = some (.cells #[.int .i64 d, .string u] 25 (0, 0)) := by rw [hV]; exact heap_alloc_new _ _
  have HNUM := hide (num_any d h0 h1 V (TabIs_later ht hB0))
  have hl := Lib.itoa_length_le d h0 h1
  have ha : ansL d u.data.toList = [110, 111, 32] ++ Lib.itoa d ++ tailL u.data.toList := by simp [ansL, hd]
  rw [ha]
  obtain ⟨m, hm⟩ : ∃ m : ByteArray, m = B (Lib.itoa d) := ⟨_, rfl⟩
  have hms : m.size ≤ 21 := by rw [hm, B_size]; exact hl
  have e0 : (⟨#[110, 111, 32]⟩ : ByteArray) ++ m = B ([110, 111, 32] ++ Lib.itoa d) := by rw [hm, show (⟨#[110, 111, 32]⟩ : ByteArray) = B [110, 111, 32] from rfl, B_app]
  rw [← hm] at HNUM
  have hne : (d != 0) = true := by simpa using hd
  have HB0 := hide hB0
  have HX0 := hide hX0
  have HV := hide hV
  have hz0 : ¬ (9223372036854775807 < 3 + m.size) := by omega
  obtain ⟨y0, y1, _⟩ := twoK hX0
  have hm0 : (⟨#[110, 111, 32]⟩ : ByteArray).size = 3 := rfl
  have hsz : ((⟨#[110, 111, 32]⟩ : ByteArray) ++ m).size = 3 + m.size := by rw [ByteArray.size_append]; rfl
  clear ha hB0 hX0 hV ht h0 h1 hl hd
  by_cases h : u.data.toList = []
  · have hs : u.size = 0 := by rw [← bsize u, h]; rfl
    have hn : ¬ ((0 : Int) < (u.size : Int)) := by omega
    have e := tail_none h ([110, 111, 32] ++ Lib.itoa d)
    rw [← e, ← e0]
    clear h e hs e0 hm
    go_enter Tryd.func13, Tryd.ntmps13
    go_wp2_with fail
    rw [← unhide HV]
    refine (unhide HNUM).mono ?_
    rintro e w1 ⟨rfl, b1⟩
    have hX1 := (b1.block _ (Array.getElem?_eq_some_iff.1 (unhide HX0)).1).trans (unhide HX0)
    obtain ⟨x0, x1, _⟩ := twoK hX1
    have HB1 := hide ((unhide HB0).trans (b1.mono (unhide HB0).size))
    clear b1 hX1 y0 y1
    go_wp2
    go_ret
    exact ⟨rfl, unhide HB1⟩
  · have hp := size_pos h
    have hn : (0 : Int) < (u.size : Int) := by omega
    have e := tail_some h ([110, 111, 32] ++ Lib.itoa d)
    rw [← e, ← e0]
    have hz1 : ¬ (9223372036854775807 < 3 + m.size + 1) := by omega
    have hz2 : ¬ (9223372036854775807 < 3 + m.size + 1 + u.size) := by omega
    clear h e hp e0 hm
    go_enter Tryd.func13, Tryd.ntmps13
    go_wp2_with fail
    rw [← unhide HV]
    refine (unhide HNUM).mono ?_
    rintro e w1 ⟨rfl, b1⟩
    have hX1 := (b1.block _ (Array.getElem?_eq_some_iff.1 (unhide HX0)).1).trans (unhide HX0)
    obtain ⟨x0, x1, _⟩ := twoK hX1
    have HB1 := hide ((unhide HB0).trans (b1.mono (unhide HB0).size))
    clear b1 hX1 y0 y1
    go_wp2
    go_ret
    exact ⟨rfl, unhide HB1⟩

end Go.Proofs.YtkbdaiopahmfiacDoor

namespace Go.Proofs.YtkbdaiopahmfiacDoor
open Go.RowKit
set_option linter.unusedSimpArgs false
set_option linter.unusedVariables false

theorem itoa_any (n : Int) (h0 : -9223372036854775808 ≤ n) (h1 : n ≤ 9223372036854775807) (w : World) (ht : Lib.TabIs Tryd.prog w "internal/strconv.uint64pow10" .u64 Lib.pow10Tab) :
    Calls Tryd.prog 24 #[.int .i64 n] w fun e w' => e = .returned (.string (B (Lib.itoa n))) ∧ Below w.heap.size w w' := by
  refine (Tryd.strconv_Itoa n h0 h1 w ht).mono ?_
  rintro e w1 ⟨rfl, k, os, hw⟩
  refine ⟨rfl, ?_⟩
  rw [hw]
  exact ⟨rfl, rfl, rfl, by show w.heap.size ≤ (w.heap ++ os).size; simp, fun j hj => by show (w.heap ++ os)[j]? = w.heap[j]?; exact Array.getElem?_append_left hj⟩

set_option maxRecDepth 100000 in
set_option maxHeartbeats 4000000 in
theorem Answer_ok (d : Int) (u : ByteArray) (w : World) (hw : LW w) (hd : d = 0) (h0 : -9223372036854775808 ≤ d) (h1 : d ≤ 9223372036854775807) (hu : u.size ≤ 900000) (he : u.data.toList = []) :
    Calls Tryd.prog 12 #[.agg #[.int .i64 d, .string u]] w fun e w' => e = .returned (.string (B (ansL d u.data.toList))) ∧ Below w.heap.size w w' := by
  obtain ⟨V0, hV0⟩ : ∃ V, V = w.alloc (.cells #[.int .i64 d, .string u] 25) := ⟨_, rfl⟩
  obtain ⟨V2, hV2⟩ : ∃ V, V = (w.alloc (.cells #[.int .i64 d, .string u] 25)).alloc (.cells #[.pointer none, .slice none 0 0] 40) := ⟨_, rfl⟩
  have hz0 : V0.heap.size = w.heap.size + 1 := by rw [hV0]; exact al_size _ _
  have hb0 : Below w.heap.size w V0 := by rw [hV0]; exact (Below.refl _ _).alloc (Nat.le_refl _) _
  have hC0 : V0.heap[w.heap.size]? = some (.cells #[.int .i64 d, .string u] 25 (0, 0)) := by rw [hV0]; exact heap_alloc_new _ _
  have hb2 : Below V0.heap.size V0 V2 := by rw [hV2, ← hV0]; exact (Below.refl _ _).alloc (Nat.le_refl _) _
  have hY2 : YB (w.heap.size + 1) (w.heap.size + 1) [] V2 := by rw [← hz0, hV2, ← hV0]; exact Lib.IsBuilderF.of (Lib.fresh_isBuilder 40 5 V0)
  have hB : ∀ W, Below (w.heap.size + 1) V2 W → Below w.heap.size w W ∧ LW W ∧ W.cell? ⟨w.heap.size, 0, none⟩ = some (.int .i64 d) ∧ W.cell? ⟨w.heap.size, 1, none⟩ = some (.string u) ∧ w.heap.size + 1 ≤ W.heap.size := fun W hW => by
    rw [← hz0] at hW ⊢
    have h2 := hb2.trans hW
    obtain ⟨y0, y1, _⟩ := twoK ((h2.block _ (by omega)).trans hC0)
    exact ⟨hb0.trans (h2.mono (by omega)), (hw.below hb0).below h2, y0, y1, h2.size⟩
  have HB := hide hB
  obtain ⟨_, _, x0, x1, hs2⟩ := hB V2 (Below.refl _ _)
  rw [hV2] at x0 x1
  have lu : u.data.toList.length = u.size := bsize u
  subst hd
  have hd0 : ((0 : Int) == 0) = true := rfl
  have ha : ansL 0 u.data.toList = [111, 107] ++ tailL u.data.toList := by simp [ansL]
  rw [ha]
  have ht : tailL u.data.toList = [] := by rw [tailL, if_pos he]
  rw [ht, List.append_nil]
  have hue : (u.toList == []) = true := by rw [toList_data, he]; rfl
  have hune : (u.toList != []) = false := by rw [toList_data, he]; rfl
  have HWS := hide (WriteStr_l (w.heap.size + 1) (w.heap.size + 1) [] ⟨#[111, 107]⟩ V2 hY2 (by decide) hs2)
  obtain ⟨res, hres⟩ : ∃ res : ByteArray, res = B ([111, 107]) := ⟨_, rfl⟩
  rw [← hres]
  have HRES := hide hres
  have HV2 := hide hV2
  have HLU := hide (And.intro lu hu)
  clear hres hV0 hV2 hz0 hb0 hC0 hb2 hY2 hB hs2 ha ht he lu hu h0 h1 hw
  go_enter Tryd.func12, Tryd.ntmps12
  --@A1@
  go_wp2_with fail
  rw [← unhide HV2]
  refine (unhide HWS).mono ?_
  rintro e w3 ⟨rfl, y3, b3, _⟩
  have HB3 := hide b3
  obtain ⟨_, lw3, x0, x1, hs3⟩ := (unhide HB) w3 b3
  rw [List.nil_append] at y3
  have hst := String_y (w.heap.size + 1) (w.heap.size + 1) _ w3 y3 hs3
  have hres := unhide HRES
  have HST : Hid (Calls Tryd.prog 18 #[.pointer (some ⟨w.heap.size + 1, 0, none⟩)] w3 fun e w' => e = .returned (.string res) ∧ Below (w.heap.size + 1) w3 w') := hide (by
    rw [hres]
    have := hst
    simpa [B] using this)
  clear hst hres y3 hs3
  --@A6@
  go_wp2_with fail
  refine (unhide HST).mono ?_
  rintro e w8 ⟨rfl, b8⟩
  obtain ⟨hbE, _⟩ := (unhide HB) w8 ((unhide HB3).trans b8)
  have HBE := hide hbE
  clear b8 hbE
  go_wp2
  go_ret
  exact ⟨rfl, unhide HBE⟩
set_option maxRecDepth 100000 in
set_option maxHeartbeats 4000000 in
theorem Answer_ok_text (d : Int) (u : ByteArray) (w : World) (hw : LW w) (hd : d = 0) (h0 : -9223372036854775808 ≤ d) (h1 : d ≤ 9223372036854775807) (hu : u.size ≤ 900000) (he : u.data.toList ≠ []) :
    Calls Tryd.prog 12 #[.agg #[.int .i64 d, .string u]] w fun e w' => e = .returned (.string (B (ansL d u.data.toList))) ∧ Below w.heap.size w w' := by
  obtain ⟨V0, hV0⟩ : ∃ V, V = w.alloc (.cells #[.int .i64 d, .string u] 25) := ⟨_, rfl⟩
  obtain ⟨V2, hV2⟩ : ∃ V, V = (w.alloc (.cells #[.int .i64 d, .string u] 25)).alloc (.cells #[.pointer none, .slice none 0 0] 40) := ⟨_, rfl⟩
  have hz0 : V0.heap.size = w.heap.size + 1 := by rw [hV0]; exact al_size _ _
  have hb0 : Below w.heap.size w V0 := by rw [hV0]; exact (Below.refl _ _).alloc (Nat.le_refl _) _
  have hC0 : V0.heap[w.heap.size]? = some (.cells #[.int .i64 d, .string u] 25 (0, 0)) := by rw [hV0]; exact heap_alloc_new _ _
  have hb2 : Below V0.heap.size V0 V2 := by rw [hV2, ← hV0]; exact (Below.refl _ _).alloc (Nat.le_refl _) _
  have hY2 : YB (w.heap.size + 1) (w.heap.size + 1) [] V2 := by rw [← hz0, hV2, ← hV0]; exact Lib.IsBuilderF.of (Lib.fresh_isBuilder 40 5 V0)
  have hB : ∀ W, Below (w.heap.size + 1) V2 W → Below w.heap.size w W ∧ LW W ∧ W.cell? ⟨w.heap.size, 0, none⟩ = some (.int .i64 d) ∧ W.cell? ⟨w.heap.size, 1, none⟩ = some (.string u) ∧ w.heap.size + 1 ≤ W.heap.size := fun W hW => by
    rw [← hz0] at hW ⊢
    have h2 := hb2.trans hW
    obtain ⟨y0, y1, _⟩ := twoK ((h2.block _ (by omega)).trans hC0)
    exact ⟨hb0.trans (h2.mono (by omega)), (hw.below hb0).below h2, y0, y1, h2.size⟩
  have HB := hide hB
  obtain ⟨_, _, x0, x1, hs2⟩ := hB V2 (Below.refl _ _)
  rw [hV2] at x0 x1
  have lu : u.data.toList.length = u.size := bsize u
  subst hd
  have hd0 : ((0 : Int) == 0) = true := rfl
  have ha : ansL 0 u.data.toList = [111, 107] ++ tailL u.data.toList := by simp [ansL]
  rw [ha]
  have ht : tailL u.data.toList = 32 :: u.data.toList := by rw [tailL, if_neg he]
  rw [ht]
  have hue : (u.toList == []) = false := by rw [toList_data]; simpa using he
  have hune : (u.toList != []) = true := by rw [toList_data]; simpa using he
  have HWS := hide (WriteStr_l (w.heap.size + 1) (w.heap.size + 1) [] ⟨#[111, 107]⟩ V2 hY2 (by decide) hs2)
  obtain ⟨res, hres⟩ : ∃ res : ByteArray, res = B ([111, 107] ++ 32 :: u.data.toList) := ⟨_, rfl⟩
  rw [← hres]
  have HRES := hide hres
  have HV2 := hide hV2
  have HLU := hide (And.intro lu hu)
  clear hres hV0 hV2 hz0 hb0 hC0 hb2 hY2 hB hs2 ha ht he lu hu h0 h1 hw
  go_enter Tryd.func12, Tryd.ntmps12
  --@A1@
  go_wp2_with fail
  rw [← unhide HV2]
  refine (unhide HWS).mono ?_
  rintro e w3 ⟨rfl, y3, b3, _⟩
  have HB3 := hide b3
  obtain ⟨_, lw3, x0, x1, hs3⟩ := (unhide HB) w3 b3
  rw [List.nil_append] at y3
  have HWB := hide (WriteBlank_l (w.heap.size + 1) (w.heap.size + 1) _ w3 y3 (by simp only [List.length_append, List.length_cons, List.length_nil, bsize]; omega) hs3)
  clear y3 b3 HWS lw3
  --@A4@
  go_wp2_with fail
  refine (unhide HWB).mono ?_
  rintro e w6 ⟨rfl, y6, b6, _⟩
  have hb6 := (unhide HB3).trans b6
  obtain ⟨_, _, z0, z1, hs6⟩ := (unhide HB) w6 hb6
  have HWT := hide (WriteStr_l (w.heap.size + 1) (w.heap.size + 1) _ u w6 y6 (by have := (unhide HLU).2; simp only [List.length_append, List.length_cons, List.length_nil, bsize]; omega) hs6)
  have HB6 := hide hb6
  clear y6 b6 hb6 HWB x0 x1 hs3
  --@A5@
  go_wp2_with fail
  refine (unhide HWT).mono ?_
  rintro e w7 ⟨rfl, y7, b7, _⟩
  have hb7 := (unhide HB6).trans b7
  obtain ⟨hbE, _, _, _, hs7⟩ := (unhide HB) w7 hb7
  have HB7 := hide hb7
  clear b7 hb7 HWT z0 z1 hs6 hbE
  have hst := String_y (w.heap.size + 1) (w.heap.size + 1) _ w7 y7 hs7
  have hres := unhide HRES
  have HST : Hid (Calls Tryd.prog 18 #[.pointer (some ⟨w.heap.size + 1, 0, none⟩)] w7 fun e w' => e = .returned (.string res) ∧ Below (w.heap.size + 1) w7 w') := hide (by
    rw [hres]
    have := hst
    simpa [B, List.append_assoc] using this)
  clear hst hres y7 hs7
  --@A6@
  go_wp2_with fail
  refine (unhide HST).mono ?_
  rintro e w8 ⟨rfl, b8⟩
  obtain ⟨hbE, _⟩ := (unhide HB) w8 ((unhide HB7).trans b8)
  have HBE := hide hbE
  clear b8 hbE
  go_wp2
  go_ret
  exact ⟨rfl, unhide HBE⟩
set_option maxRecDepth 100000 in
set_option maxHeartbeats 4000000 in
theorem Answer_no (d : Int) (u : ByteArray) (w : World) (hw : LW w) (hd : d ≠ 0) (h0 : -9223372036854775808 ≤ d) (h1 : d ≤ 9223372036854775807) (hu : u.size ≤ 900000) (he : u.data.toList = []) :
    Calls Tryd.prog 12 #[.agg #[.int .i64 d, .string u]] w fun e w' => e = .returned (.string (B (ansL d u.data.toList))) ∧ Below w.heap.size w w' := by
  obtain ⟨V0, hV0⟩ : ∃ V, V = w.alloc (.cells #[.int .i64 d, .string u] 25) := ⟨_, rfl⟩
  obtain ⟨V2, hV2⟩ : ∃ V, V = (w.alloc (.cells #[.int .i64 d, .string u] 25)).alloc (.cells #[.pointer none, .slice none 0 0] 40) := ⟨_, rfl⟩
  have hz0 : V0.heap.size = w.heap.size + 1 := by rw [hV0]; exact al_size _ _
  have hb0 : Below w.heap.size w V0 := by rw [hV0]; exact (Below.refl _ _).alloc (Nat.le_refl _) _
  have hC0 : V0.heap[w.heap.size]? = some (.cells #[.int .i64 d, .string u] 25 (0, 0)) := by rw [hV0]; exact heap_alloc_new _ _
  have hb2 : Below V0.heap.size V0 V2 := by rw [hV2, ← hV0]; exact (Below.refl _ _).alloc (Nat.le_refl _) _
  have hY2 : YB (w.heap.size + 1) (w.heap.size + 1) [] V2 := by rw [← hz0, hV2, ← hV0]; exact Lib.IsBuilderF.of (Lib.fresh_isBuilder 40 5 V0)
  have hB : ∀ W, Below (w.heap.size + 1) V2 W → Below w.heap.size w W ∧ LW W ∧ W.cell? ⟨w.heap.size, 0, none⟩ = some (.int .i64 d) ∧ W.cell? ⟨w.heap.size, 1, none⟩ = some (.string u) ∧ w.heap.size + 1 ≤ W.heap.size := fun W hW => by
    rw [← hz0] at hW ⊢
    have h2 := hb2.trans hW
    obtain ⟨y0, y1, _⟩ := twoK ((h2.block _ (by omega)).trans hC0)
    exact ⟨hb0.trans (h2.mono (by omega)), (hw.below hb0).below h2, y0, y1, h2.size⟩
  have HB := hide hB
  obtain ⟨_, _, x0, x1, hs2⟩ := hB V2 (Below.refl _ _)
  rw [hV2] at x0 x1
  have lu : u.data.toList.length = u.size := bsize u
  have hd0 : (d == 0) = false := by simpa using hd
  have ha : ansL d u.data.toList = [110, 111, 32] ++ Lib.itoa d ++ tailL u.data.toList := by simp [ansL, hd]
  rw [ha]
  have ht : tailL u.data.toList = [] := by rw [tailL, if_pos he]
  rw [ht, List.append_nil]
  have hue : (u.toList == []) = true := by rw [toList_data, he]; rfl
  have hune : (u.toList != []) = false := by rw [toList_data, he]; rfl
  have HWS := hide (WriteStr_l (w.heap.size + 1) (w.heap.size + 1) [] ⟨#[110, 111, 32]⟩ V2 hY2 (by decide) hs2)
  have hil := Lib.itoa_length_le d h0 h1
  have HIL : Hid ((Lib.itoa d).length ≤ 21) := hide (by omega)
  have HRG := hide (And.intro h0 h1)
  obtain ⟨res, hres⟩ : ∃ res : ByteArray, res = B ([110, 111, 32] ++ Lib.itoa d) := ⟨_, rfl⟩
  rw [← hres]
  have HRES := hide hres
  have HV2 := hide hV2
  have HLU := hide (And.intro lu hu)
  clear hres hV0 hV2 hz0 hb0 hC0 hb2 hY2 hB hs2 ha ht he lu hu h0 h1 hw hd hil
  go_enter Tryd.func12, Tryd.ntmps12
  --@A1@
  go_wp2_with fail
  rw [← unhide HV2]
  refine (unhide HWS).mono ?_
  rintro e w3 ⟨rfl, y3, b3, _⟩
  have HB3 := hide b3
  obtain ⟨_, lw3, x0, x1, hs3⟩ := (unhide HB) w3 b3
  rw [List.nil_append] at y3
  obtain ⟨m, hm⟩ : ∃ m : ByteArray, m = B (Lib.itoa d) := ⟨_, rfl⟩
  have hIT := itoa_any d (unhide HRG).1 (unhide HRG).2 w3 lw3.pw
  rw [← hm] at hIT
  have HIT := hide hIT
  have HY3 := hide y3
  have HMM := hide hm
  have HMS : Hid (m.size ≤ 21) := hide (by rw [hm, B_size]; exact unhide HIL)
  clear y3 b3 lw3 hIT hm HWS
  --@A2@
  go_wp2_with fail
  refine (unhide HIT).mono ?_
  rintro e w4 ⟨rfl, b4⟩
  have hb4 := (unhide HB3).trans (b4.mono hs3)
  have y4 := YB_below (unhide HY3) b4
  have hs4 : w.heap.size + 1 ≤ w4.heap.size := Nat.le_trans hs3 b4.size
  have HWS4 := hide (WriteStr_l (w.heap.size + 1) (w.heap.size + 1) _ m w4 y4 (by have := unhide HMS; simp only [List.length_cons, List.length_nil, List.toArray_cons]; omega) hs4)
  have HB4 := hide hb4
  clear b4 hb4 y4 HIT x0 x1 hs3
  --@A3@
  go_wp2_with fail
  refine (unhide HWS4).mono ?_
  rintro e w5 ⟨rfl, y5, b5, _⟩
  have hb5 := (unhide HB4).trans b5
  obtain ⟨_, _, x0, x1, hs5⟩ := (unhide HB) w5 hb5
  have HB5 := hide hb5
  clear b5 hb5 HWS4 hs4
  have hst := String_y (w.heap.size + 1) (w.heap.size + 1) _ w5 y5 hs5
  have hres := unhide HRES
  have HST : Hid (Calls Tryd.prog 18 #[.pointer (some ⟨w.heap.size + 1, 0, none⟩)] w5 fun e w' => e = .returned (.string res) ∧ Below (w.heap.size + 1) w5 w') := hide (by
    rw [hres]
    have := hst
    rw [unhide HMM, B_data] at this
    simpa [B, List.append_assoc] using this)
  clear hst hres y5 hs5
  --@A6@
  go_wp2_with fail
  refine (unhide HST).mono ?_
  rintro e w8 ⟨rfl, b8⟩
  obtain ⟨hbE, _⟩ := (unhide HB) w8 ((unhide HB5).trans b8)
  have HBE := hide hbE
  clear b8 hbE
  go_wp2
  go_ret
  exact ⟨rfl, unhide HBE⟩
set_option maxRecDepth 100000 in
set_option maxHeartbeats 4000000 in
theorem Answer_no_text (d : Int) (u : ByteArray) (w : World) (hw : LW w) (hd : d ≠ 0) (h0 : -9223372036854775808 ≤ d) (h1 : d ≤ 9223372036854775807) (hu : u.size ≤ 900000) (he : u.data.toList ≠ []) :
    Calls Tryd.prog 12 #[.agg #[.int .i64 d, .string u]] w fun e w' => e = .returned (.string (B (ansL d u.data.toList))) ∧ Below w.heap.size w w' := by
  obtain ⟨V0, hV0⟩ : ∃ V, V = w.alloc (.cells #[.int .i64 d, .string u] 25) := ⟨_, rfl⟩
  obtain ⟨V2, hV2⟩ : ∃ V, V = (w.alloc (.cells #[.int .i64 d, .string u] 25)).alloc (.cells #[.pointer none, .slice none 0 0] 40) := ⟨_, rfl⟩
  have hz0 : V0.heap.size = w.heap.size + 1 := by rw [hV0]; exact al_size _ _
  have hb0 : Below w.heap.size w V0 := by rw [hV0]; exact (Below.refl _ _).alloc (Nat.le_refl _) _
  have hC0 : V0.heap[w.heap.size]? = some (.cells #[.int .i64 d, .string u] 25 (0, 0)) := by rw [hV0]; exact heap_alloc_new _ _
  have hb2 : Below V0.heap.size V0 V2 := by rw [hV2, ← hV0]; exact (Below.refl _ _).alloc (Nat.le_refl _) _
  have hY2 : YB (w.heap.size + 1) (w.heap.size + 1) [] V2 := by rw [← hz0, hV2, ← hV0]; exact Lib.IsBuilderF.of (Lib.fresh_isBuilder 40 5 V0)
  have hB : ∀ W, Below (w.heap.size + 1) V2 W → Below w.heap.size w W ∧ LW W ∧ W.cell? ⟨w.heap.size, 0, none⟩ = some (.int .i64 d) ∧ W.cell? ⟨w.heap.size, 1, none⟩ = some (.string u) ∧ w.heap.size + 1 ≤ W.heap.size := fun W hW => by
    rw [← hz0] at hW ⊢
    have h2 := hb2.trans hW
    obtain ⟨y0, y1, _⟩ := twoK ((h2.block _ (by omega)).trans hC0)
    exact ⟨hb0.trans (h2.mono (by omega)), (hw.below hb0).below h2, y0, y1, h2.size⟩
  have HB := hide hB
  obtain ⟨_, _, x0, x1, hs2⟩ := hB V2 (Below.refl _ _)
  rw [hV2] at x0 x1
  have lu : u.data.toList.length = u.size := bsize u
  have hd0 : (d == 0) = false := by simpa using hd
  have ha : ansL d u.data.toList = [110, 111, 32] ++ Lib.itoa d ++ tailL u.data.toList := by simp [ansL, hd]
  rw [ha]
  have ht : tailL u.data.toList = 32 :: u.data.toList := by rw [tailL, if_neg he]
  rw [ht]
  have hue : (u.toList == []) = false := by rw [toList_data]; simpa using he
  have hune : (u.toList != []) = true := by rw [toList_data]; simpa using he
  have HWS := hide (WriteStr_l (w.heap.size + 1) (w.heap.size + 1) [] ⟨#[110, 111, 32]⟩ V2 hY2 (by decide) hs2)
  have hil := Lib.itoa_length_le d h0 h1
  have HIL : Hid ((Lib.itoa d).length ≤ 21) := hide (by omega)
  have HRG := hide (And.intro h0 h1)
  obtain ⟨res, hres⟩ : ∃ res : ByteArray, res = B ([110, 111, 32] ++ Lib.itoa d ++ 32 :: u.data.toList) := ⟨_, rfl⟩
  rw [← hres]
  have HRES := hide hres
  have HV2 := hide hV2
  have HLU := hide (And.intro lu hu)
  clear hres hV0 hV2 hz0 hb0 hC0 hb2 hY2 hB hs2 ha ht he lu hu h0 h1 hw hd hil
  go_enter Tryd.func12, Tryd.ntmps12
  --@A1@
  go_wp2_with fail
  rw [← unhide HV2]
  refine (unhide HWS).mono ?_
  rintro e w3 ⟨rfl, y3, b3, _⟩
  have HB3 := hide b3
  obtain ⟨_, lw3, x0, x1, hs3⟩ := (unhide HB) w3 b3
  rw [List.nil_append] at y3
  obtain ⟨m, hm⟩ : ∃ m : ByteArray, m = B (Lib.itoa d) := ⟨_, rfl⟩
  have hIT := itoa_any d (unhide HRG).1 (unhide HRG).2 w3 lw3.pw
  rw [← hm] at hIT
  have HIT := hide hIT
  have HY3 := hide y3
  have HMM := hide hm
  have HMS : Hid (m.size ≤ 21) := hide (by rw [hm, B_size]; exact unhide HIL)
  clear y3 b3 lw3 hIT hm HWS
  --@A2@
  go_wp2_with fail
  refine (unhide HIT).mono ?_
  rintro e w4 ⟨rfl, b4⟩
  have hb4 := (unhide HB3).trans (b4.mono hs3)
  have y4 := YB_below (unhide HY3) b4
  have hs4 : w.heap.size + 1 ≤ w4.heap.size := Nat.le_trans hs3 b4.size
  have HWS4 := hide (WriteStr_l (w.heap.size + 1) (w.heap.size + 1) _ m w4 y4 (by have := unhide HMS; simp only [List.length_cons, List.length_nil, List.toArray_cons]; omega) hs4)
  have HB4 := hide hb4
  clear b4 hb4 y4 HIT x0 x1 hs3
  --@A3@
  go_wp2_with fail
  refine (unhide HWS4).mono ?_
  rintro e w5 ⟨rfl, y5, b5, _⟩
  have hb5 := (unhide HB4).trans b5
  obtain ⟨_, _, x0, x1, hs5⟩ := (unhide HB) w5 hb5
  have HB5 := hide hb5
  clear b5 hb5 HWS4 hs4
  have HWB := hide (WriteBlank_l (w.heap.size + 1) (w.heap.size + 1) _ w5 y5 (by have := unhide HMS; simp only [List.length_append, List.length_cons, List.length_nil, bsize]; omega) hs5)
  clear y5
  --@A4@
  go_wp2_with fail
  refine (unhide HWB).mono ?_
  rintro e w6 ⟨rfl, y6, b6, _⟩
  have hb6 := (unhide HB5).trans b6
  obtain ⟨_, _, z0, z1, hs6⟩ := (unhide HB) w6 hb6
  have HWT := hide (WriteStr_l (w.heap.size + 1) (w.heap.size + 1) _ u w6 y6 (by have := (unhide HLU).2; have := unhide HMS; simp only [List.length_append, List.length_cons, List.length_nil, bsize]; omega) hs6)
  have HB6 := hide hb6
  clear y6 b6 hb6 HWB x0 x1 hs5
  --@A5@
  go_wp2_with fail
  refine (unhide HWT).mono ?_
  rintro e w7 ⟨rfl, y7, b7, _⟩
  have hb7 := (unhide HB6).trans b7
  obtain ⟨hbE, _, _, _, hs7⟩ := (unhide HB) w7 hb7
  have HB7 := hide hb7
  clear b7 hb7 HWT z0 z1 hs6 hbE
  have hst := String_y (w.heap.size + 1) (w.heap.size + 1) _ w7 y7 hs7
  have hres := unhide HRES
  have HST : Hid (Calls Tryd.prog 18 #[.pointer (some ⟨w.heap.size + 1, 0, none⟩)] w7 fun e w' => e = .returned (.string res) ∧ Below (w.heap.size + 1) w7 w') := hide (by
    rw [hres]
    have := hst
    rw [unhide HMM, B_data] at this
    simpa [B, List.append_assoc] using this)
  clear hst hres y7 hs7
  --@A6@
  go_wp2_with fail
  refine (unhide HST).mono ?_
  rintro e w8 ⟨rfl, b8⟩
  obtain ⟨hbE, _⟩ := (unhide HB) w8 ((unhide HB7).trans b8)
  have HBE := hide hbE
  clear b8 hbE
  go_wp2
  go_ret
  exact ⟨rfl, unhide HBE⟩
theorem Answer_any (d : Int) (u : ByteArray) (w : World) (hw : LW w) (h0 : -9223372036854775808 ≤ d) (h1 : d ≤ 9223372036854775807) (hu : u.size ≤ 900000) :
    Calls Tryd.prog 12 #[.agg #[.int .i64 d, .string u]] w fun e w' => e = .returned (.string (B (ansL d u.data.toList))) ∧ Below w.heap.size w w' := by
  by_cases hd : d = 0
  · by_cases he : u.data.toList = []
    · exact Answer_ok d u w hw hd h0 h1 hu he
    · exact Answer_ok_text d u w hw hd h0 h1 hu he
  · by_cases he : u.data.toList = []
    · exact Answer_no d u w hw hd h0 h1 hu he
    · exact Answer_no_text d u w hw hd h0 h1 hu he

end Go.Proofs.YtkbdaiopahmfiacDoor

namespace Go.Proofs.YtkbdaiopahmfiacDoor
open Go.RowKit
set_option linter.unusedSimpArgs false
set_option linter.unusedVariables false

theorem lb_parse1 : aParse [97, 112, 112, 101, 110, 100, 32, 97, 32, 120, 32, 121] = (⟨4, ⟨#[97]⟩, ⟨#[]⟩, ⟨#[120, 32, 121]⟩⟩, 0) := by kernel_rfl
theorem lb_parse2 : aParse [109, 97, 107, 101, 32, 97, 32, 98] = (⟨0, ⟨#[]⟩, ⟨#[]⟩, ⟨#[]⟩⟩, 12) := by kernel_rfl
theorem lb_line : aLine ⟨4, ⟨#[97]⟩, ⟨#[]⟩, ⟨#[120, 32, 121]⟩⟩ = ([97, 112, 112, 101, 110, 100, 32, 97, 32, 120, 32, 121], 0) := by kernel_rfl
theorem lb_ans1 : ansL 3 [] = [110, 111, 32, 51] := by simp [ansL, tailL, Lib.itoa, Lib.decDigits]
theorem lb_ans2 : ansL 0 [120] = [111, 107, 32, 120] := by simp [ansL, tailL]

set_option maxRecDepth 100000 in
set_option maxHeartbeats 4000000 in
theorem lineBegun_any (w : World) (hw : LW w) : Calls Tryd.prog 6 #[] w fun e w' => e = .returned (.bool true) ∧ Below w.heap.size w w' := by
  have HP1 : Hid (∀ W, LW W → Calls Tryd.prog 10 #[.string ⟨#[97, 112, 112, 101, 110, 100, 32, 97, 32, 120, 32, 121]⟩] W fun e w' => e = .returned (.tuple #[.agg #[.int .i64 4, .string ⟨#[97]⟩, .string ⟨#[]⟩, .string ⟨#[120, 32, 121]⟩], .int .i64 0]) ∧ Below W.heap.size W w') := hide fun W hW => by
    have := Parse_any ⟨#[97, 112, 112, 101, 110, 100, 32, 97, 32, 120, 32, 121]⟩ W hW (by decide)
    rw [show (⟨#[97, 112, 112, 101, 110, 100, 32, 97, 32, 120, 32, 121]⟩ : ByteArray).data.toList = [97, 112, 112, 101, 110, 100, 32, 97, 32, 120, 32, 121] from rfl, lb_parse1] at this
    exact this
  have HP2 : Hid (∀ W, LW W → Calls Tryd.prog 10 #[.string ⟨#[109, 97, 107, 101, 32, 97, 32, 98]⟩] W fun e w' => e = .returned (.tuple #[.agg #[.int .i64 0, .string ⟨#[]⟩, .string ⟨#[]⟩, .string ⟨#[]⟩], .int .i64 12]) ∧ Below W.heap.size W w') := hide fun W hW => by
    have := Parse_any ⟨#[109, 97, 107, 101, 32, 97, 32, 98]⟩ W hW (by decide)
    rw [show (⟨#[109, 97, 107, 101, 32, 97, 32, 98]⟩ : ByteArray).data.toList = [109, 97, 107, 101, 32, 97, 32, 98] from rfl, lb_parse2] at this
    exact this
  have HC : Hid (∀ W, LW W → Calls Tryd.prog 8 #[.agg #[.int .i64 4, .string ⟨#[97]⟩, .string ⟨#[]⟩, .string ⟨#[120, 32, 121]⟩]] W fun e w' => e = .returned (.tuple #[.string ⟨#[97, 112, 112, 101, 110, 100, 32, 97, 32, 120, 32, 121]⟩, .int .i64 0]) ∧ Below W.heap.size W w') := hide fun W hW => by
    have := LCall_any ⟨4, ⟨#[97]⟩, ⟨#[]⟩, ⟨#[120, 32, 121]⟩⟩ W hW (by decide) (by decide) (by decide)
    rw [lb_line] at this
    exact this
  have HA1 : Hid (∀ W, LW W → Calls Tryd.prog 12 #[.agg #[.int .i64 3, .string ⟨#[]⟩]] W fun e w' => e = .returned (.string ⟨#[110, 111, 32, 51]⟩) ∧ Below W.heap.size W w') := hide fun W hW => by
    have := Answer_any 3 ⟨#[]⟩ W hW (by decide) (by decide) (by decide)
    rw [show (⟨#[]⟩ : ByteArray).data.toList = [] from rfl, lb_ans1] at this
    exact this
  have HA2 : Hid (∀ W, LW W → Calls Tryd.prog 12 #[.agg #[.int .i64 0, .string ⟨#[120]⟩]] W fun e w' => e = .returned (.string ⟨#[111, 107, 32, 120]⟩) ∧ Below W.heap.size W w') := hide fun W hW => by
    have := Answer_any 0 ⟨#[120]⟩ W hW (by decide) (by decide) (by decide)
    rw [show (⟨#[120]⟩ : ByteArray).data.toList = [120] from rfl, lb_ans2] at this
    exact this
  have HW := hide hw
  clear hw
  go_enter Tryd.func6, Tryd.ntmps6
  go_wp2_with fail
  refine ((unhide HP1) w (unhide HW)).mono ?_
  rintro e w1 ⟨rfl, b1⟩
  have HB1 := hide b1
  have hb1' : Below w.heap.size w (w1.alloc (.cells #[.int .i64 4, .string ⟨#[97]⟩, .string ⟨#[]⟩, .string ⟨#[120, 32, 121]⟩] 23)) := b1.alloc b1.size _
  obtain ⟨V1, hV1⟩ : ∃ V, V = w1.alloc (.cells #[.int .i64 4, .string ⟨#[97]⟩, .string ⟨#[]⟩, .string ⟨#[120, 32, 121]⟩] 23) := ⟨_, rfl⟩
  rw [← hV1] at hb1'
  have hC1 : V1.heap[w1.heap.size]? = some (.cells #[.int .i64 4, .string ⟨#[97]⟩, .string ⟨#[]⟩, .string ⟨#[120, 32, 121]⟩] 23 (0, 0)) := by rw [hV1]; exact heap_alloc_new _ _
  have HV1 := hide hV1
  have HB := hide hb1'
  have HC1 := hide hC1
  clear b1 hb1' hV1 hC1
  --@A1@
  go_wp2_with fail
  rw [← unhide HV1]
  refine ((unhide HC) V1 ((unhide HW).below (unhide HB))).mono ?_
  rintro e w2 ⟨rfl, b2⟩
  have HC2 := hide ((b2.block _ (Array.getElem?_eq_some_iff.1 (unhide HC1)).1).trans (unhide HC1))
  have HB2 := hide ((unhide HB).trans (b2.mono (unhide HB).size))
  clear b2 HV1 HC1 HB
  --@A2@
  go_wp2_with fail
  refine ((unhide HP2) w2 ((unhide HW).below (unhide HB2))).mono ?_
  rintro e w3 ⟨rfl, b3⟩
  have hC3 := ((b3.block _ (Array.getElem?_eq_some_iff.1 (unhide HC2)).1).trans (unhide HC2))
  have hB3 := ((unhide HB2).trans (b3.mono (unhide HB2).size))
  obtain ⟨V3, hV3⟩ : ∃ V, V = w3.alloc (.cells #[.int .i64 0, .string ⟨#[]⟩, .string ⟨#[]⟩, .string ⟨#[]⟩] 23) := ⟨_, rfl⟩
  have hBV : Below w.heap.size w V3 := by rw [hV3]; exact hB3.alloc hB3.size _
  obtain ⟨c0, c1, c2, c3, _⟩ := fourK (show V3.heap[w1.heap.size]? = _ by rw [hV3, Below.heap_alloc _ _ _ (Array.getElem?_eq_some_iff.1 hC3).1]; exact hC3)
  rw [hV3] at c0 c1 c2 c3
  have HV3 := hide hV3
  have HBV := hide hBV
  clear b3 hC3 hB3 hV3 hBV HC2
  --@A3@
  go_wp2_with fail
  rw [← unhide HV3]
  refine ((unhide HA1) V3 ((unhide HW).below (unhide HBV))).mono ?_
  rintro e w4 ⟨rfl, b4⟩
  have HB4 := hide ((unhide HBV).trans (b4.mono (unhide HBV).size))
  clear b4 HBV HV3 c0 c1 c2 c3
  --@A4@
  go_wp2_with fail
  refine ((unhide HA2) w4 ((unhide HW).below (unhide HB4))).mono ?_
  rintro e w5 ⟨rfl, b5⟩
  have HB5 := hide ((unhide HB4).trans (b5.mono (unhide HB4).size))
  clear b5
  --@A5@
  go_wp2
  go_ret
  exact ⟨rfl, unhide HB5⟩

end Go.Proofs.YtkbdaiopahmfiacDoor

namespace Go.Proofs.YtkbdaiopahmfiacDoor
open Go.RowKit
set_option linter.unusedSimpArgs false
set_option linter.unusedVariables false

theorem lgd32 (bo : BinOp) (x y : Operand) (c c' : Array Value) (wz : World) (h : bo = .neq ∨ bo = .eql) : (eqGuard bo 23 x y (.agg c) (.agg c')).run Tryd.prog wz = .ok () wz := by
  rcases h with rfl | rfl <;> (unfold eqGuard; simp [Tryd.eqGuardType23])
theorem lyieldsB {a : Act} {o : Oper} {bo : BinOp} {t t2 : TypeId} {x y : Operand} {u u' v : Value} {wz : World} (ho : o.op = .binOp bo t x y t2) (hx : a.eval x = u) (hy : a.eval y = u') (hq : (binOp bo t u u').run Tryd.prog wz = .ok v wz) (hg : (eqGuard bo t x y u u').run Tryd.prog wz = .ok () wz) : (execOp a.eval o).run Tryd.prog wz = .ok (.value v) wz := by
  unfold execOp
  simp [ho, hx, hy, hq, hg]
theorem lgreat_fix (c : ACall) : ∃ r : Bool, ∀ w : World, Calls Tryd.prog 7 #[.agg #[.int .i64 c.kind, .string c.name, .string c.dst, .string c.text]] w fun e w' => e = .returned (.bool r) ∧ Below w.heap.size w w' := by
  obtain ⟨k, a, b, t⟩ := c
  refine ⟨decide ((300 : Int) < wrap64 (wrap64 ((a.size : Int) + (b.size : Int)) + (t.size : Int))), fun w => ?_⟩
  dsimp only
  go_enter Tryd.func7, Tryd.ntmps7
  go_wp2
  go_ret
  exact ⟨rfl, (Below.refl _ _).alloc (Nat.le_refl _) _⟩
end Go.Proofs.YtkbdaiopahmfiacDoor

namespace Go.Proofs.YtkbdaiopahmfiacDoor
open Go.RowKit
set_option linter.unusedSimpArgs false
set_option linter.unusedVariables false

theorem leql32 (c c' : ACall) (w : World) : (binOp .eql 23 (.agg #[.int .i64 c.kind, .string c.name, .string c.dst, .string c.text]) (.agg #[.int .i64 c'.kind, .string c'.name, .string c'.dst, .string c'.text])).run Tryd.prog w = .ok (.bool (callB c c')) w := eql32 c c' w
end Go.Proofs.YtkbdaiopahmfiacDoor

namespace Go.Proofs.YtkbdaiopahmfiacDoor
open Go.RowKit
set_option linter.unusedSimpArgs false
set_option linter.unusedVariables false

theorem words_of {l wl rl nl ll : List UInt8} {m1 m2 : Bool} (h1 : cutB l = (wl, rl, m1)) (h2 : cutB rl = (nl, ll, m2)) :
    wordsC l = (if wl = wList then (⟨6, B nl, ⟨#[]⟩, ⟨#[]⟩⟩, !m1)
  else if wl = wMake then (⟨1, B nl, ⟨#[]⟩, ⟨#[]⟩⟩, m1 && !m2)
  else if wl = wRemove then (⟨2, B nl, ⟨#[]⟩, ⟨#[]⟩⟩, m1 && !m2)
  else if wl = wRead then (⟨5, B nl, ⟨#[]⟩, ⟨#[]⟩⟩, m1 && !m2)
  else if wl = wRename then (⟨3, B nl, B ll, ⟨#[]⟩⟩, m2)
  else if wl = wAppend then (⟨4, B nl, ⟨#[]⟩, B ll⟩, m2)
  else (⟨0, B nl, ⟨#[]⟩, ⟨#[]⟩⟩, false)) := by
  unfold wordsC
  rw [h1]
  dsimp only
  rw [h2]
theorem B_is (a b : List UInt8) : ((B a).toList == b) = decide (a = b) := by
  rw [toList_data, B_data]
  by_cases h : a = b <;> simp [h]
/-- What CallOf answers. -/
def CallRes (l : List UInt8) (e : Ending) : Prop := e = .returned (.tuple #[.agg #[.int .i64 (aParse l).1.kind, .string (aParse l).1.name, .string (aParse l).1.dst, .string (aParse l).1.text], .int .i64 (aParse l).2])

end Go.Proofs.YtkbdaiopahmfiacDoor

namespace Go.Proofs.YtkbdaiopahmfiacDoor
open Go.RowKit
set_option linter.unusedSimpArgs false
set_option linter.unusedVariables false

set_option maxRecDepth 100000 in
set_option maxHeartbeats 8000000 in
theorem CallOf_0ff (s : ByteArray) (rl nl ll : List UInt8) (w : World) (hs : s.size ≤ 1000000) (hl1 : cutB s.data.toList = (wList, rl, false)) (hl2 : cutB rl = (nl, ll, false)) :
    Calls Tryd.prog 11 #[.string s] w fun e w' => CallRes s.data.toList e ∧ Below w.heap.size w w' := by
  obtain ⟨l, hl⟩ : ∃ l, s.data.toList = l := ⟨_, rfl⟩
  rw [hl] at hl1 ⊢
  have hll : l.length = s.size := by rw [← hl, bsize]
  have k1 := cutB_len l
  rw [hl1] at k1
  have k2 := cutB_len rl
  rw [hl2] at k2
  dsimp only at k1 k2
  obtain ⟨r2, hr2⟩ : ∃ r, B rl = r := ⟨_, rfl⟩
  obtain ⟨r3, hr3⟩ : ∃ r, B nl = r := ⟨_, rfl⟩
  obtain ⟨r4, hr4⟩ : ∃ r, B ll = r := ⟨_, rfl⟩
  have HW : Hid (wordsC l = (⟨6, r3, ⟨#[]⟩, ⟨#[]⟩⟩, true)) := hide (by rw [words_of hl1 hl2, if_pos rfl, hr3]; rfl)
  have hz3 : r3.size ≤ 1000000 := by rw [← hr3, lB_size]; omega
  have hz4 : r4.size ≤ 1000000 := by rw [← hr4, lB_size]; omega
  have hmx : (1000000 : Nat) ≤ maxLen := by decide
  obtain ⟨V, hV⟩ : ∃ V, V = w.alloc (.cells #[.int .i64 0, .string ⟨#[]⟩, .string ⟨#[]⟩, .string ⟨#[]⟩] 23) := ⟨_, rfl⟩
  have hB0 : Below w.heap.size w V := by rw [hV]; exact (Below.refl _ _).alloc (Nat.le_refl _) _
  have hX0 : V.heap[w.heap.size]? = some (.cells #[.int .i64 0, .string ⟨#[]⟩, .string ⟨#[]⟩, .string ⟨#[]⟩] 23 (0, 0)) := by rw [hV]; exact heap_alloc_new _ _
  have hw1 := word_any s V (by omega)
  rw [hl, hl1] at hw1
  dsimp only at hw1
  rw [show B wList = ⟨#[108, 105, 115, 116]⟩ from rfl, hr2] at hw1
  have HW1 := hide hw1
  have HW2 : Hid (∀ W, Calls Tryd.prog 23 #[.string r2] W fun e w' => e = .returned (.tuple #[.string r3, .string r4, .bool false]) ∧ Below W.heap.size W w') := hide fun W => by
    have h := word_any r2 W (by rw [← hr2, lB_size]; omega)
    rw [← hr2, B_data, hl2] at h
    dsimp only at h
    rw [hr3, hr4] at h
    rw [← hr2]
    exact h
  have HX0 := hide hX0
  have HB0 := hide hB0
  have HV := hide hV
  have HZ := hide (And.intro hz3 (And.intro hz4 hmx))
  clear hw1 hl1 hl2 hX0 hB0 hV k1 k2 hll hs hl hr2 hr3 hr4 hz3 hz4 hmx
  go_enter Tryd.func11, Tryd.ntmps11
  go_wp2_with fail
  rw [← unhide HV]
  refine (unhide HW1).mono ?_
  rintro e w1 ⟨rfl, b1⟩
  have HX1 := hide ((b1.block _ (Array.getElem?_eq_some_iff.1 (unhide HX0)).1).trans (unhide HX0))
  have HB1 := hide ((unhide HB0).trans (b1.mono (unhide HB0).size))
  clear b1 HW1 HX0 HB0 HV
  --@A1@
  go_wp2_with fail
  refine ((unhide HW2) w1).mono ?_
  rintro e w2 ⟨rfl, b2⟩
  have hX2 := (b2.block _ (Array.getElem?_eq_some_iff.1 (unhide HX1)).1).trans (unhide HX1)
  have hXl : w.heap.size < w2.heap.size := (Array.getElem?_eq_some_iff.1 hX2).1
  have hB2 := (unhide HB1).trans (b2.mono (unhide HB1).size)
  obtain ⟨V3, hV3⟩ : ∃ V3, V3 = w2.alloc (.cells #[.int .i64 6, .string r3, .string ⟨#[]⟩, .string ⟨#[]⟩] 23) := ⟨_, rfl⟩
  have hC3 : V3.heap[w2.heap.size]? = some (.cells #[.int .i64 6, .string r3, .string ⟨#[]⟩, .string ⟨#[]⟩] 23 (0, 0)) := by rw [hV3]; exact heap_alloc_new _ _
  have hX3 : V3.heap[w.heap.size]? = some (.cells #[.int .i64 0, .string ⟨#[]⟩, .string ⟨#[]⟩, .string ⟨#[]⟩] 23 (0, 0)) := by rw [hV3, Below.heap_alloc _ _ _ hXl]; exact hX2
  have hB3 : Below w.heap.size w V3 := by rw [hV3]; exact hB2.alloc (by omega) _
  clear b2 HW2 HX1 HB1 hX2 hB2
  obtain ⟨code, hcode⟩ : ∃ c, checkI ⟨6, r3, ⟨#[]⟩, ⟨#[]⟩⟩ = c := ⟨_, rfl⟩
  have HQ0 : Hid (aParse l = if code ≠ 0 then (noCall, code) else (⟨6, r3, ⟨#[]⟩, ⟨#[]⟩⟩, 0)) := hide (by unfold aParse; rw [unhide HW, ← hcode]; rfl)
  have hZ := unhide HZ
  have hze : (⟨#[]⟩ : ByteArray).size ≤ maxLen := by decide
  have hcf := CallFault_any 6 r3 ⟨#[]⟩ ⟨#[]⟩ V3 (by omega) (by first | omega | exact hze) (by first | omega | exact hze)
  rw [hcode] at hcf
  have HCF := hide hcf
  have HXn := hide hX3
  have HBn := hide hB3
  have HCn := hide hC3
  obtain ⟨y0, y1, y2, y3, _⟩ := fourK hC3
  have HVn : Hid (V3 = w2.alloc (.cells #[.int .i64 6, .string r3, .string ⟨#[]⟩, .string ⟨#[]⟩] 23)) := hide (by rw [hV3])
  rw [unhide HVn] at y0 y1 y2 y3
  clear hcf hcode hZ hze HW hC3 hX3 hB3 hV3
  --@A2@
  go_wp2_with fail
  --@A3@
  rw [← unhide HVn]
  refine (unhide HCF).mono ?_
  rintro e w5 ⟨rfl, b5⟩
  have hX5 := (b5.block _ (Array.getElem?_eq_some_iff.1 (unhide HXn)).1).trans (unhide HXn)
  have hC5 := (b5.block _ (Array.getElem?_eq_some_iff.1 (unhide HCn)).1).trans (unhide HCn)
  have HB5 := hide ((unhide HBn).trans (b5.mono (unhide HBn).size))
  obtain ⟨u0, u1, u2, u3, _⟩ := fourK hC5
  clear b5 hC5 y0 y1 y2 y3  HXn HBn HCn HVn HCF
  by_cases hc : code = 0
  · subst hc
    have HQ : Hid (aParse l = (⟨6, r3, ⟨#[]⟩, ⟨#[]⟩⟩, 0)) := hide (unhide HQ0)
    clear HQ0
    obtain ⟨hz, hBZ⟩ := store4 hX5 (unhide HB5) (.int .i64 6) (.string r3) (.string ⟨#[]⟩) (.string ⟨#[]⟩)
    obtain ⟨V9, hV9⟩ : ∃ V9, V9 = w5.setRow w.heap.size #[.int .i64 6, .string r3, .string ⟨#[]⟩, .string ⟨#[]⟩] := ⟨_, rfl⟩
    rw [← hV9] at hz hBZ
    obtain ⟨z0, z1, z2, z3, _⟩ := fourK hz
    clear hz
    --@E@
    go_wp2_with (refine wpList_store_row rfl 23 _ _ rfl w.heap.size #[.int .i64 6, .string r3, .string ⟨#[]⟩, .string ⟨#[]⟩] rfl rfl 23 _ hX5 info23s rfl (by simp [Value.oneCell']) ?_)
    rw [← hV9]
    refine bodyPost_ret (v := .tuple #[.agg #[.int .i64 6, .string r3, .string ⟨#[]⟩, .string ⟨#[]⟩], .int .i64 (0)]) (by simp [results, Tryd.results11, go_sem, z0, z1, z2, z3]) rfl ⟨?_, hBZ⟩
    show CallRes l _
    unfold CallRes
    rw [unhide HQ]
    try rfl
  · have HQ : Hid (aParse l = (noCall, code)) := hide (by rw [unhide HQ0, if_pos hc])
    have hne : (code != 0) = true := by simpa using hc
    clear HQ0 hc
    obtain ⟨hz, hBZ⟩ := store4 hX5 (unhide HB5) (.int .i64 0) (.string ⟨#[]⟩) (.string ⟨#[]⟩) (.string ⟨#[]⟩)
    obtain ⟨V9, hV9⟩ : ∃ V9, V9 = w5.setRow w.heap.size #[.int .i64 0, .string ⟨#[]⟩, .string ⟨#[]⟩, .string ⟨#[]⟩] := ⟨_, rfl⟩
    rw [← hV9] at hz hBZ
    obtain ⟨z0, z1, z2, z3, _⟩ := fourK hz
    clear hz
    --@E@
    go_wp2_with (refine wpList_store_row rfl 23 _ _ rfl w.heap.size #[.int .i64 0, .string ⟨#[]⟩, .string ⟨#[]⟩, .string ⟨#[]⟩] rfl rfl 23 _ hX5 info23s rfl (by simp [Value.oneCell']) ?_)
    rw [← hV9]
    refine bodyPost_ret (v := .tuple #[.agg #[.int .i64 0, .string ⟨#[]⟩, .string ⟨#[]⟩, .string ⟨#[]⟩], .int .i64 (code)]) (by simp [results, Tryd.results11, go_sem, z0, z1, z2, z3]) rfl ⟨?_, hBZ⟩
    show CallRes l _
    unfold CallRes
    rw [unhide HQ]
    try rfl
set_option maxRecDepth 100000 in
set_option maxHeartbeats 8000000 in
theorem CallOf_0tf (s : ByteArray) (rl nl ll : List UInt8) (w : World) (hs : s.size ≤ 1000000) (hl1 : cutB s.data.toList = (wList, rl, true)) (hl2 : cutB rl = (nl, ll, false)) :
    Calls Tryd.prog 11 #[.string s] w fun e w' => CallRes s.data.toList e ∧ Below w.heap.size w w' := by
  obtain ⟨l, hl⟩ : ∃ l, s.data.toList = l := ⟨_, rfl⟩
  rw [hl] at hl1 ⊢
  have hll : l.length = s.size := by rw [← hl, bsize]
  have k1 := cutB_len l
  rw [hl1] at k1
  have k2 := cutB_len rl
  rw [hl2] at k2
  dsimp only at k1 k2
  obtain ⟨r2, hr2⟩ : ∃ r, B rl = r := ⟨_, rfl⟩
  obtain ⟨r3, hr3⟩ : ∃ r, B nl = r := ⟨_, rfl⟩
  obtain ⟨r4, hr4⟩ : ∃ r, B ll = r := ⟨_, rfl⟩
  have HW : Hid (wordsC l = (⟨6, r3, ⟨#[]⟩, ⟨#[]⟩⟩, false)) := hide (by rw [words_of hl1 hl2, if_pos rfl, hr3]; rfl)
  have hz3 : r3.size ≤ 1000000 := by rw [← hr3, lB_size]; omega
  have hz4 : r4.size ≤ 1000000 := by rw [← hr4, lB_size]; omega
  have hmx : (1000000 : Nat) ≤ maxLen := by decide
  obtain ⟨V, hV⟩ : ∃ V, V = w.alloc (.cells #[.int .i64 0, .string ⟨#[]⟩, .string ⟨#[]⟩, .string ⟨#[]⟩] 23) := ⟨_, rfl⟩
  have hB0 : Below w.heap.size w V := by rw [hV]; exact (Below.refl _ _).alloc (Nat.le_refl _) _
  have hX0 : V.heap[w.heap.size]? = some (.cells #[.int .i64 0, .string ⟨#[]⟩, .string ⟨#[]⟩, .string ⟨#[]⟩] 23 (0, 0)) := by rw [hV]; exact heap_alloc_new _ _
  have hw1 := word_any s V (by omega)
  rw [hl, hl1] at hw1
  dsimp only at hw1
  rw [show B wList = ⟨#[108, 105, 115, 116]⟩ from rfl, hr2] at hw1
  have HW1 := hide hw1
  have HW2 : Hid (∀ W, Calls Tryd.prog 23 #[.string r2] W fun e w' => e = .returned (.tuple #[.string r3, .string r4, .bool false]) ∧ Below W.heap.size W w') := hide fun W => by
    have h := word_any r2 W (by rw [← hr2, lB_size]; omega)
    rw [← hr2, B_data, hl2] at h
    dsimp only at h
    rw [hr3, hr4] at h
    rw [← hr2]
    exact h
  have HX0 := hide hX0
  have HB0 := hide hB0
  have HV := hide hV
  have HZ := hide (And.intro hz3 (And.intro hz4 hmx))
  clear hw1 hl1 hl2 hX0 hB0 hV k1 k2 hll hs hl hr2 hr3 hr4 hz3 hz4 hmx
  go_enter Tryd.func11, Tryd.ntmps11
  go_wp2_with fail
  rw [← unhide HV]
  refine (unhide HW1).mono ?_
  rintro e w1 ⟨rfl, b1⟩
  have HX1 := hide ((b1.block _ (Array.getElem?_eq_some_iff.1 (unhide HX0)).1).trans (unhide HX0))
  have HB1 := hide ((unhide HB0).trans (b1.mono (unhide HB0).size))
  clear b1 HW1 HX0 HB0 HV
  --@A1@
  go_wp2_with fail
  refine ((unhide HW2) w1).mono ?_
  rintro e w2 ⟨rfl, b2⟩
  have hX2 := (b2.block _ (Array.getElem?_eq_some_iff.1 (unhide HX1)).1).trans (unhide HX1)
  have hXl : w.heap.size < w2.heap.size := (Array.getElem?_eq_some_iff.1 hX2).1
  have hB2 := (unhide HB1).trans (b2.mono (unhide HB1).size)
  obtain ⟨V3, hV3⟩ : ∃ V3, V3 = w2.alloc (.cells #[.int .i64 6, .string r3, .string ⟨#[]⟩, .string ⟨#[]⟩] 23) := ⟨_, rfl⟩
  have hC3 : V3.heap[w2.heap.size]? = some (.cells #[.int .i64 6, .string r3, .string ⟨#[]⟩, .string ⟨#[]⟩] 23 (0, 0)) := by rw [hV3]; exact heap_alloc_new _ _
  have hX3 : V3.heap[w.heap.size]? = some (.cells #[.int .i64 0, .string ⟨#[]⟩, .string ⟨#[]⟩, .string ⟨#[]⟩] 23 (0, 0)) := by rw [hV3, Below.heap_alloc _ _ _ hXl]; exact hX2
  have hB3 : Below w.heap.size w V3 := by rw [hV3]; exact hB2.alloc (by omega) _
  clear b2 HW2 HX1 HB1 hX2 hB2
  have HQ : Hid (aParse l = (noCall, 12)) := hide (by unfold aParse; rw [unhide HW]; rfl)
  rw [hV3] at hX3 hB3 
  have hXs := hX3
  have HBs := hide hB3
  clear HW hC3 hX3 hB3
  obtain ⟨hz, hBZ⟩ := store4 hXs (unhide HBs) (.int .i64 0) (.string ⟨#[]⟩) (.string ⟨#[]⟩) (.string ⟨#[]⟩)
  obtain ⟨V9, hV9⟩ : ∃ V9, V9 = (w2.alloc (.cells #[.int .i64 6, .string r3, .string ⟨#[]⟩, .string ⟨#[]⟩] 23)).setRow w.heap.size #[.int .i64 0, .string ⟨#[]⟩, .string ⟨#[]⟩, .string ⟨#[]⟩] := ⟨_, rfl⟩
  rw [← hV9] at hz hBZ
  obtain ⟨z0, z1, z2, z3, _⟩ := fourK hz
  clear hz
  --@E@
  go_wp2_with (refine wpList_store_row rfl 23 _ _ rfl w.heap.size #[.int .i64 0, .string ⟨#[]⟩, .string ⟨#[]⟩, .string ⟨#[]⟩] rfl rfl 23 _ hXs info23s rfl (by simp [Value.oneCell']) ?_)
  rw [← hV9]
  refine bodyPost_ret (v := .tuple #[.agg #[.int .i64 0, .string ⟨#[]⟩, .string ⟨#[]⟩, .string ⟨#[]⟩], .int .i64 (12)]) (by simp [results, Tryd.results11, go_sem, z0, z1, z2, z3]) rfl ⟨?_, hBZ⟩
  show CallRes l _
  unfold CallRes
  rw [unhide HQ]
  try rfl
set_option maxRecDepth 100000 in
set_option maxHeartbeats 8000000 in
theorem CallOf_0tt (s : ByteArray) (rl nl ll : List UInt8) (w : World) (hs : s.size ≤ 1000000) (hl1 : cutB s.data.toList = (wList, rl, true)) (hl2 : cutB rl = (nl, ll, true)) :
    Calls Tryd.prog 11 #[.string s] w fun e w' => CallRes s.data.toList e ∧ Below w.heap.size w w' := by
  obtain ⟨l, hl⟩ : ∃ l, s.data.toList = l := ⟨_, rfl⟩
  rw [hl] at hl1 ⊢
  have hll : l.length = s.size := by rw [← hl, bsize]
  have k1 := cutB_len l
  rw [hl1] at k1
  have k2 := cutB_len rl
  rw [hl2] at k2
  dsimp only at k1 k2
  obtain ⟨r2, hr2⟩ : ∃ r, B rl = r := ⟨_, rfl⟩
  obtain ⟨r3, hr3⟩ : ∃ r, B nl = r := ⟨_, rfl⟩
  obtain ⟨r4, hr4⟩ : ∃ r, B ll = r := ⟨_, rfl⟩
  have HW : Hid (wordsC l = (⟨6, r3, ⟨#[]⟩, ⟨#[]⟩⟩, false)) := hide (by rw [words_of hl1 hl2, if_pos rfl, hr3]; rfl)
  have hz3 : r3.size ≤ 1000000 := by rw [← hr3, lB_size]; omega
  have hz4 : r4.size ≤ 1000000 := by rw [← hr4, lB_size]; omega
  have hmx : (1000000 : Nat) ≤ maxLen := by decide
  obtain ⟨V, hV⟩ : ∃ V, V = w.alloc (.cells #[.int .i64 0, .string ⟨#[]⟩, .string ⟨#[]⟩, .string ⟨#[]⟩] 23) := ⟨_, rfl⟩
  have hB0 : Below w.heap.size w V := by rw [hV]; exact (Below.refl _ _).alloc (Nat.le_refl _) _
  have hX0 : V.heap[w.heap.size]? = some (.cells #[.int .i64 0, .string ⟨#[]⟩, .string ⟨#[]⟩, .string ⟨#[]⟩] 23 (0, 0)) := by rw [hV]; exact heap_alloc_new _ _
  have hw1 := word_any s V (by omega)
  rw [hl, hl1] at hw1
  dsimp only at hw1
  rw [show B wList = ⟨#[108, 105, 115, 116]⟩ from rfl, hr2] at hw1
  have HW1 := hide hw1
  have HW2 : Hid (∀ W, Calls Tryd.prog 23 #[.string r2] W fun e w' => e = .returned (.tuple #[.string r3, .string r4, .bool true]) ∧ Below W.heap.size W w') := hide fun W => by
    have h := word_any r2 W (by rw [← hr2, lB_size]; omega)
    rw [← hr2, B_data, hl2] at h
    dsimp only at h
    rw [hr3, hr4] at h
    rw [← hr2]
    exact h
  have HX0 := hide hX0
  have HB0 := hide hB0
  have HV := hide hV
  have HZ := hide (And.intro hz3 (And.intro hz4 hmx))
  clear hw1 hl1 hl2 hX0 hB0 hV k1 k2 hll hs hl hr2 hr3 hr4 hz3 hz4 hmx
  go_enter Tryd.func11, Tryd.ntmps11
  go_wp2_with fail
  rw [← unhide HV]
  refine (unhide HW1).mono ?_
  rintro e w1 ⟨rfl, b1⟩
  have HX1 := hide ((b1.block _ (Array.getElem?_eq_some_iff.1 (unhide HX0)).1).trans (unhide HX0))
  have HB1 := hide ((unhide HB0).trans (b1.mono (unhide HB0).size))
  clear b1 HW1 HX0 HB0 HV
  --@A1@
  go_wp2_with fail
  refine ((unhide HW2) w1).mono ?_
  rintro e w2 ⟨rfl, b2⟩
  have hX2 := (b2.block _ (Array.getElem?_eq_some_iff.1 (unhide HX1)).1).trans (unhide HX1)
  have hXl : w.heap.size < w2.heap.size := (Array.getElem?_eq_some_iff.1 hX2).1
  have hB2 := (unhide HB1).trans (b2.mono (unhide HB1).size)
  obtain ⟨V3, hV3⟩ : ∃ V3, V3 = w2.alloc (.cells #[.int .i64 6, .string r3, .string ⟨#[]⟩, .string ⟨#[]⟩] 23) := ⟨_, rfl⟩
  have hC3 : V3.heap[w2.heap.size]? = some (.cells #[.int .i64 6, .string r3, .string ⟨#[]⟩, .string ⟨#[]⟩] 23 (0, 0)) := by rw [hV3]; exact heap_alloc_new _ _
  have hX3 : V3.heap[w.heap.size]? = some (.cells #[.int .i64 0, .string ⟨#[]⟩, .string ⟨#[]⟩, .string ⟨#[]⟩] 23 (0, 0)) := by rw [hV3, Below.heap_alloc _ _ _ hXl]; exact hX2
  have hB3 : Below w.heap.size w V3 := by rw [hV3]; exact hB2.alloc (by omega) _
  clear b2 HW2 HX1 HB1 hX2 hB2
  have HQ : Hid (aParse l = (noCall, 12)) := hide (by unfold aParse; rw [unhide HW]; rfl)
  rw [hV3] at hX3 hB3 
  have hXs := hX3
  have HBs := hide hB3
  clear HW hC3 hX3 hB3
  obtain ⟨hz, hBZ⟩ := store4 hXs (unhide HBs) (.int .i64 0) (.string ⟨#[]⟩) (.string ⟨#[]⟩) (.string ⟨#[]⟩)
  obtain ⟨V9, hV9⟩ : ∃ V9, V9 = (w2.alloc (.cells #[.int .i64 6, .string r3, .string ⟨#[]⟩, .string ⟨#[]⟩] 23)).setRow w.heap.size #[.int .i64 0, .string ⟨#[]⟩, .string ⟨#[]⟩, .string ⟨#[]⟩] := ⟨_, rfl⟩
  rw [← hV9] at hz hBZ
  obtain ⟨z0, z1, z2, z3, _⟩ := fourK hz
  clear hz
  --@E@
  go_wp2_with (refine wpList_store_row rfl 23 _ _ rfl w.heap.size #[.int .i64 0, .string ⟨#[]⟩, .string ⟨#[]⟩, .string ⟨#[]⟩] rfl rfl 23 _ hXs info23s rfl (by simp [Value.oneCell']) ?_)
  rw [← hV9]
  refine bodyPost_ret (v := .tuple #[.agg #[.int .i64 0, .string ⟨#[]⟩, .string ⟨#[]⟩, .string ⟨#[]⟩], .int .i64 (12)]) (by simp [results, Tryd.results11, go_sem, z0, z1, z2, z3]) rfl ⟨?_, hBZ⟩
  show CallRes l _
  unfold CallRes
  rw [unhide HQ]
  try rfl

end Go.Proofs.YtkbdaiopahmfiacDoor

namespace Go.Proofs.YtkbdaiopahmfiacDoor
open Go.RowKit
set_option linter.unusedSimpArgs false
set_option linter.unusedVariables false

set_option maxRecDepth 100000 in
set_option maxHeartbeats 8000000 in
theorem CallOf_1ff (s : ByteArray) (rl nl ll : List UInt8) (w : World) (hs : s.size ≤ 1000000) (hl1 : cutB s.data.toList = (wMake, rl, false)) (hl2 : cutB rl = (nl, ll, false)) :
    Calls Tryd.prog 11 #[.string s] w fun e w' => CallRes s.data.toList e ∧ Below w.heap.size w w' := by
  obtain ⟨l, hl⟩ : ∃ l, s.data.toList = l := ⟨_, rfl⟩
  rw [hl] at hl1 ⊢
  have hll : l.length = s.size := by rw [← hl, bsize]
  have k1 := cutB_len l
  rw [hl1] at k1
  have k2 := cutB_len rl
  rw [hl2] at k2
  dsimp only at k1 k2
  obtain ⟨r2, hr2⟩ : ∃ r, B rl = r := ⟨_, rfl⟩
  obtain ⟨r3, hr3⟩ : ∃ r, B nl = r := ⟨_, rfl⟩
  obtain ⟨r4, hr4⟩ : ∃ r, B ll = r := ⟨_, rfl⟩
  have HW : Hid (wordsC l = (⟨1, r3, ⟨#[]⟩, ⟨#[]⟩⟩, false)) := hide (by rw [words_of hl1 hl2, if_neg (by decide), if_pos rfl, hr3]; rfl)
  have hz3 : r3.size ≤ 1000000 := by rw [← hr3, lB_size]; omega
  have hz4 : r4.size ≤ 1000000 := by rw [← hr4, lB_size]; omega
  have hmx : (1000000 : Nat) ≤ maxLen := by decide
  obtain ⟨V, hV⟩ : ∃ V, V = w.alloc (.cells #[.int .i64 0, .string ⟨#[]⟩, .string ⟨#[]⟩, .string ⟨#[]⟩] 23) := ⟨_, rfl⟩
  have hB0 : Below w.heap.size w V := by rw [hV]; exact (Below.refl _ _).alloc (Nat.le_refl _) _
  have hX0 : V.heap[w.heap.size]? = some (.cells #[.int .i64 0, .string ⟨#[]⟩, .string ⟨#[]⟩, .string ⟨#[]⟩] 23 (0, 0)) := by rw [hV]; exact heap_alloc_new _ _
  have hw1 := word_any s V (by omega)
  rw [hl, hl1] at hw1
  dsimp only at hw1
  rw [show B wMake = ⟨#[109, 97, 107, 101]⟩ from rfl, hr2] at hw1
  have HW1 := hide hw1
  have HW2 : Hid (∀ W, Calls Tryd.prog 23 #[.string r2] W fun e w' => e = .returned (.tuple #[.string r3, .string r4, .bool false]) ∧ Below W.heap.size W w') := hide fun W => by
    have h := word_any r2 W (by rw [← hr2, lB_size]; omega)
    rw [← hr2, B_data, hl2] at h
    dsimp only at h
    rw [hr3, hr4] at h
    rw [← hr2]
    exact h
  have HX0 := hide hX0
  have HB0 := hide hB0
  have HV := hide hV
  have HZ := hide (And.intro hz3 (And.intro hz4 hmx))
  clear hw1 hl1 hl2 hX0 hB0 hV k1 k2 hll hs hl hr2 hr3 hr4 hz3 hz4 hmx
  go_enter Tryd.func11, Tryd.ntmps11
  go_wp2_with fail
  rw [← unhide HV]
  refine (unhide HW1).mono ?_
  rintro e w1 ⟨rfl, b1⟩
  have HX1 := hide ((b1.block _ (Array.getElem?_eq_some_iff.1 (unhide HX0)).1).trans (unhide HX0))
  have HB1 := hide ((unhide HB0).trans (b1.mono (unhide HB0).size))
  clear b1 HW1 HX0 HB0 HV
  --@A1@
  go_wp2_with fail
  refine ((unhide HW2) w1).mono ?_
  rintro e w2 ⟨rfl, b2⟩
  have hX2 := (b2.block _ (Array.getElem?_eq_some_iff.1 (unhide HX1)).1).trans (unhide HX1)
  have hXl : w.heap.size < w2.heap.size := (Array.getElem?_eq_some_iff.1 hX2).1
  have hB2 := (unhide HB1).trans (b2.mono (unhide HB1).size)
  obtain ⟨V3, hV3⟩ : ∃ V3, V3 = w2.alloc (.cells #[.int .i64 1, .string r3, .string ⟨#[]⟩, .string ⟨#[]⟩] 23) := ⟨_, rfl⟩
  have hC3 : V3.heap[w2.heap.size]? = some (.cells #[.int .i64 1, .string r3, .string ⟨#[]⟩, .string ⟨#[]⟩] 23 (0, 0)) := by rw [hV3]; exact heap_alloc_new _ _
  have hX3 : V3.heap[w.heap.size]? = some (.cells #[.int .i64 0, .string ⟨#[]⟩, .string ⟨#[]⟩, .string ⟨#[]⟩] 23 (0, 0)) := by rw [hV3, Below.heap_alloc _ _ _ hXl]; exact hX2
  have hB3 : Below w.heap.size w V3 := by rw [hV3]; exact hB2.alloc (by omega) _
  clear b2 HW2 HX1 HB1 hX2 hB2
  have HQ : Hid (aParse l = (noCall, 12)) := hide (by unfold aParse; rw [unhide HW]; rfl)
  rw [hV3] at hX3 hB3 
  have hXs := hX3
  have HBs := hide hB3
  clear HW hC3 hX3 hB3
  obtain ⟨hz, hBZ⟩ := store4 hXs (unhide HBs) (.int .i64 0) (.string ⟨#[]⟩) (.string ⟨#[]⟩) (.string ⟨#[]⟩)
  obtain ⟨V9, hV9⟩ : ∃ V9, V9 = (w2.alloc (.cells #[.int .i64 1, .string r3, .string ⟨#[]⟩, .string ⟨#[]⟩] 23)).setRow w.heap.size #[.int .i64 0, .string ⟨#[]⟩, .string ⟨#[]⟩, .string ⟨#[]⟩] := ⟨_, rfl⟩
  rw [← hV9] at hz hBZ
  obtain ⟨z0, z1, z2, z3, _⟩ := fourK hz
  clear hz
  --@E@
  go_wp2_with (refine wpList_store_row rfl 23 _ _ rfl w.heap.size #[.int .i64 0, .string ⟨#[]⟩, .string ⟨#[]⟩, .string ⟨#[]⟩] rfl rfl 23 _ hXs info23s rfl (by simp [Value.oneCell']) ?_)
  rw [← hV9]
  refine bodyPost_ret (v := .tuple #[.agg #[.int .i64 0, .string ⟨#[]⟩, .string ⟨#[]⟩, .string ⟨#[]⟩], .int .i64 (12)]) (by simp [results, Tryd.results11, go_sem, z0, z1, z2, z3]) rfl ⟨?_, hBZ⟩
  show CallRes l _
  unfold CallRes
  rw [unhide HQ]
  try rfl
set_option maxRecDepth 100000 in
set_option maxHeartbeats 8000000 in
theorem CallOf_1tf (s : ByteArray) (rl nl ll : List UInt8) (w : World) (hs : s.size ≤ 1000000) (hl1 : cutB s.data.toList = (wMake, rl, true)) (hl2 : cutB rl = (nl, ll, false)) :
    Calls Tryd.prog 11 #[.string s] w fun e w' => CallRes s.data.toList e ∧ Below w.heap.size w w' := by
  obtain ⟨l, hl⟩ : ∃ l, s.data.toList = l := ⟨_, rfl⟩
  rw [hl] at hl1 ⊢
  have hll : l.length = s.size := by rw [← hl, bsize]
  have k1 := cutB_len l
  rw [hl1] at k1
  have k2 := cutB_len rl
  rw [hl2] at k2
  dsimp only at k1 k2
  obtain ⟨r2, hr2⟩ : ∃ r, B rl = r := ⟨_, rfl⟩
  obtain ⟨r3, hr3⟩ : ∃ r, B nl = r := ⟨_, rfl⟩
  obtain ⟨r4, hr4⟩ : ∃ r, B ll = r := ⟨_, rfl⟩
  have HW : Hid (wordsC l = (⟨1, r3, ⟨#[]⟩, ⟨#[]⟩⟩, true)) := hide (by rw [words_of hl1 hl2, if_neg (by decide), if_pos rfl, hr3]; rfl)
  have hz3 : r3.size ≤ 1000000 := by rw [← hr3, lB_size]; omega
  have hz4 : r4.size ≤ 1000000 := by rw [← hr4, lB_size]; omega
  have hmx : (1000000 : Nat) ≤ maxLen := by decide
  obtain ⟨V, hV⟩ : ∃ V, V = w.alloc (.cells #[.int .i64 0, .string ⟨#[]⟩, .string ⟨#[]⟩, .string ⟨#[]⟩] 23) := ⟨_, rfl⟩
  have hB0 : Below w.heap.size w V := by rw [hV]; exact (Below.refl _ _).alloc (Nat.le_refl _) _
  have hX0 : V.heap[w.heap.size]? = some (.cells #[.int .i64 0, .string ⟨#[]⟩, .string ⟨#[]⟩, .string ⟨#[]⟩] 23 (0, 0)) := by rw [hV]; exact heap_alloc_new _ _
  have hw1 := word_any s V (by omega)
  rw [hl, hl1] at hw1
  dsimp only at hw1
  rw [show B wMake = ⟨#[109, 97, 107, 101]⟩ from rfl, hr2] at hw1
  have HW1 := hide hw1
  have HW2 : Hid (∀ W, Calls Tryd.prog 23 #[.string r2] W fun e w' => e = .returned (.tuple #[.string r3, .string r4, .bool false]) ∧ Below W.heap.size W w') := hide fun W => by
    have h := word_any r2 W (by rw [← hr2, lB_size]; omega)
    rw [← hr2, B_data, hl2] at h
    dsimp only at h
    rw [hr3, hr4] at h
    rw [← hr2]
    exact h
  have HX0 := hide hX0
  have HB0 := hide hB0
  have HV := hide hV
  have HZ := hide (And.intro hz3 (And.intro hz4 hmx))
  clear hw1 hl1 hl2 hX0 hB0 hV k1 k2 hll hs hl hr2 hr3 hr4 hz3 hz4 hmx
  go_enter Tryd.func11, Tryd.ntmps11
  go_wp2_with fail
  rw [← unhide HV]
  refine (unhide HW1).mono ?_
  rintro e w1 ⟨rfl, b1⟩
  have HX1 := hide ((b1.block _ (Array.getElem?_eq_some_iff.1 (unhide HX0)).1).trans (unhide HX0))
  have HB1 := hide ((unhide HB0).trans (b1.mono (unhide HB0).size))
  clear b1 HW1 HX0 HB0 HV
  --@A1@
  go_wp2_with fail
  refine ((unhide HW2) w1).mono ?_
  rintro e w2 ⟨rfl, b2⟩
  have hX2 := (b2.block _ (Array.getElem?_eq_some_iff.1 (unhide HX1)).1).trans (unhide HX1)
  have hXl : w.heap.size < w2.heap.size := (Array.getElem?_eq_some_iff.1 hX2).1
  have hB2 := (unhide HB1).trans (b2.mono (unhide HB1).size)
  obtain ⟨V3, hV3⟩ : ∃ V3, V3 = w2.alloc (.cells #[.int .i64 1, .string r3, .string ⟨#[]⟩, .string ⟨#[]⟩] 23) := ⟨_, rfl⟩
  have hC3 : V3.heap[w2.heap.size]? = some (.cells #[.int .i64 1, .string r3, .string ⟨#[]⟩, .string ⟨#[]⟩] 23 (0, 0)) := by rw [hV3]; exact heap_alloc_new _ _
  have hX3 : V3.heap[w.heap.size]? = some (.cells #[.int .i64 0, .string ⟨#[]⟩, .string ⟨#[]⟩, .string ⟨#[]⟩] 23 (0, 0)) := by rw [hV3, Below.heap_alloc _ _ _ hXl]; exact hX2
  have hB3 : Below w.heap.size w V3 := by rw [hV3]; exact hB2.alloc (by omega) _
  clear b2 HW2 HX1 HB1 hX2 hB2
  obtain ⟨code, hcode⟩ : ∃ c, checkI ⟨1, r3, ⟨#[]⟩, ⟨#[]⟩⟩ = c := ⟨_, rfl⟩
  have HQ0 : Hid (aParse l = if code ≠ 0 then (noCall, code) else (⟨1, r3, ⟨#[]⟩, ⟨#[]⟩⟩, 0)) := hide (by unfold aParse; rw [unhide HW, ← hcode]; rfl)
  have hZ := unhide HZ
  have hze : (⟨#[]⟩ : ByteArray).size ≤ maxLen := by decide
  have hcf := CallFault_any 1 r3 ⟨#[]⟩ ⟨#[]⟩ V3 (by omega) (by first | omega | exact hze) (by first | omega | exact hze)
  rw [hcode] at hcf
  have HCF := hide hcf
  have HXn := hide hX3
  have HBn := hide hB3
  have HCn := hide hC3
  obtain ⟨y0, y1, y2, y3, _⟩ := fourK hC3
  have HVn : Hid (V3 = w2.alloc (.cells #[.int .i64 1, .string r3, .string ⟨#[]⟩, .string ⟨#[]⟩] 23)) := hide (by rw [hV3])
  rw [unhide HVn] at y0 y1 y2 y3
  clear hcf hcode hZ hze HW hC3 hX3 hB3 hV3
  --@A2@
  go_wp2_with fail
  --@A3@
  rw [← unhide HVn]
  refine (unhide HCF).mono ?_
  rintro e w5 ⟨rfl, b5⟩
  have hX5 := (b5.block _ (Array.getElem?_eq_some_iff.1 (unhide HXn)).1).trans (unhide HXn)
  have hC5 := (b5.block _ (Array.getElem?_eq_some_iff.1 (unhide HCn)).1).trans (unhide HCn)
  have HB5 := hide ((unhide HBn).trans (b5.mono (unhide HBn).size))
  obtain ⟨u0, u1, u2, u3, _⟩ := fourK hC5
  clear b5 hC5 y0 y1 y2 y3  HXn HBn HCn HVn HCF
  by_cases hc : code = 0
  · subst hc
    have HQ : Hid (aParse l = (⟨1, r3, ⟨#[]⟩, ⟨#[]⟩⟩, 0)) := hide (unhide HQ0)
    clear HQ0
    obtain ⟨hz, hBZ⟩ := store4 hX5 (unhide HB5) (.int .i64 1) (.string r3) (.string ⟨#[]⟩) (.string ⟨#[]⟩)
    obtain ⟨V9, hV9⟩ : ∃ V9, V9 = w5.setRow w.heap.size #[.int .i64 1, .string r3, .string ⟨#[]⟩, .string ⟨#[]⟩] := ⟨_, rfl⟩
    rw [← hV9] at hz hBZ
    obtain ⟨z0, z1, z2, z3, _⟩ := fourK hz
    clear hz
    --@E@
    go_wp2_with (refine wpList_store_row rfl 23 _ _ rfl w.heap.size #[.int .i64 1, .string r3, .string ⟨#[]⟩, .string ⟨#[]⟩] rfl rfl 23 _ hX5 info23s rfl (by simp [Value.oneCell']) ?_)
    rw [← hV9]
    refine bodyPost_ret (v := .tuple #[.agg #[.int .i64 1, .string r3, .string ⟨#[]⟩, .string ⟨#[]⟩], .int .i64 (0)]) (by simp [results, Tryd.results11, go_sem, z0, z1, z2, z3]) rfl ⟨?_, hBZ⟩
    show CallRes l _
    unfold CallRes
    rw [unhide HQ]
    try rfl
  · have HQ : Hid (aParse l = (noCall, code)) := hide (by rw [unhide HQ0, if_pos hc])
    have hne : (code != 0) = true := by simpa using hc
    clear HQ0 hc
    obtain ⟨hz, hBZ⟩ := store4 hX5 (unhide HB5) (.int .i64 0) (.string ⟨#[]⟩) (.string ⟨#[]⟩) (.string ⟨#[]⟩)
    obtain ⟨V9, hV9⟩ : ∃ V9, V9 = w5.setRow w.heap.size #[.int .i64 0, .string ⟨#[]⟩, .string ⟨#[]⟩, .string ⟨#[]⟩] := ⟨_, rfl⟩
    rw [← hV9] at hz hBZ
    obtain ⟨z0, z1, z2, z3, _⟩ := fourK hz
    clear hz
    --@E@
    go_wp2_with (refine wpList_store_row rfl 23 _ _ rfl w.heap.size #[.int .i64 0, .string ⟨#[]⟩, .string ⟨#[]⟩, .string ⟨#[]⟩] rfl rfl 23 _ hX5 info23s rfl (by simp [Value.oneCell']) ?_)
    rw [← hV9]
    refine bodyPost_ret (v := .tuple #[.agg #[.int .i64 0, .string ⟨#[]⟩, .string ⟨#[]⟩, .string ⟨#[]⟩], .int .i64 (code)]) (by simp [results, Tryd.results11, go_sem, z0, z1, z2, z3]) rfl ⟨?_, hBZ⟩
    show CallRes l _
    unfold CallRes
    rw [unhide HQ]
    try rfl
set_option maxRecDepth 100000 in
set_option maxHeartbeats 8000000 in
theorem CallOf_1tt (s : ByteArray) (rl nl ll : List UInt8) (w : World) (hs : s.size ≤ 1000000) (hl1 : cutB s.data.toList = (wMake, rl, true)) (hl2 : cutB rl = (nl, ll, true)) :
    Calls Tryd.prog 11 #[.string s] w fun e w' => CallRes s.data.toList e ∧ Below w.heap.size w w' := by
  obtain ⟨l, hl⟩ : ∃ l, s.data.toList = l := ⟨_, rfl⟩
  rw [hl] at hl1 ⊢
  have hll : l.length = s.size := by rw [← hl, bsize]
  have k1 := cutB_len l
  rw [hl1] at k1
  have k2 := cutB_len rl
  rw [hl2] at k2
  dsimp only at k1 k2
  obtain ⟨r2, hr2⟩ : ∃ r, B rl = r := ⟨_, rfl⟩
  obtain ⟨r3, hr3⟩ : ∃ r, B nl = r := ⟨_, rfl⟩
  obtain ⟨r4, hr4⟩ : ∃ r, B ll = r := ⟨_, rfl⟩
  have HW : Hid (wordsC l = (⟨1, r3, ⟨#[]⟩, ⟨#[]⟩⟩, false)) := hide (by rw [words_of hl1 hl2, if_neg (by decide), if_pos rfl, hr3]; rfl)
  have hz3 : r3.size ≤ 1000000 := by rw [← hr3, lB_size]; omega
  have hz4 : r4.size ≤ 1000000 := by rw [← hr4, lB_size]; omega
  have hmx : (1000000 : Nat) ≤ maxLen := by decide
  obtain ⟨V, hV⟩ : ∃ V, V = w.alloc (.cells #[.int .i64 0, .string ⟨#[]⟩, .string ⟨#[]⟩, .string ⟨#[]⟩] 23) := ⟨_, rfl⟩
  have hB0 : Below w.heap.size w V := by rw [hV]; exact (Below.refl _ _).alloc (Nat.le_refl _) _
  have hX0 : V.heap[w.heap.size]? = some (.cells #[.int .i64 0, .string ⟨#[]⟩, .string ⟨#[]⟩, .string ⟨#[]⟩] 23 (0, 0)) := by rw [hV]; exact heap_alloc_new _ _
  have hw1 := word_any s V (by omega)
  rw [hl, hl1] at hw1
  dsimp only at hw1
  rw [show B wMake = ⟨#[109, 97, 107, 101]⟩ from rfl, hr2] at hw1
  have HW1 := hide hw1
  have HW2 : Hid (∀ W, Calls Tryd.prog 23 #[.string r2] W fun e w' => e = .returned (.tuple #[.string r3, .string r4, .bool true]) ∧ Below W.heap.size W w') := hide fun W => by
    have h := word_any r2 W (by rw [← hr2, lB_size]; omega)
    rw [← hr2, B_data, hl2] at h
    dsimp only at h
    rw [hr3, hr4] at h
    rw [← hr2]
    exact h
  have HX0 := hide hX0
  have HB0 := hide hB0
  have HV := hide hV
  have HZ := hide (And.intro hz3 (And.intro hz4 hmx))
  clear hw1 hl1 hl2 hX0 hB0 hV k1 k2 hll hs hl hr2 hr3 hr4 hz3 hz4 hmx
  go_enter Tryd.func11, Tryd.ntmps11
  go_wp2_with fail
  rw [← unhide HV]
  refine (unhide HW1).mono ?_
  rintro e w1 ⟨rfl, b1⟩
  have HX1 := hide ((b1.block _ (Array.getElem?_eq_some_iff.1 (unhide HX0)).1).trans (unhide HX0))
  have HB1 := hide ((unhide HB0).trans (b1.mono (unhide HB0).size))
  clear b1 HW1 HX0 HB0 HV
  --@A1@
  go_wp2_with fail
  refine ((unhide HW2) w1).mono ?_
  rintro e w2 ⟨rfl, b2⟩
  have hX2 := (b2.block _ (Array.getElem?_eq_some_iff.1 (unhide HX1)).1).trans (unhide HX1)
  have hXl : w.heap.size < w2.heap.size := (Array.getElem?_eq_some_iff.1 hX2).1
  have hB2 := (unhide HB1).trans (b2.mono (unhide HB1).size)
  obtain ⟨V3, hV3⟩ : ∃ V3, V3 = w2.alloc (.cells #[.int .i64 1, .string r3, .string ⟨#[]⟩, .string ⟨#[]⟩] 23) := ⟨_, rfl⟩
  have hC3 : V3.heap[w2.heap.size]? = some (.cells #[.int .i64 1, .string r3, .string ⟨#[]⟩, .string ⟨#[]⟩] 23 (0, 0)) := by rw [hV3]; exact heap_alloc_new _ _
  have hX3 : V3.heap[w.heap.size]? = some (.cells #[.int .i64 0, .string ⟨#[]⟩, .string ⟨#[]⟩, .string ⟨#[]⟩] 23 (0, 0)) := by rw [hV3, Below.heap_alloc _ _ _ hXl]; exact hX2
  have hB3 : Below w.heap.size w V3 := by rw [hV3]; exact hB2.alloc (by omega) _
  clear b2 HW2 HX1 HB1 hX2 hB2
  have HQ : Hid (aParse l = (noCall, 12)) := hide (by unfold aParse; rw [unhide HW]; rfl)
  rw [hV3] at hX3 hB3 
  have hXs := hX3
  have HBs := hide hB3
  clear HW hC3 hX3 hB3
  obtain ⟨hz, hBZ⟩ := store4 hXs (unhide HBs) (.int .i64 0) (.string ⟨#[]⟩) (.string ⟨#[]⟩) (.string ⟨#[]⟩)
  obtain ⟨V9, hV9⟩ : ∃ V9, V9 = (w2.alloc (.cells #[.int .i64 1, .string r3, .string ⟨#[]⟩, .string ⟨#[]⟩] 23)).setRow w.heap.size #[.int .i64 0, .string ⟨#[]⟩, .string ⟨#[]⟩, .string ⟨#[]⟩] := ⟨_, rfl⟩
  rw [← hV9] at hz hBZ
  obtain ⟨z0, z1, z2, z3, _⟩ := fourK hz
  clear hz
  --@E@
  go_wp2_with (refine wpList_store_row rfl 23 _ _ rfl w.heap.size #[.int .i64 0, .string ⟨#[]⟩, .string ⟨#[]⟩, .string ⟨#[]⟩] rfl rfl 23 _ hXs info23s rfl (by simp [Value.oneCell']) ?_)
  rw [← hV9]
  refine bodyPost_ret (v := .tuple #[.agg #[.int .i64 0, .string ⟨#[]⟩, .string ⟨#[]⟩, .string ⟨#[]⟩], .int .i64 (12)]) (by simp [results, Tryd.results11, go_sem, z0, z1, z2, z3]) rfl ⟨?_, hBZ⟩
  show CallRes l _
  unfold CallRes
  rw [unhide HQ]
  try rfl

end Go.Proofs.YtkbdaiopahmfiacDoor

namespace Go.Proofs.YtkbdaiopahmfiacDoor
open Go.RowKit
set_option linter.unusedSimpArgs false
set_option linter.unusedVariables false

set_option maxRecDepth 100000 in
set_option maxHeartbeats 8000000 in
theorem CallOf_2ff (s : ByteArray) (rl nl ll : List UInt8) (w : World) (hs : s.size ≤ 1000000) (hl1 : cutB s.data.toList = (wRemove, rl, false)) (hl2 : cutB rl = (nl, ll, false)) :
    Calls Tryd.prog 11 #[.string s] w fun e w' => CallRes s.data.toList e ∧ Below w.heap.size w w' := by
  obtain ⟨l, hl⟩ : ∃ l, s.data.toList = l := ⟨_, rfl⟩
  rw [hl] at hl1 ⊢
  have hll : l.length = s.size := by rw [← hl, bsize]
  have k1 := cutB_len l
  rw [hl1] at k1
  have k2 := cutB_len rl
  rw [hl2] at k2
  dsimp only at k1 k2
  obtain ⟨r2, hr2⟩ : ∃ r, B rl = r := ⟨_, rfl⟩
  obtain ⟨r3, hr3⟩ : ∃ r, B nl = r := ⟨_, rfl⟩
  obtain ⟨r4, hr4⟩ : ∃ r, B ll = r := ⟨_, rfl⟩
  have HW : Hid (wordsC l = (⟨2, r3, ⟨#[]⟩, ⟨#[]⟩⟩, false)) := hide (by rw [words_of hl1 hl2, if_neg (by decide), if_neg (by decide), if_pos rfl, hr3]; rfl)
  have hz3 : r3.size ≤ 1000000 := by rw [← hr3, lB_size]; omega
  have hz4 : r4.size ≤ 1000000 := by rw [← hr4, lB_size]; omega
  have hmx : (1000000 : Nat) ≤ maxLen := by decide
  obtain ⟨V, hV⟩ : ∃ V, V = w.alloc (.cells #[.int .i64 0, .string ⟨#[]⟩, .string ⟨#[]⟩, .string ⟨#[]⟩] 23) := ⟨_, rfl⟩
  have hB0 : Below w.heap.size w V := by rw [hV]; exact (Below.refl _ _).alloc (Nat.le_refl _) _
  have hX0 : V.heap[w.heap.size]? = some (.cells #[.int .i64 0, .string ⟨#[]⟩, .string ⟨#[]⟩, .string ⟨#[]⟩] 23 (0, 0)) := by rw [hV]; exact heap_alloc_new _ _
  have hw1 := word_any s V (by omega)
  rw [hl, hl1] at hw1
  dsimp only at hw1
  rw [show B wRemove = ⟨#[114, 101, 109, 111, 118, 101]⟩ from rfl, hr2] at hw1
  have HW1 := hide hw1
  have HW2 : Hid (∀ W, Calls Tryd.prog 23 #[.string r2] W fun e w' => e = .returned (.tuple #[.string r3, .string r4, .bool false]) ∧ Below W.heap.size W w') := hide fun W => by
    have h := word_any r2 W (by rw [← hr2, lB_size]; omega)
    rw [← hr2, B_data, hl2] at h
    dsimp only at h
    rw [hr3, hr4] at h
    rw [← hr2]
    exact h
  have HX0 := hide hX0
  have HB0 := hide hB0
  have HV := hide hV
  have HZ := hide (And.intro hz3 (And.intro hz4 hmx))
  clear hw1 hl1 hl2 hX0 hB0 hV k1 k2 hll hs hl hr2 hr3 hr4 hz3 hz4 hmx
  go_enter Tryd.func11, Tryd.ntmps11
  go_wp2_with fail
  rw [← unhide HV]
  refine (unhide HW1).mono ?_
  rintro e w1 ⟨rfl, b1⟩
  have HX1 := hide ((b1.block _ (Array.getElem?_eq_some_iff.1 (unhide HX0)).1).trans (unhide HX0))
  have HB1 := hide ((unhide HB0).trans (b1.mono (unhide HB0).size))
  clear b1 HW1 HX0 HB0 HV
  --@A1@
  go_wp2_with fail
  refine ((unhide HW2) w1).mono ?_
  rintro e w2 ⟨rfl, b2⟩
  have hX2 := (b2.block _ (Array.getElem?_eq_some_iff.1 (unhide HX1)).1).trans (unhide HX1)
  have hXl : w.heap.size < w2.heap.size := (Array.getElem?_eq_some_iff.1 hX2).1
  have hB2 := (unhide HB1).trans (b2.mono (unhide HB1).size)
  obtain ⟨V3, hV3⟩ : ∃ V3, V3 = w2.alloc (.cells #[.int .i64 2, .string r3, .string ⟨#[]⟩, .string ⟨#[]⟩] 23) := ⟨_, rfl⟩
  have hC3 : V3.heap[w2.heap.size]? = some (.cells #[.int .i64 2, .string r3, .string ⟨#[]⟩, .string ⟨#[]⟩] 23 (0, 0)) := by rw [hV3]; exact heap_alloc_new _ _
  have hX3 : V3.heap[w.heap.size]? = some (.cells #[.int .i64 0, .string ⟨#[]⟩, .string ⟨#[]⟩, .string ⟨#[]⟩] 23 (0, 0)) := by rw [hV3, Below.heap_alloc _ _ _ hXl]; exact hX2
  have hB3 : Below w.heap.size w V3 := by rw [hV3]; exact hB2.alloc (by omega) _
  clear b2 HW2 HX1 HB1 hX2 hB2
  have HQ : Hid (aParse l = (noCall, 12)) := hide (by unfold aParse; rw [unhide HW]; rfl)
  rw [hV3] at hX3 hB3 
  have hXs := hX3
  have HBs := hide hB3
  clear HW hC3 hX3 hB3
  obtain ⟨hz, hBZ⟩ := store4 hXs (unhide HBs) (.int .i64 0) (.string ⟨#[]⟩) (.string ⟨#[]⟩) (.string ⟨#[]⟩)
  obtain ⟨V9, hV9⟩ : ∃ V9, V9 = (w2.alloc (.cells #[.int .i64 2, .string r3, .string ⟨#[]⟩, .string ⟨#[]⟩] 23)).setRow w.heap.size #[.int .i64 0, .string ⟨#[]⟩, .string ⟨#[]⟩, .string ⟨#[]⟩] := ⟨_, rfl⟩
  rw [← hV9] at hz hBZ
  obtain ⟨z0, z1, z2, z3, _⟩ := fourK hz
  clear hz
  --@E@
  go_wp2_with (refine wpList_store_row rfl 23 _ _ rfl w.heap.size #[.int .i64 0, .string ⟨#[]⟩, .string ⟨#[]⟩, .string ⟨#[]⟩] rfl rfl 23 _ hXs info23s rfl (by simp [Value.oneCell']) ?_)
  rw [← hV9]
  refine bodyPost_ret (v := .tuple #[.agg #[.int .i64 0, .string ⟨#[]⟩, .string ⟨#[]⟩, .string ⟨#[]⟩], .int .i64 (12)]) (by simp [results, Tryd.results11, go_sem, z0, z1, z2, z3]) rfl ⟨?_, hBZ⟩
  show CallRes l _
  unfold CallRes
  rw [unhide HQ]
  try rfl
set_option maxRecDepth 100000 in
set_option maxHeartbeats 8000000 in
theorem CallOf_2tf (s : ByteArray) (rl nl ll : List UInt8) (w : World) (hs : s.size ≤ 1000000) (hl1 : cutB s.data.toList = (wRemove, rl, true)) (hl2 : cutB rl = (nl, ll, false)) :
    Calls Tryd.prog 11 #[.string s] w fun e w' => CallRes s.data.toList e ∧ Below w.heap.size w w' := by
  obtain ⟨l, hl⟩ : ∃ l, s.data.toList = l := ⟨_, rfl⟩
  rw [hl] at hl1 ⊢
  have hll : l.length = s.size := by rw [← hl, bsize]
  have k1 := cutB_len l
  rw [hl1] at k1
  have k2 := cutB_len rl
  rw [hl2] at k2
  dsimp only at k1 k2
  obtain ⟨r2, hr2⟩ : ∃ r, B rl = r := ⟨_, rfl⟩
  obtain ⟨r3, hr3⟩ : ∃ r, B nl = r := ⟨_, rfl⟩
  obtain ⟨r4, hr4⟩ : ∃ r, B ll = r := ⟨_, rfl⟩
  have HW : Hid (wordsC l = (⟨2, r3, ⟨#[]⟩, ⟨#[]⟩⟩, true)) := hide (by rw [words_of hl1 hl2, if_neg (by decide), if_neg (by decide), if_pos rfl, hr3]; rfl)
  have hz3 : r3.size ≤ 1000000 := by rw [← hr3, lB_size]; omega
  have hz4 : r4.size ≤ 1000000 := by rw [← hr4, lB_size]; omega
  have hmx : (1000000 : Nat) ≤ maxLen := by decide
  obtain ⟨V, hV⟩ : ∃ V, V = w.alloc (.cells #[.int .i64 0, .string ⟨#[]⟩, .string ⟨#[]⟩, .string ⟨#[]⟩] 23) := ⟨_, rfl⟩
  have hB0 : Below w.heap.size w V := by rw [hV]; exact (Below.refl _ _).alloc (Nat.le_refl _) _
  have hX0 : V.heap[w.heap.size]? = some (.cells #[.int .i64 0, .string ⟨#[]⟩, .string ⟨#[]⟩, .string ⟨#[]⟩] 23 (0, 0)) := by rw [hV]; exact heap_alloc_new _ _
  have hw1 := word_any s V (by omega)
  rw [hl, hl1] at hw1
  dsimp only at hw1
  rw [show B wRemove = ⟨#[114, 101, 109, 111, 118, 101]⟩ from rfl, hr2] at hw1
  have HW1 := hide hw1
  have HW2 : Hid (∀ W, Calls Tryd.prog 23 #[.string r2] W fun e w' => e = .returned (.tuple #[.string r3, .string r4, .bool false]) ∧ Below W.heap.size W w') := hide fun W => by
    have h := word_any r2 W (by rw [← hr2, lB_size]; omega)
    rw [← hr2, B_data, hl2] at h
    dsimp only at h
    rw [hr3, hr4] at h
    rw [← hr2]
    exact h
  have HX0 := hide hX0
  have HB0 := hide hB0
  have HV := hide hV
  have HZ := hide (And.intro hz3 (And.intro hz4 hmx))
  clear hw1 hl1 hl2 hX0 hB0 hV k1 k2 hll hs hl hr2 hr3 hr4 hz3 hz4 hmx
  go_enter Tryd.func11, Tryd.ntmps11
  go_wp2_with fail
  rw [← unhide HV]
  refine (unhide HW1).mono ?_
  rintro e w1 ⟨rfl, b1⟩
  have HX1 := hide ((b1.block _ (Array.getElem?_eq_some_iff.1 (unhide HX0)).1).trans (unhide HX0))
  have HB1 := hide ((unhide HB0).trans (b1.mono (unhide HB0).size))
  clear b1 HW1 HX0 HB0 HV
  --@A1@
  go_wp2_with fail
  refine ((unhide HW2) w1).mono ?_
  rintro e w2 ⟨rfl, b2⟩
  have hX2 := (b2.block _ (Array.getElem?_eq_some_iff.1 (unhide HX1)).1).trans (unhide HX1)
  have hXl : w.heap.size < w2.heap.size := (Array.getElem?_eq_some_iff.1 hX2).1
  have hB2 := (unhide HB1).trans (b2.mono (unhide HB1).size)
  obtain ⟨V3, hV3⟩ : ∃ V3, V3 = w2.alloc (.cells #[.int .i64 2, .string r3, .string ⟨#[]⟩, .string ⟨#[]⟩] 23) := ⟨_, rfl⟩
  have hC3 : V3.heap[w2.heap.size]? = some (.cells #[.int .i64 2, .string r3, .string ⟨#[]⟩, .string ⟨#[]⟩] 23 (0, 0)) := by rw [hV3]; exact heap_alloc_new _ _
  have hX3 : V3.heap[w.heap.size]? = some (.cells #[.int .i64 0, .string ⟨#[]⟩, .string ⟨#[]⟩, .string ⟨#[]⟩] 23 (0, 0)) := by rw [hV3, Below.heap_alloc _ _ _ hXl]; exact hX2
  have hB3 : Below w.heap.size w V3 := by rw [hV3]; exact hB2.alloc (by omega) _
  clear b2 HW2 HX1 HB1 hX2 hB2
  obtain ⟨code, hcode⟩ : ∃ c, checkI ⟨2, r3, ⟨#[]⟩, ⟨#[]⟩⟩ = c := ⟨_, rfl⟩
  have HQ0 : Hid (aParse l = if code ≠ 0 then (noCall, code) else (⟨2, r3, ⟨#[]⟩, ⟨#[]⟩⟩, 0)) := hide (by unfold aParse; rw [unhide HW, ← hcode]; rfl)
  have hZ := unhide HZ
  have hze : (⟨#[]⟩ : ByteArray).size ≤ maxLen := by decide
  have hcf := CallFault_any 2 r3 ⟨#[]⟩ ⟨#[]⟩ V3 (by omega) (by first | omega | exact hze) (by first | omega | exact hze)
  rw [hcode] at hcf
  have HCF := hide hcf
  have HXn := hide hX3
  have HBn := hide hB3
  have HCn := hide hC3
  obtain ⟨y0, y1, y2, y3, _⟩ := fourK hC3
  have HVn : Hid (V3 = w2.alloc (.cells #[.int .i64 2, .string r3, .string ⟨#[]⟩, .string ⟨#[]⟩] 23)) := hide (by rw [hV3])
  rw [unhide HVn] at y0 y1 y2 y3
  clear hcf hcode hZ hze HW hC3 hX3 hB3 hV3
  --@A2@
  go_wp2_with fail
  --@A3@
  rw [← unhide HVn]
  refine (unhide HCF).mono ?_
  rintro e w5 ⟨rfl, b5⟩
  have hX5 := (b5.block _ (Array.getElem?_eq_some_iff.1 (unhide HXn)).1).trans (unhide HXn)
  have hC5 := (b5.block _ (Array.getElem?_eq_some_iff.1 (unhide HCn)).1).trans (unhide HCn)
  have HB5 := hide ((unhide HBn).trans (b5.mono (unhide HBn).size))
  obtain ⟨u0, u1, u2, u3, _⟩ := fourK hC5
  clear b5 hC5 y0 y1 y2 y3  HXn HBn HCn HVn HCF
  by_cases hc : code = 0
  · subst hc
    have HQ : Hid (aParse l = (⟨2, r3, ⟨#[]⟩, ⟨#[]⟩⟩, 0)) := hide (unhide HQ0)
    clear HQ0
    obtain ⟨hz, hBZ⟩ := store4 hX5 (unhide HB5) (.int .i64 2) (.string r3) (.string ⟨#[]⟩) (.string ⟨#[]⟩)
    obtain ⟨V9, hV9⟩ : ∃ V9, V9 = w5.setRow w.heap.size #[.int .i64 2, .string r3, .string ⟨#[]⟩, .string ⟨#[]⟩] := ⟨_, rfl⟩
    rw [← hV9] at hz hBZ
    obtain ⟨z0, z1, z2, z3, _⟩ := fourK hz
    clear hz
    --@E@
    go_wp2_with (refine wpList_store_row rfl 23 _ _ rfl w.heap.size #[.int .i64 2, .string r3, .string ⟨#[]⟩, .string ⟨#[]⟩] rfl rfl 23 _ hX5 info23s rfl (by simp [Value.oneCell']) ?_)
    rw [← hV9]
    refine bodyPost_ret (v := .tuple #[.agg #[.int .i64 2, .string r3, .string ⟨#[]⟩, .string ⟨#[]⟩], .int .i64 (0)]) (by simp [results, Tryd.results11, go_sem, z0, z1, z2, z3]) rfl ⟨?_, hBZ⟩
    show CallRes l _
    unfold CallRes
    rw [unhide HQ]
    try rfl
  · have HQ : Hid (aParse l = (noCall, code)) := hide (by rw [unhide HQ0, if_pos hc])
    have hne : (code != 0) = true := by simpa using hc
    clear HQ0 hc
    obtain ⟨hz, hBZ⟩ := store4 hX5 (unhide HB5) (.int .i64 0) (.string ⟨#[]⟩) (.string ⟨#[]⟩) (.string ⟨#[]⟩)
    obtain ⟨V9, hV9⟩ : ∃ V9, V9 = w5.setRow w.heap.size #[.int .i64 0, .string ⟨#[]⟩, .string ⟨#[]⟩, .string ⟨#[]⟩] := ⟨_, rfl⟩
    rw [← hV9] at hz hBZ
    obtain ⟨z0, z1, z2, z3, _⟩ := fourK hz
    clear hz
    --@E@
    go_wp2_with (refine wpList_store_row rfl 23 _ _ rfl w.heap.size #[.int .i64 0, .string ⟨#[]⟩, .string ⟨#[]⟩, .string ⟨#[]⟩] rfl rfl 23 _ hX5 info23s rfl (by simp [Value.oneCell']) ?_)
    rw [← hV9]
    refine bodyPost_ret (v := .tuple #[.agg #[.int .i64 0, .string ⟨#[]⟩, .string ⟨#[]⟩, .string ⟨#[]⟩], .int .i64 (code)]) (by simp [results, Tryd.results11, go_sem, z0, z1, z2, z3]) rfl ⟨?_, hBZ⟩
    show CallRes l _
    unfold CallRes
    rw [unhide HQ]
    try rfl
set_option maxRecDepth 100000 in
set_option maxHeartbeats 8000000 in
theorem CallOf_2tt (s : ByteArray) (rl nl ll : List UInt8) (w : World) (hs : s.size ≤ 1000000) (hl1 : cutB s.data.toList = (wRemove, rl, true)) (hl2 : cutB rl = (nl, ll, true)) :
    Calls Tryd.prog 11 #[.string s] w fun e w' => CallRes s.data.toList e ∧ Below w.heap.size w w' := by
  obtain ⟨l, hl⟩ : ∃ l, s.data.toList = l := ⟨_, rfl⟩
  rw [hl] at hl1 ⊢
  have hll : l.length = s.size := by rw [← hl, bsize]
  have k1 := cutB_len l
  rw [hl1] at k1
  have k2 := cutB_len rl
  rw [hl2] at k2
  dsimp only at k1 k2
  obtain ⟨r2, hr2⟩ : ∃ r, B rl = r := ⟨_, rfl⟩
  obtain ⟨r3, hr3⟩ : ∃ r, B nl = r := ⟨_, rfl⟩
  obtain ⟨r4, hr4⟩ : ∃ r, B ll = r := ⟨_, rfl⟩
  have HW : Hid (wordsC l = (⟨2, r3, ⟨#[]⟩, ⟨#[]⟩⟩, false)) := hide (by rw [words_of hl1 hl2, if_neg (by decide), if_neg (by decide), if_pos rfl, hr3]; rfl)
  have hz3 : r3.size ≤ 1000000 := by rw [← hr3, lB_size]; omega
  have hz4 : r4.size ≤ 1000000 := by rw [← hr4, lB_size]; omega
  have hmx : (1000000 : Nat) ≤ maxLen := by decide
  obtain ⟨V, hV⟩ : ∃ V, V = w.alloc (.cells #[.int .i64 0, .string ⟨#[]⟩, .string ⟨#[]⟩, .string ⟨#[]⟩] 23) := ⟨_, rfl⟩
  have hB0 : Below w.heap.size w V := by rw [hV]; exact (Below.refl _ _).alloc (Nat.le_refl _) _
  have hX0 : V.heap[w.heap.size]? = some (.cells #[.int .i64 0, .string ⟨#[]⟩, .string ⟨#[]⟩, .string ⟨#[]⟩] 23 (0, 0)) := by rw [hV]; exact heap_alloc_new _ _
  have hw1 := word_any s V (by omega)
  rw [hl, hl1] at hw1
  dsimp only at hw1
  rw [show B wRemove = ⟨#[114, 101, 109, 111, 118, 101]⟩ from rfl, hr2] at hw1
  have HW1 := hide hw1
  have HW2 : Hid (∀ W, Calls Tryd.prog 23 #[.string r2] W fun e w' => e = .returned (.tuple #[.string r3, .string r4, .bool true]) ∧ Below W.heap.size W w') := hide fun W => by
    have h := word_any r2 W (by rw [← hr2, lB_size]; omega)
    rw [← hr2, B_data, hl2] at h
    dsimp only at h
    rw [hr3, hr4] at h
    rw [← hr2]
    exact h
  have HX0 := hide hX0
  have HB0 := hide hB0
  have HV := hide hV
  have HZ := hide (And.intro hz3 (And.intro hz4 hmx))
  clear hw1 hl1 hl2 hX0 hB0 hV k1 k2 hll hs hl hr2 hr3 hr4 hz3 hz4 hmx
  go_enter Tryd.func11, Tryd.ntmps11
  go_wp2_with fail
  rw [← unhide HV]
  refine (unhide HW1).mono ?_
  rintro e w1 ⟨rfl, b1⟩
  have HX1 := hide ((b1.block _ (Array.getElem?_eq_some_iff.1 (unhide HX0)).1).trans (unhide HX0))
  have HB1 := hide ((unhide HB0).trans (b1.mono (unhide HB0).size))
  clear b1 HW1 HX0 HB0 HV
  --@A1@
  go_wp2_with fail
  refine ((unhide HW2) w1).mono ?_
  rintro e w2 ⟨rfl, b2⟩
  have hX2 := (b2.block _ (Array.getElem?_eq_some_iff.1 (unhide HX1)).1).trans (unhide HX1)
  have hXl : w.heap.size < w2.heap.size := (Array.getElem?_eq_some_iff.1 hX2).1
  have hB2 := (unhide HB1).trans (b2.mono (unhide HB1).size)
  obtain ⟨V3, hV3⟩ : ∃ V3, V3 = w2.alloc (.cells #[.int .i64 2, .string r3, .string ⟨#[]⟩, .string ⟨#[]⟩] 23) := ⟨_, rfl⟩
  have hC3 : V3.heap[w2.heap.size]? = some (.cells #[.int .i64 2, .string r3, .string ⟨#[]⟩, .string ⟨#[]⟩] 23 (0, 0)) := by rw [hV3]; exact heap_alloc_new _ _
  have hX3 : V3.heap[w.heap.size]? = some (.cells #[.int .i64 0, .string ⟨#[]⟩, .string ⟨#[]⟩, .string ⟨#[]⟩] 23 (0, 0)) := by rw [hV3, Below.heap_alloc _ _ _ hXl]; exact hX2
  have hB3 : Below w.heap.size w V3 := by rw [hV3]; exact hB2.alloc (by omega) _
  clear b2 HW2 HX1 HB1 hX2 hB2
  have HQ : Hid (aParse l = (noCall, 12)) := hide (by unfold aParse; rw [unhide HW]; rfl)
  rw [hV3] at hX3 hB3 
  have hXs := hX3
  have HBs := hide hB3
  clear HW hC3 hX3 hB3
  obtain ⟨hz, hBZ⟩ := store4 hXs (unhide HBs) (.int .i64 0) (.string ⟨#[]⟩) (.string ⟨#[]⟩) (.string ⟨#[]⟩)
  obtain ⟨V9, hV9⟩ : ∃ V9, V9 = (w2.alloc (.cells #[.int .i64 2, .string r3, .string ⟨#[]⟩, .string ⟨#[]⟩] 23)).setRow w.heap.size #[.int .i64 0, .string ⟨#[]⟩, .string ⟨#[]⟩, .string ⟨#[]⟩] := ⟨_, rfl⟩
  rw [← hV9] at hz hBZ
  obtain ⟨z0, z1, z2, z3, _⟩ := fourK hz
  clear hz
  --@E@
  go_wp2_with (refine wpList_store_row rfl 23 _ _ rfl w.heap.size #[.int .i64 0, .string ⟨#[]⟩, .string ⟨#[]⟩, .string ⟨#[]⟩] rfl rfl 23 _ hXs info23s rfl (by simp [Value.oneCell']) ?_)
  rw [← hV9]
  refine bodyPost_ret (v := .tuple #[.agg #[.int .i64 0, .string ⟨#[]⟩, .string ⟨#[]⟩, .string ⟨#[]⟩], .int .i64 (12)]) (by simp [results, Tryd.results11, go_sem, z0, z1, z2, z3]) rfl ⟨?_, hBZ⟩
  show CallRes l _
  unfold CallRes
  rw [unhide HQ]
  try rfl

end Go.Proofs.YtkbdaiopahmfiacDoor

namespace Go.Proofs.YtkbdaiopahmfiacDoor
open Go.RowKit
set_option linter.unusedSimpArgs false
set_option linter.unusedVariables false

set_option maxRecDepth 100000 in
set_option maxHeartbeats 8000000 in
theorem CallOf_3ff (s : ByteArray) (rl nl ll : List UInt8) (w : World) (hs : s.size ≤ 1000000) (hl1 : cutB s.data.toList = (wRead, rl, false)) (hl2 : cutB rl = (nl, ll, false)) :
    Calls Tryd.prog 11 #[.string s] w fun e w' => CallRes s.data.toList e ∧ Below w.heap.size w w' := by
  obtain ⟨l, hl⟩ : ∃ l, s.data.toList = l := ⟨_, rfl⟩
  rw [hl] at hl1 ⊢
  have hll : l.length = s.size := by rw [← hl, bsize]
  have k1 := cutB_len l
  rw [hl1] at k1
  have k2 := cutB_len rl
  rw [hl2] at k2
  dsimp only at k1 k2
  obtain ⟨r2, hr2⟩ : ∃ r, B rl = r := ⟨_, rfl⟩
  obtain ⟨r3, hr3⟩ : ∃ r, B nl = r := ⟨_, rfl⟩
  obtain ⟨r4, hr4⟩ : ∃ r, B ll = r := ⟨_, rfl⟩
  have HW : Hid (wordsC l = (⟨5, r3, ⟨#[]⟩, ⟨#[]⟩⟩, false)) := hide (by rw [words_of hl1 hl2, if_neg (by decide), if_neg (by decide), if_neg (by decide), if_pos rfl, hr3]; rfl)
  have hz3 : r3.size ≤ 1000000 := by rw [← hr3, lB_size]; omega
  have hz4 : r4.size ≤ 1000000 := by rw [← hr4, lB_size]; omega
  have hmx : (1000000 : Nat) ≤ maxLen := by decide
  obtain ⟨V, hV⟩ : ∃ V, V = w.alloc (.cells #[.int .i64 0, .string ⟨#[]⟩, .string ⟨#[]⟩, .string ⟨#[]⟩] 23) := ⟨_, rfl⟩
  have hB0 : Below w.heap.size w V := by rw [hV]; exact (Below.refl _ _).alloc (Nat.le_refl _) _
  have hX0 : V.heap[w.heap.size]? = some (.cells #[.int .i64 0, .string ⟨#[]⟩, .string ⟨#[]⟩, .string ⟨#[]⟩] 23 (0, 0)) := by rw [hV]; exact heap_alloc_new _ _
  have hw1 := word_any s V (by omega)
  rw [hl, hl1] at hw1
  dsimp only at hw1
  rw [show B wRead = ⟨#[114, 101, 97, 100]⟩ from rfl, hr2] at hw1
  have HW1 := hide hw1
  have HW2 : Hid (∀ W, Calls Tryd.prog 23 #[.string r2] W fun e w' => e = .returned (.tuple #[.string r3, .string r4, .bool false]) ∧ Below W.heap.size W w') := hide fun W => by
    have h := word_any r2 W (by rw [← hr2, lB_size]; omega)
    rw [← hr2, B_data, hl2] at h
    dsimp only at h
    rw [hr3, hr4] at h
    rw [← hr2]
    exact h
  have HX0 := hide hX0
  have HB0 := hide hB0
  have HV := hide hV
  have HZ := hide (And.intro hz3 (And.intro hz4 hmx))
  clear hw1 hl1 hl2 hX0 hB0 hV k1 k2 hll hs hl hr2 hr3 hr4 hz3 hz4 hmx
  go_enter Tryd.func11, Tryd.ntmps11
  go_wp2_with fail
  rw [← unhide HV]
  refine (unhide HW1).mono ?_
  rintro e w1 ⟨rfl, b1⟩
  have HX1 := hide ((b1.block _ (Array.getElem?_eq_some_iff.1 (unhide HX0)).1).trans (unhide HX0))
  have HB1 := hide ((unhide HB0).trans (b1.mono (unhide HB0).size))
  clear b1 HW1 HX0 HB0 HV
  --@A1@
  go_wp2_with fail
  refine ((unhide HW2) w1).mono ?_
  rintro e w2 ⟨rfl, b2⟩
  have hX2 := (b2.block _ (Array.getElem?_eq_some_iff.1 (unhide HX1)).1).trans (unhide HX1)
  have hXl : w.heap.size < w2.heap.size := (Array.getElem?_eq_some_iff.1 hX2).1
  have hB2 := (unhide HB1).trans (b2.mono (unhide HB1).size)
  obtain ⟨V3, hV3⟩ : ∃ V3, V3 = w2.alloc (.cells #[.int .i64 5, .string r3, .string ⟨#[]⟩, .string ⟨#[]⟩] 23) := ⟨_, rfl⟩
  have hC3 : V3.heap[w2.heap.size]? = some (.cells #[.int .i64 5, .string r3, .string ⟨#[]⟩, .string ⟨#[]⟩] 23 (0, 0)) := by rw [hV3]; exact heap_alloc_new _ _
  have hX3 : V3.heap[w.heap.size]? = some (.cells #[.int .i64 0, .string ⟨#[]⟩, .string ⟨#[]⟩, .string ⟨#[]⟩] 23 (0, 0)) := by rw [hV3, Below.heap_alloc _ _ _ hXl]; exact hX2
  have hB3 : Below w.heap.size w V3 := by rw [hV3]; exact hB2.alloc (by omega) _
  clear b2 HW2 HX1 HB1 hX2 hB2
  have HQ : Hid (aParse l = (noCall, 12)) := hide (by unfold aParse; rw [unhide HW]; rfl)
  rw [hV3] at hX3 hB3 
  have hXs := hX3
  have HBs := hide hB3
  clear HW hC3 hX3 hB3
  obtain ⟨hz, hBZ⟩ := store4 hXs (unhide HBs) (.int .i64 0) (.string ⟨#[]⟩) (.string ⟨#[]⟩) (.string ⟨#[]⟩)
  obtain ⟨V9, hV9⟩ : ∃ V9, V9 = (w2.alloc (.cells #[.int .i64 5, .string r3, .string ⟨#[]⟩, .string ⟨#[]⟩] 23)).setRow w.heap.size #[.int .i64 0, .string ⟨#[]⟩, .string ⟨#[]⟩, .string ⟨#[]⟩] := ⟨_, rfl⟩
  rw [← hV9] at hz hBZ
  obtain ⟨z0, z1, z2, z3, _⟩ := fourK hz
  clear hz
  --@E@
  go_wp2_with (refine wpList_store_row rfl 23 _ _ rfl w.heap.size #[.int .i64 0, .string ⟨#[]⟩, .string ⟨#[]⟩, .string ⟨#[]⟩] rfl rfl 23 _ hXs info23s rfl (by simp [Value.oneCell']) ?_)
  rw [← hV9]
  refine bodyPost_ret (v := .tuple #[.agg #[.int .i64 0, .string ⟨#[]⟩, .string ⟨#[]⟩, .string ⟨#[]⟩], .int .i64 (12)]) (by simp [results, Tryd.results11, go_sem, z0, z1, z2, z3]) rfl ⟨?_, hBZ⟩
  show CallRes l _
  unfold CallRes
  rw [unhide HQ]
  try rfl
set_option maxRecDepth 100000 in
set_option maxHeartbeats 8000000 in
theorem CallOf_3tf (s : ByteArray) (rl nl ll : List UInt8) (w : World) (hs : s.size ≤ 1000000) (hl1 : cutB s.data.toList = (wRead, rl, true)) (hl2 : cutB rl = (nl, ll, false)) :
    Calls Tryd.prog 11 #[.string s] w fun e w' => CallRes s.data.toList e ∧ Below w.heap.size w w' := by
  obtain ⟨l, hl⟩ : ∃ l, s.data.toList = l := ⟨_, rfl⟩
  rw [hl] at hl1 ⊢
  have hll : l.length = s.size := by rw [← hl, bsize]
  have k1 := cutB_len l
  rw [hl1] at k1
  have k2 := cutB_len rl
  rw [hl2] at k2
  dsimp only at k1 k2
  obtain ⟨r2, hr2⟩ : ∃ r, B rl = r := ⟨_, rfl⟩
  obtain ⟨r3, hr3⟩ : ∃ r, B nl = r := ⟨_, rfl⟩
  obtain ⟨r4, hr4⟩ : ∃ r, B ll = r := ⟨_, rfl⟩
  have HW : Hid (wordsC l = (⟨5, r3, ⟨#[]⟩, ⟨#[]⟩⟩, true)) := hide (by rw [words_of hl1 hl2, if_neg (by decide), if_neg (by decide), if_neg (by decide), if_pos rfl, hr3]; rfl)
  have hz3 : r3.size ≤ 1000000 := by rw [← hr3, lB_size]; omega
  have hz4 : r4.size ≤ 1000000 := by rw [← hr4, lB_size]; omega
  have hmx : (1000000 : Nat) ≤ maxLen := by decide
  obtain ⟨V, hV⟩ : ∃ V, V = w.alloc (.cells #[.int .i64 0, .string ⟨#[]⟩, .string ⟨#[]⟩, .string ⟨#[]⟩] 23) := ⟨_, rfl⟩
  have hB0 : Below w.heap.size w V := by rw [hV]; exact (Below.refl _ _).alloc (Nat.le_refl _) _
  have hX0 : V.heap[w.heap.size]? = some (.cells #[.int .i64 0, .string ⟨#[]⟩, .string ⟨#[]⟩, .string ⟨#[]⟩] 23 (0, 0)) := by rw [hV]; exact heap_alloc_new _ _
  have hw1 := word_any s V (by omega)
  rw [hl, hl1] at hw1
  dsimp only at hw1
  rw [show B wRead = ⟨#[114, 101, 97, 100]⟩ from rfl, hr2] at hw1
  have HW1 := hide hw1
  have HW2 : Hid (∀ W, Calls Tryd.prog 23 #[.string r2] W fun e w' => e = .returned (.tuple #[.string r3, .string r4, .bool false]) ∧ Below W.heap.size W w') := hide fun W => by
    have h := word_any r2 W (by rw [← hr2, lB_size]; omega)
    rw [← hr2, B_data, hl2] at h
    dsimp only at h
    rw [hr3, hr4] at h
    rw [← hr2]
    exact h
  have HX0 := hide hX0
  have HB0 := hide hB0
  have HV := hide hV
  have HZ := hide (And.intro hz3 (And.intro hz4 hmx))
  clear hw1 hl1 hl2 hX0 hB0 hV k1 k2 hll hs hl hr2 hr3 hr4 hz3 hz4 hmx
  go_enter Tryd.func11, Tryd.ntmps11
  go_wp2_with fail
  rw [← unhide HV]
  refine (unhide HW1).mono ?_
  rintro e w1 ⟨rfl, b1⟩
  have HX1 := hide ((b1.block _ (Array.getElem?_eq_some_iff.1 (unhide HX0)).1).trans (unhide HX0))
  have HB1 := hide ((unhide HB0).trans (b1.mono (unhide HB0).size))
  clear b1 HW1 HX0 HB0 HV
  --@A1@
  go_wp2_with fail
  refine ((unhide HW2) w1).mono ?_
  rintro e w2 ⟨rfl, b2⟩
  have hX2 := (b2.block _ (Array.getElem?_eq_some_iff.1 (unhide HX1)).1).trans (unhide HX1)
  have hXl : w.heap.size < w2.heap.size := (Array.getElem?_eq_some_iff.1 hX2).1
  have hB2 := (unhide HB1).trans (b2.mono (unhide HB1).size)
  obtain ⟨V3, hV3⟩ : ∃ V3, V3 = w2.alloc (.cells #[.int .i64 5, .string r3, .string ⟨#[]⟩, .string ⟨#[]⟩] 23) := ⟨_, rfl⟩
  have hC3 : V3.heap[w2.heap.size]? = some (.cells #[.int .i64 5, .string r3, .string ⟨#[]⟩, .string ⟨#[]⟩] 23 (0, 0)) := by rw [hV3]; exact heap_alloc_new _ _
  have hX3 : V3.heap[w.heap.size]? = some (.cells #[.int .i64 0, .string ⟨#[]⟩, .string ⟨#[]⟩, .string ⟨#[]⟩] 23 (0, 0)) := by rw [hV3, Below.heap_alloc _ _ _ hXl]; exact hX2
  have hB3 : Below w.heap.size w V3 := by rw [hV3]; exact hB2.alloc (by omega) _
  clear b2 HW2 HX1 HB1 hX2 hB2
  obtain ⟨code, hcode⟩ : ∃ c, checkI ⟨5, r3, ⟨#[]⟩, ⟨#[]⟩⟩ = c := ⟨_, rfl⟩
  have HQ0 : Hid (aParse l = if code ≠ 0 then (noCall, code) else (⟨5, r3, ⟨#[]⟩, ⟨#[]⟩⟩, 0)) := hide (by unfold aParse; rw [unhide HW, ← hcode]; rfl)
  have hZ := unhide HZ
  have hze : (⟨#[]⟩ : ByteArray).size ≤ maxLen := by decide
  have hcf := CallFault_any 5 r3 ⟨#[]⟩ ⟨#[]⟩ V3 (by omega) (by first | omega | exact hze) (by first | omega | exact hze)
  rw [hcode] at hcf
  have HCF := hide hcf
  have HXn := hide hX3
  have HBn := hide hB3
  have HCn := hide hC3
  obtain ⟨y0, y1, y2, y3, _⟩ := fourK hC3
  have HVn : Hid (V3 = w2.alloc (.cells #[.int .i64 5, .string r3, .string ⟨#[]⟩, .string ⟨#[]⟩] 23)) := hide (by rw [hV3])
  rw [unhide HVn] at y0 y1 y2 y3
  clear hcf hcode hZ hze HW hC3 hX3 hB3 hV3
  --@A2@
  go_wp2_with fail
  --@A3@
  rw [← unhide HVn]
  refine (unhide HCF).mono ?_
  rintro e w5 ⟨rfl, b5⟩
  have hX5 := (b5.block _ (Array.getElem?_eq_some_iff.1 (unhide HXn)).1).trans (unhide HXn)
  have hC5 := (b5.block _ (Array.getElem?_eq_some_iff.1 (unhide HCn)).1).trans (unhide HCn)
  have HB5 := hide ((unhide HBn).trans (b5.mono (unhide HBn).size))
  obtain ⟨u0, u1, u2, u3, _⟩ := fourK hC5
  clear b5 hC5 y0 y1 y2 y3  HXn HBn HCn HVn HCF
  by_cases hc : code = 0
  · subst hc
    have HQ : Hid (aParse l = (⟨5, r3, ⟨#[]⟩, ⟨#[]⟩⟩, 0)) := hide (unhide HQ0)
    clear HQ0
    obtain ⟨hz, hBZ⟩ := store4 hX5 (unhide HB5) (.int .i64 5) (.string r3) (.string ⟨#[]⟩) (.string ⟨#[]⟩)
    obtain ⟨V9, hV9⟩ : ∃ V9, V9 = w5.setRow w.heap.size #[.int .i64 5, .string r3, .string ⟨#[]⟩, .string ⟨#[]⟩] := ⟨_, rfl⟩
    rw [← hV9] at hz hBZ
    obtain ⟨z0, z1, z2, z3, _⟩ := fourK hz
    clear hz
    --@E@
    go_wp2_with (refine wpList_store_row rfl 23 _ _ rfl w.heap.size #[.int .i64 5, .string r3, .string ⟨#[]⟩, .string ⟨#[]⟩] rfl rfl 23 _ hX5 info23s rfl (by simp [Value.oneCell']) ?_)
    rw [← hV9]
    refine bodyPost_ret (v := .tuple #[.agg #[.int .i64 5, .string r3, .string ⟨#[]⟩, .string ⟨#[]⟩], .int .i64 (0)]) (by simp [results, Tryd.results11, go_sem, z0, z1, z2, z3]) rfl ⟨?_, hBZ⟩
    show CallRes l _
    unfold CallRes
    rw [unhide HQ]
    try rfl
  · have HQ : Hid (aParse l = (noCall, code)) := hide (by rw [unhide HQ0, if_pos hc])
    have hne : (code != 0) = true := by simpa using hc
    clear HQ0 hc
    obtain ⟨hz, hBZ⟩ := store4 hX5 (unhide HB5) (.int .i64 0) (.string ⟨#[]⟩) (.string ⟨#[]⟩) (.string ⟨#[]⟩)
    obtain ⟨V9, hV9⟩ : ∃ V9, V9 = w5.setRow w.heap.size #[.int .i64 0, .string ⟨#[]⟩, .string ⟨#[]⟩, .string ⟨#[]⟩] := ⟨_, rfl⟩
    rw [← hV9] at hz hBZ
    obtain ⟨z0, z1, z2, z3, _⟩ := fourK hz
    clear hz
    --@E@
    go_wp2_with (refine wpList_store_row rfl 23 _ _ rfl w.heap.size #[.int .i64 0, .string ⟨#[]⟩, .string ⟨#[]⟩, .string ⟨#[]⟩] rfl rfl 23 _ hX5 info23s rfl (by simp [Value.oneCell']) ?_)
    rw [← hV9]
    refine bodyPost_ret (v := .tuple #[.agg #[.int .i64 0, .string ⟨#[]⟩, .string ⟨#[]⟩, .string ⟨#[]⟩], .int .i64 (code)]) (by simp [results, Tryd.results11, go_sem, z0, z1, z2, z3]) rfl ⟨?_, hBZ⟩
    show CallRes l _
    unfold CallRes
    rw [unhide HQ]
    try rfl
set_option maxRecDepth 100000 in
set_option maxHeartbeats 8000000 in
theorem CallOf_3tt (s : ByteArray) (rl nl ll : List UInt8) (w : World) (hs : s.size ≤ 1000000) (hl1 : cutB s.data.toList = (wRead, rl, true)) (hl2 : cutB rl = (nl, ll, true)) :
    Calls Tryd.prog 11 #[.string s] w fun e w' => CallRes s.data.toList e ∧ Below w.heap.size w w' := by
  obtain ⟨l, hl⟩ : ∃ l, s.data.toList = l := ⟨_, rfl⟩
  rw [hl] at hl1 ⊢
  have hll : l.length = s.size := by rw [← hl, bsize]
  have k1 := cutB_len l
  rw [hl1] at k1
  have k2 := cutB_len rl
  rw [hl2] at k2
  dsimp only at k1 k2
  obtain ⟨r2, hr2⟩ : ∃ r, B rl = r := ⟨_, rfl⟩
  obtain ⟨r3, hr3⟩ : ∃ r, B nl = r := ⟨_, rfl⟩
  obtain ⟨r4, hr4⟩ : ∃ r, B ll = r := ⟨_, rfl⟩
  have HW : Hid (wordsC l = (⟨5, r3, ⟨#[]⟩, ⟨#[]⟩⟩, false)) := hide (by rw [words_of hl1 hl2, if_neg (by decide), if_neg (by decide), if_neg (by decide), if_pos rfl, hr3]; rfl)
  have hz3 : r3.size ≤ 1000000 := by rw [← hr3, lB_size]; omega
  have hz4 : r4.size ≤ 1000000 := by rw [← hr4, lB_size]; omega
  have hmx : (1000000 : Nat) ≤ maxLen := by decide
  obtain ⟨V, hV⟩ : ∃ V, V = w.alloc (.cells #[.int .i64 0, .string ⟨#[]⟩, .string ⟨#[]⟩, .string ⟨#[]⟩] 23) := ⟨_, rfl⟩
  have hB0 : Below w.heap.size w V := by rw [hV]; exact (Below.refl _ _).alloc (Nat.le_refl _) _
  have hX0 : V.heap[w.heap.size]? = some (.cells #[.int .i64 0, .string ⟨#[]⟩, .string ⟨#[]⟩, .string ⟨#[]⟩] 23 (0, 0)) := by rw [hV]; exact heap_alloc_new _ _
  have hw1 := word_any s V (by omega)
  rw [hl, hl1] at hw1
  dsimp only at hw1
  rw [show B wRead = ⟨#[114, 101, 97, 100]⟩ from rfl, hr2] at hw1
  have HW1 := hide hw1
  have HW2 : Hid (∀ W, Calls Tryd.prog 23 #[.string r2] W fun e w' => e = .returned (.tuple #[.string r3, .string r4, .bool true]) ∧ Below W.heap.size W w') := hide fun W => by
    have h := word_any r2 W (by rw [← hr2, lB_size]; omega)
    rw [← hr2, B_data, hl2] at h
    dsimp only at h
    rw [hr3, hr4] at h
    rw [← hr2]
    exact h
  have HX0 := hide hX0
  have HB0 := hide hB0
  have HV := hide hV
  have HZ := hide (And.intro hz3 (And.intro hz4 hmx))
  clear hw1 hl1 hl2 hX0 hB0 hV k1 k2 hll hs hl hr2 hr3 hr4 hz3 hz4 hmx
  go_enter Tryd.func11, Tryd.ntmps11
  go_wp2_with fail
  rw [← unhide HV]
  refine (unhide HW1).mono ?_
  rintro e w1 ⟨rfl, b1⟩
  have HX1 := hide ((b1.block _ (Array.getElem?_eq_some_iff.1 (unhide HX0)).1).trans (unhide HX0))
  have HB1 := hide ((unhide HB0).trans (b1.mono (unhide HB0).size))
  clear b1 HW1 HX0 HB0 HV
  --@A1@
  go_wp2_with fail
  refine ((unhide HW2) w1).mono ?_
  rintro e w2 ⟨rfl, b2⟩
  have hX2 := (b2.block _ (Array.getElem?_eq_some_iff.1 (unhide HX1)).1).trans (unhide HX1)
  have hXl : w.heap.size < w2.heap.size := (Array.getElem?_eq_some_iff.1 hX2).1
  have hB2 := (unhide HB1).trans (b2.mono (unhide HB1).size)
  obtain ⟨V3, hV3⟩ : ∃ V3, V3 = w2.alloc (.cells #[.int .i64 5, .string r3, .string ⟨#[]⟩, .string ⟨#[]⟩] 23) := ⟨_, rfl⟩
  have hC3 : V3.heap[w2.heap.size]? = some (.cells #[.int .i64 5, .string r3, .string ⟨#[]⟩, .string ⟨#[]⟩] 23 (0, 0)) := by rw [hV3]; exact heap_alloc_new _ _
  have hX3 : V3.heap[w.heap.size]? = some (.cells #[.int .i64 0, .string ⟨#[]⟩, .string ⟨#[]⟩, .string ⟨#[]⟩] 23 (0, 0)) := by rw [hV3, Below.heap_alloc _ _ _ hXl]; exact hX2
  have hB3 : Below w.heap.size w V3 := by rw [hV3]; exact hB2.alloc (by omega) _
  clear b2 HW2 HX1 HB1 hX2 hB2
  have HQ : Hid (aParse l = (noCall, 12)) := hide (by unfold aParse; rw [unhide HW]; rfl)
  rw [hV3] at hX3 hB3 
  have hXs := hX3
  have HBs := hide hB3
  clear HW hC3 hX3 hB3
  obtain ⟨hz, hBZ⟩ := store4 hXs (unhide HBs) (.int .i64 0) (.string ⟨#[]⟩) (.string ⟨#[]⟩) (.string ⟨#[]⟩)
  obtain ⟨V9, hV9⟩ : ∃ V9, V9 = (w2.alloc (.cells #[.int .i64 5, .string r3, .string ⟨#[]⟩, .string ⟨#[]⟩] 23)).setRow w.heap.size #[.int .i64 0, .string ⟨#[]⟩, .string ⟨#[]⟩, .string ⟨#[]⟩] := ⟨_, rfl⟩
  rw [← hV9] at hz hBZ
  obtain ⟨z0, z1, z2, z3, _⟩ := fourK hz
  clear hz
  --@E@
  go_wp2_with (refine wpList_store_row rfl 23 _ _ rfl w.heap.size #[.int .i64 0, .string ⟨#[]⟩, .string ⟨#[]⟩, .string ⟨#[]⟩] rfl rfl 23 _ hXs info23s rfl (by simp [Value.oneCell']) ?_)
  rw [← hV9]
  refine bodyPost_ret (v := .tuple #[.agg #[.int .i64 0, .string ⟨#[]⟩, .string ⟨#[]⟩, .string ⟨#[]⟩], .int .i64 (12)]) (by simp [results, Tryd.results11, go_sem, z0, z1, z2, z3]) rfl ⟨?_, hBZ⟩
  show CallRes l _
  unfold CallRes
  rw [unhide HQ]
  try rfl

end Go.Proofs.YtkbdaiopahmfiacDoor

namespace Go.Proofs.YtkbdaiopahmfiacDoor
open Go.RowKit
set_option linter.unusedSimpArgs false
set_option linter.unusedVariables false

set_option maxRecDepth 100000 in
set_option maxHeartbeats 8000000 in
theorem CallOf_4ff (s : ByteArray) (rl nl ll : List UInt8) (w : World) (hs : s.size ≤ 1000000) (hl1 : cutB s.data.toList = (wRename, rl, false)) (hl2 : cutB rl = (nl, ll, false)) :
    Calls Tryd.prog 11 #[.string s] w fun e w' => CallRes s.data.toList e ∧ Below w.heap.size w w' := by
  obtain ⟨l, hl⟩ : ∃ l, s.data.toList = l := ⟨_, rfl⟩
  rw [hl] at hl1 ⊢
  have hll : l.length = s.size := by rw [← hl, bsize]
  have k1 := cutB_len l
  rw [hl1] at k1
  have k2 := cutB_len rl
  rw [hl2] at k2
  dsimp only at k1 k2
  obtain ⟨r2, hr2⟩ : ∃ r, B rl = r := ⟨_, rfl⟩
  obtain ⟨r3, hr3⟩ : ∃ r, B nl = r := ⟨_, rfl⟩
  obtain ⟨r4, hr4⟩ : ∃ r, B ll = r := ⟨_, rfl⟩
  have HW : Hid (wordsC l = (⟨3, r3, r4, ⟨#[]⟩⟩, false)) := hide (by rw [words_of hl1 hl2, if_neg (by decide), if_neg (by decide), if_neg (by decide), if_neg (by decide), if_pos rfl, hr3, hr4]; try rfl)
  have hz3 : r3.size ≤ 1000000 := by rw [← hr3, lB_size]; omega
  have hz4 : r4.size ≤ 1000000 := by rw [← hr4, lB_size]; omega
  have hmx : (1000000 : Nat) ≤ maxLen := by decide
  obtain ⟨V, hV⟩ : ∃ V, V = w.alloc (.cells #[.int .i64 0, .string ⟨#[]⟩, .string ⟨#[]⟩, .string ⟨#[]⟩] 23) := ⟨_, rfl⟩
  have hB0 : Below w.heap.size w V := by rw [hV]; exact (Below.refl _ _).alloc (Nat.le_refl _) _
  have hX0 : V.heap[w.heap.size]? = some (.cells #[.int .i64 0, .string ⟨#[]⟩, .string ⟨#[]⟩, .string ⟨#[]⟩] 23 (0, 0)) := by rw [hV]; exact heap_alloc_new _ _
  have hw1 := word_any s V (by omega)
  rw [hl, hl1] at hw1
  dsimp only at hw1
  rw [show B wRename = ⟨#[114, 101, 110, 97, 109, 101]⟩ from rfl, hr2] at hw1
  have HW1 := hide hw1
  have HW2 : Hid (∀ W, Calls Tryd.prog 23 #[.string r2] W fun e w' => e = .returned (.tuple #[.string r3, .string r4, .bool false]) ∧ Below W.heap.size W w') := hide fun W => by
    have h := word_any r2 W (by rw [← hr2, lB_size]; omega)
    rw [← hr2, B_data, hl2] at h
    dsimp only at h
    rw [hr3, hr4] at h
    rw [← hr2]
    exact h
  have HX0 := hide hX0
  have HB0 := hide hB0
  have HV := hide hV
  have HZ := hide (And.intro hz3 (And.intro hz4 hmx))
  clear hw1 hl1 hl2 hX0 hB0 hV k1 k2 hll hs hl hr2 hr3 hr4 hz3 hz4 hmx
  go_enter Tryd.func11, Tryd.ntmps11
  go_wp2_with fail
  rw [← unhide HV]
  refine (unhide HW1).mono ?_
  rintro e w1 ⟨rfl, b1⟩
  have HX1 := hide ((b1.block _ (Array.getElem?_eq_some_iff.1 (unhide HX0)).1).trans (unhide HX0))
  have HB1 := hide ((unhide HB0).trans (b1.mono (unhide HB0).size))
  clear b1 HW1 HX0 HB0 HV
  --@A1@
  go_wp2_with fail
  refine ((unhide HW2) w1).mono ?_
  rintro e w2 ⟨rfl, b2⟩
  have hX2 := (b2.block _ (Array.getElem?_eq_some_iff.1 (unhide HX1)).1).trans (unhide HX1)
  have hXl : w.heap.size < w2.heap.size := (Array.getElem?_eq_some_iff.1 hX2).1
  have hB2 := (unhide HB1).trans (b2.mono (unhide HB1).size)
  obtain ⟨V3, hV3⟩ : ∃ V3, V3 = w2.alloc (.cells #[.int .i64 3, .string r3, .string r4, .string ⟨#[]⟩] 23) := ⟨_, rfl⟩
  have hC3 : V3.heap[w2.heap.size]? = some (.cells #[.int .i64 3, .string r3, .string r4, .string ⟨#[]⟩] 23 (0, 0)) := by rw [hV3]; exact heap_alloc_new _ _
  have hX3 : V3.heap[w.heap.size]? = some (.cells #[.int .i64 0, .string ⟨#[]⟩, .string ⟨#[]⟩, .string ⟨#[]⟩] 23 (0, 0)) := by rw [hV3, Below.heap_alloc _ _ _ hXl]; exact hX2
  have hB3 : Below w.heap.size w V3 := by rw [hV3]; exact hB2.alloc (by omega) _
  clear b2 HW2 HX1 HB1 hX2 hB2
  have HQ : Hid (aParse l = (noCall, 12)) := hide (by unfold aParse; rw [unhide HW]; rfl)
  rw [hV3] at hX3 hB3 
  have hXs := hX3
  have HBs := hide hB3
  clear HW hC3 hX3 hB3
  obtain ⟨hz, hBZ⟩ := store4 hXs (unhide HBs) (.int .i64 0) (.string ⟨#[]⟩) (.string ⟨#[]⟩) (.string ⟨#[]⟩)
  obtain ⟨V9, hV9⟩ : ∃ V9, V9 = (w2.alloc (.cells #[.int .i64 3, .string r3, .string r4, .string ⟨#[]⟩] 23)).setRow w.heap.size #[.int .i64 0, .string ⟨#[]⟩, .string ⟨#[]⟩, .string ⟨#[]⟩] := ⟨_, rfl⟩
  rw [← hV9] at hz hBZ
  obtain ⟨z0, z1, z2, z3, _⟩ := fourK hz
  clear hz
  --@E@
  go_wp2_with (refine wpList_store_row rfl 23 _ _ rfl w.heap.size #[.int .i64 0, .string ⟨#[]⟩, .string ⟨#[]⟩, .string ⟨#[]⟩] rfl rfl 23 _ hXs info23s rfl (by simp [Value.oneCell']) ?_)
  rw [← hV9]
  refine bodyPost_ret (v := .tuple #[.agg #[.int .i64 0, .string ⟨#[]⟩, .string ⟨#[]⟩, .string ⟨#[]⟩], .int .i64 (12)]) (by simp [results, Tryd.results11, go_sem, z0, z1, z2, z3]) rfl ⟨?_, hBZ⟩
  show CallRes l _
  unfold CallRes
  rw [unhide HQ]
  try rfl
set_option maxRecDepth 100000 in
set_option maxHeartbeats 8000000 in
theorem CallOf_4tf (s : ByteArray) (rl nl ll : List UInt8) (w : World) (hs : s.size ≤ 1000000) (hl1 : cutB s.data.toList = (wRename, rl, true)) (hl2 : cutB rl = (nl, ll, false)) :
    Calls Tryd.prog 11 #[.string s] w fun e w' => CallRes s.data.toList e ∧ Below w.heap.size w w' := by
  obtain ⟨l, hl⟩ : ∃ l, s.data.toList = l := ⟨_, rfl⟩
  rw [hl] at hl1 ⊢
  have hll : l.length = s.size := by rw [← hl, bsize]
  have k1 := cutB_len l
  rw [hl1] at k1
  have k2 := cutB_len rl
  rw [hl2] at k2
  dsimp only at k1 k2
  obtain ⟨r2, hr2⟩ : ∃ r, B rl = r := ⟨_, rfl⟩
  obtain ⟨r3, hr3⟩ : ∃ r, B nl = r := ⟨_, rfl⟩
  obtain ⟨r4, hr4⟩ : ∃ r, B ll = r := ⟨_, rfl⟩
  have HW : Hid (wordsC l = (⟨3, r3, r4, ⟨#[]⟩⟩, false)) := hide (by rw [words_of hl1 hl2, if_neg (by decide), if_neg (by decide), if_neg (by decide), if_neg (by decide), if_pos rfl, hr3, hr4]; try rfl)
  have hz3 : r3.size ≤ 1000000 := by rw [← hr3, lB_size]; omega
  have hz4 : r4.size ≤ 1000000 := by rw [← hr4, lB_size]; omega
  have hmx : (1000000 : Nat) ≤ maxLen := by decide
  obtain ⟨V, hV⟩ : ∃ V, V = w.alloc (.cells #[.int .i64 0, .string ⟨#[]⟩, .string ⟨#[]⟩, .string ⟨#[]⟩] 23) := ⟨_, rfl⟩
  have hB0 : Below w.heap.size w V := by rw [hV]; exact (Below.refl _ _).alloc (Nat.le_refl _) _
  have hX0 : V.heap[w.heap.size]? = some (.cells #[.int .i64 0, .string ⟨#[]⟩, .string ⟨#[]⟩, .string ⟨#[]⟩] 23 (0, 0)) := by rw [hV]; exact heap_alloc_new _ _
  have hw1 := word_any s V (by omega)
  rw [hl, hl1] at hw1
  dsimp only at hw1
  rw [show B wRename = ⟨#[114, 101, 110, 97, 109, 101]⟩ from rfl, hr2] at hw1
  have HW1 := hide hw1
  have HW2 : Hid (∀ W, Calls Tryd.prog 23 #[.string r2] W fun e w' => e = .returned (.tuple #[.string r3, .string r4, .bool false]) ∧ Below W.heap.size W w') := hide fun W => by
    have h := word_any r2 W (by rw [← hr2, lB_size]; omega)
    rw [← hr2, B_data, hl2] at h
    dsimp only at h
    rw [hr3, hr4] at h
    rw [← hr2]
    exact h
  have HX0 := hide hX0
  have HB0 := hide hB0
  have HV := hide hV
  have HZ := hide (And.intro hz3 (And.intro hz4 hmx))
  clear hw1 hl1 hl2 hX0 hB0 hV k1 k2 hll hs hl hr2 hr3 hr4 hz3 hz4 hmx
  go_enter Tryd.func11, Tryd.ntmps11
  go_wp2_with fail
  rw [← unhide HV]
  refine (unhide HW1).mono ?_
  rintro e w1 ⟨rfl, b1⟩
  have HX1 := hide ((b1.block _ (Array.getElem?_eq_some_iff.1 (unhide HX0)).1).trans (unhide HX0))
  have HB1 := hide ((unhide HB0).trans (b1.mono (unhide HB0).size))
  clear b1 HW1 HX0 HB0 HV
  --@A1@
  go_wp2_with fail
  refine ((unhide HW2) w1).mono ?_
  rintro e w2 ⟨rfl, b2⟩
  have hX2 := (b2.block _ (Array.getElem?_eq_some_iff.1 (unhide HX1)).1).trans (unhide HX1)
  have hXl : w.heap.size < w2.heap.size := (Array.getElem?_eq_some_iff.1 hX2).1
  have hB2 := (unhide HB1).trans (b2.mono (unhide HB1).size)
  obtain ⟨V3, hV3⟩ : ∃ V3, V3 = w2.alloc (.cells #[.int .i64 3, .string r3, .string r4, .string ⟨#[]⟩] 23) := ⟨_, rfl⟩
  have hC3 : V3.heap[w2.heap.size]? = some (.cells #[.int .i64 3, .string r3, .string r4, .string ⟨#[]⟩] 23 (0, 0)) := by rw [hV3]; exact heap_alloc_new _ _
  have hX3 : V3.heap[w.heap.size]? = some (.cells #[.int .i64 0, .string ⟨#[]⟩, .string ⟨#[]⟩, .string ⟨#[]⟩] 23 (0, 0)) := by rw [hV3, Below.heap_alloc _ _ _ hXl]; exact hX2
  have hB3 : Below w.heap.size w V3 := by rw [hV3]; exact hB2.alloc (by omega) _
  clear b2 HW2 HX1 HB1 hX2 hB2
  have HQ : Hid (aParse l = (noCall, 12)) := hide (by unfold aParse; rw [unhide HW]; rfl)
  rw [hV3] at hX3 hB3 
  have hXs := hX3
  have HBs := hide hB3
  clear HW hC3 hX3 hB3
  obtain ⟨hz, hBZ⟩ := store4 hXs (unhide HBs) (.int .i64 0) (.string ⟨#[]⟩) (.string ⟨#[]⟩) (.string ⟨#[]⟩)
  obtain ⟨V9, hV9⟩ : ∃ V9, V9 = (w2.alloc (.cells #[.int .i64 3, .string r3, .string r4, .string ⟨#[]⟩] 23)).setRow w.heap.size #[.int .i64 0, .string ⟨#[]⟩, .string ⟨#[]⟩, .string ⟨#[]⟩] := ⟨_, rfl⟩
  rw [← hV9] at hz hBZ
  obtain ⟨z0, z1, z2, z3, _⟩ := fourK hz
  clear hz
  --@E@
  go_wp2_with (refine wpList_store_row rfl 23 _ _ rfl w.heap.size #[.int .i64 0, .string ⟨#[]⟩, .string ⟨#[]⟩, .string ⟨#[]⟩] rfl rfl 23 _ hXs info23s rfl (by simp [Value.oneCell']) ?_)
  rw [← hV9]
  refine bodyPost_ret (v := .tuple #[.agg #[.int .i64 0, .string ⟨#[]⟩, .string ⟨#[]⟩, .string ⟨#[]⟩], .int .i64 (12)]) (by simp [results, Tryd.results11, go_sem, z0, z1, z2, z3]) rfl ⟨?_, hBZ⟩
  show CallRes l _
  unfold CallRes
  rw [unhide HQ]
  try rfl
set_option maxRecDepth 100000 in
set_option maxHeartbeats 8000000 in
theorem CallOf_4tt (s : ByteArray) (rl nl ll : List UInt8) (w : World) (hs : s.size ≤ 1000000) (hl1 : cutB s.data.toList = (wRename, rl, true)) (hl2 : cutB rl = (nl, ll, true)) :
    Calls Tryd.prog 11 #[.string s] w fun e w' => CallRes s.data.toList e ∧ Below w.heap.size w w' := by
  obtain ⟨l, hl⟩ : ∃ l, s.data.toList = l := ⟨_, rfl⟩
  rw [hl] at hl1 ⊢
  have hll : l.length = s.size := by rw [← hl, bsize]
  have k1 := cutB_len l
  rw [hl1] at k1
  have k2 := cutB_len rl
  rw [hl2] at k2
  dsimp only at k1 k2
  obtain ⟨r2, hr2⟩ : ∃ r, B rl = r := ⟨_, rfl⟩
  obtain ⟨r3, hr3⟩ : ∃ r, B nl = r := ⟨_, rfl⟩
  obtain ⟨r4, hr4⟩ : ∃ r, B ll = r := ⟨_, rfl⟩
  have HW : Hid (wordsC l = (⟨3, r3, r4, ⟨#[]⟩⟩, true)) := hide (by rw [words_of hl1 hl2, if_neg (by decide), if_neg (by decide), if_neg (by decide), if_neg (by decide), if_pos rfl, hr3, hr4]; try rfl)
  have hz3 : r3.size ≤ 1000000 := by rw [← hr3, lB_size]; omega
  have hz4 : r4.size ≤ 1000000 := by rw [← hr4, lB_size]; omega
  have hmx : (1000000 : Nat) ≤ maxLen := by decide
  obtain ⟨V, hV⟩ : ∃ V, V = w.alloc (.cells #[.int .i64 0, .string ⟨#[]⟩, .string ⟨#[]⟩, .string ⟨#[]⟩] 23) := ⟨_, rfl⟩
  have hB0 : Below w.heap.size w V := by rw [hV]; exact (Below.refl _ _).alloc (Nat.le_refl _) _
  have hX0 : V.heap[w.heap.size]? = some (.cells #[.int .i64 0, .string ⟨#[]⟩, .string ⟨#[]⟩, .string ⟨#[]⟩] 23 (0, 0)) := by rw [hV]; exact heap_alloc_new _ _
  have hw1 := word_any s V (by omega)
  rw [hl, hl1] at hw1
  dsimp only at hw1
  rw [show B wRename = ⟨#[114, 101, 110, 97, 109, 101]⟩ from rfl, hr2] at hw1
  have HW1 := hide hw1
  have HW2 : Hid (∀ W, Calls Tryd.prog 23 #[.string r2] W fun e w' => e = .returned (.tuple #[.string r3, .string r4, .bool true]) ∧ Below W.heap.size W w') := hide fun W => by
    have h := word_any r2 W (by rw [← hr2, lB_size]; omega)
    rw [← hr2, B_data, hl2] at h
    dsimp only at h
    rw [hr3, hr4] at h
    rw [← hr2]
    exact h
  have HX0 := hide hX0
  have HB0 := hide hB0
  have HV := hide hV
  have HZ := hide (And.intro hz3 (And.intro hz4 hmx))
  clear hw1 hl1 hl2 hX0 hB0 hV k1 k2 hll hs hl hr2 hr3 hr4 hz3 hz4 hmx
  go_enter Tryd.func11, Tryd.ntmps11
  go_wp2_with fail
  rw [← unhide HV]
  refine (unhide HW1).mono ?_
  rintro e w1 ⟨rfl, b1⟩
  have HX1 := hide ((b1.block _ (Array.getElem?_eq_some_iff.1 (unhide HX0)).1).trans (unhide HX0))
  have HB1 := hide ((unhide HB0).trans (b1.mono (unhide HB0).size))
  clear b1 HW1 HX0 HB0 HV
  --@A1@
  go_wp2_with fail
  refine ((unhide HW2) w1).mono ?_
  rintro e w2 ⟨rfl, b2⟩
  have hX2 := (b2.block _ (Array.getElem?_eq_some_iff.1 (unhide HX1)).1).trans (unhide HX1)
  have hXl : w.heap.size < w2.heap.size := (Array.getElem?_eq_some_iff.1 hX2).1
  have hB2 := (unhide HB1).trans (b2.mono (unhide HB1).size)
  obtain ⟨V3, hV3⟩ : ∃ V3, V3 = w2.alloc (.cells #[.int .i64 3, .string r3, .string r4, .string ⟨#[]⟩] 23) := ⟨_, rfl⟩
  have hC3 : V3.heap[w2.heap.size]? = some (.cells #[.int .i64 3, .string r3, .string r4, .string ⟨#[]⟩] 23 (0, 0)) := by rw [hV3]; exact heap_alloc_new _ _
  have hX3 : V3.heap[w.heap.size]? = some (.cells #[.int .i64 0, .string ⟨#[]⟩, .string ⟨#[]⟩, .string ⟨#[]⟩] 23 (0, 0)) := by rw [hV3, Below.heap_alloc _ _ _ hXl]; exact hX2
  have hB3 : Below w.heap.size w V3 := by rw [hV3]; exact hB2.alloc (by omega) _
  clear b2 HW2 HX1 HB1 hX2 hB2
  obtain ⟨code, hcode⟩ : ∃ c, checkI ⟨3, r3, r4, ⟨#[]⟩⟩ = c := ⟨_, rfl⟩
  have HQ0 : Hid (aParse l = if code ≠ 0 then (noCall, code) else (⟨3, r3, r4, ⟨#[]⟩⟩, 0)) := hide (by unfold aParse; rw [unhide HW, ← hcode]; rfl)
  have hZ := unhide HZ
  have hze : (⟨#[]⟩ : ByteArray).size ≤ maxLen := by decide
  have hcf := CallFault_any 3 r3 r4 ⟨#[]⟩ V3 (by omega) (by first | omega | exact hze) (by first | omega | exact hze)
  rw [hcode] at hcf
  have HCF := hide hcf
  have HXn := hide hX3
  have HBn := hide hB3
  have HCn := hide hC3
  obtain ⟨y0, y1, y2, y3, _⟩ := fourK hC3
  have HVn : Hid (V3 = w2.alloc (.cells #[.int .i64 3, .string r3, .string r4, .string ⟨#[]⟩] 23)) := hide (by rw [hV3])
  rw [unhide HVn] at y0 y1 y2 y3
  clear hcf hcode hZ hze HW hC3 hX3 hB3 hV3
  --@A2@
  go_wp2_with fail
  --@A3@
  rw [← unhide HVn]
  refine (unhide HCF).mono ?_
  rintro e w5 ⟨rfl, b5⟩
  have hX5 := (b5.block _ (Array.getElem?_eq_some_iff.1 (unhide HXn)).1).trans (unhide HXn)
  have hC5 := (b5.block _ (Array.getElem?_eq_some_iff.1 (unhide HCn)).1).trans (unhide HCn)
  have HB5 := hide ((unhide HBn).trans (b5.mono (unhide HBn).size))
  obtain ⟨u0, u1, u2, u3, _⟩ := fourK hC5
  clear b5 hC5 y0 y1 y2 y3  HXn HBn HCn HVn HCF
  by_cases hc : code = 0
  · subst hc
    have HQ : Hid (aParse l = (⟨3, r3, r4, ⟨#[]⟩⟩, 0)) := hide (unhide HQ0)
    clear HQ0
    obtain ⟨hz, hBZ⟩ := store4 hX5 (unhide HB5) (.int .i64 3) (.string r3) (.string r4) (.string ⟨#[]⟩)
    obtain ⟨V9, hV9⟩ : ∃ V9, V9 = w5.setRow w.heap.size #[.int .i64 3, .string r3, .string r4, .string ⟨#[]⟩] := ⟨_, rfl⟩
    rw [← hV9] at hz hBZ
    obtain ⟨z0, z1, z2, z3, _⟩ := fourK hz
    clear hz
    --@E@
    go_wp2_with (refine wpList_store_row rfl 23 _ _ rfl w.heap.size #[.int .i64 3, .string r3, .string r4, .string ⟨#[]⟩] rfl rfl 23 _ hX5 info23s rfl (by simp [Value.oneCell']) ?_)
    rw [← hV9]
    refine bodyPost_ret (v := .tuple #[.agg #[.int .i64 3, .string r3, .string r4, .string ⟨#[]⟩], .int .i64 (0)]) (by simp [results, Tryd.results11, go_sem, z0, z1, z2, z3]) rfl ⟨?_, hBZ⟩
    show CallRes l _
    unfold CallRes
    rw [unhide HQ]
    try rfl
  · have HQ : Hid (aParse l = (noCall, code)) := hide (by rw [unhide HQ0, if_pos hc])
    have hne : (code != 0) = true := by simpa using hc
    clear HQ0 hc
    obtain ⟨hz, hBZ⟩ := store4 hX5 (unhide HB5) (.int .i64 0) (.string ⟨#[]⟩) (.string ⟨#[]⟩) (.string ⟨#[]⟩)
    obtain ⟨V9, hV9⟩ : ∃ V9, V9 = w5.setRow w.heap.size #[.int .i64 0, .string ⟨#[]⟩, .string ⟨#[]⟩, .string ⟨#[]⟩] := ⟨_, rfl⟩
    rw [← hV9] at hz hBZ
    obtain ⟨z0, z1, z2, z3, _⟩ := fourK hz
    clear hz
    --@E@
    go_wp2_with (refine wpList_store_row rfl 23 _ _ rfl w.heap.size #[.int .i64 0, .string ⟨#[]⟩, .string ⟨#[]⟩, .string ⟨#[]⟩] rfl rfl 23 _ hX5 info23s rfl (by simp [Value.oneCell']) ?_)
    rw [← hV9]
    refine bodyPost_ret (v := .tuple #[.agg #[.int .i64 0, .string ⟨#[]⟩, .string ⟨#[]⟩, .string ⟨#[]⟩], .int .i64 (code)]) (by simp [results, Tryd.results11, go_sem, z0, z1, z2, z3]) rfl ⟨?_, hBZ⟩
    show CallRes l _
    unfold CallRes
    rw [unhide HQ]
    try rfl

end Go.Proofs.YtkbdaiopahmfiacDoor

namespace Go.Proofs.YtkbdaiopahmfiacDoor
open Go.RowKit
set_option linter.unusedSimpArgs false
set_option linter.unusedVariables false

set_option maxRecDepth 100000 in
set_option maxHeartbeats 8000000 in
theorem CallOf_5ff (s : ByteArray) (rl nl ll : List UInt8) (w : World) (hs : s.size ≤ 1000000) (hl1 : cutB s.data.toList = (wAppend, rl, false)) (hl2 : cutB rl = (nl, ll, false)) :
    Calls Tryd.prog 11 #[.string s] w fun e w' => CallRes s.data.toList e ∧ Below w.heap.size w w' := by
  obtain ⟨l, hl⟩ : ∃ l, s.data.toList = l := ⟨_, rfl⟩
  rw [hl] at hl1 ⊢
  have hll : l.length = s.size := by rw [← hl, bsize]
  have k1 := cutB_len l
  rw [hl1] at k1
  have k2 := cutB_len rl
  rw [hl2] at k2
  dsimp only at k1 k2
  obtain ⟨r2, hr2⟩ : ∃ r, B rl = r := ⟨_, rfl⟩
  obtain ⟨r3, hr3⟩ : ∃ r, B nl = r := ⟨_, rfl⟩
  obtain ⟨r4, hr4⟩ : ∃ r, B ll = r := ⟨_, rfl⟩
  have HW : Hid (wordsC l = (⟨4, r3, ⟨#[]⟩, r4⟩, false)) := hide (by rw [words_of hl1 hl2, if_neg (by decide), if_neg (by decide), if_neg (by decide), if_neg (by decide), if_neg (by decide), if_pos rfl, hr3, hr4]; try rfl)
  have hz3 : r3.size ≤ 1000000 := by rw [← hr3, lB_size]; omega
  have hz4 : r4.size ≤ 1000000 := by rw [← hr4, lB_size]; omega
  have hmx : (1000000 : Nat) ≤ maxLen := by decide
  obtain ⟨V, hV⟩ : ∃ V, V = w.alloc (.cells #[.int .i64 0, .string ⟨#[]⟩, .string ⟨#[]⟩, .string ⟨#[]⟩] 23) := ⟨_, rfl⟩
  have hB0 : Below w.heap.size w V := by rw [hV]; exact (Below.refl _ _).alloc (Nat.le_refl _) _
  have hX0 : V.heap[w.heap.size]? = some (.cells #[.int .i64 0, .string ⟨#[]⟩, .string ⟨#[]⟩, .string ⟨#[]⟩] 23 (0, 0)) := by rw [hV]; exact heap_alloc_new _ _
  have hw1 := word_any s V (by omega)
  rw [hl, hl1] at hw1
  dsimp only at hw1
  rw [show B wAppend = ⟨#[97, 112, 112, 101, 110, 100]⟩ from rfl, hr2] at hw1
  have HW1 := hide hw1
  have HW2 : Hid (∀ W, Calls Tryd.prog 23 #[.string r2] W fun e w' => e = .returned (.tuple #[.string r3, .string r4, .bool false]) ∧ Below W.heap.size W w') := hide fun W => by
    have h := word_any r2 W (by rw [← hr2, lB_size]; omega)
    rw [← hr2, B_data, hl2] at h
    dsimp only at h
    rw [hr3, hr4] at h
    rw [← hr2]
    exact h
  have HX0 := hide hX0
  have HB0 := hide hB0
  have HV := hide hV
  have HZ := hide (And.intro hz3 (And.intro hz4 hmx))
  clear hw1 hl1 hl2 hX0 hB0 hV k1 k2 hll hs hl hr2 hr3 hr4 hz3 hz4 hmx
  go_enter Tryd.func11, Tryd.ntmps11
  go_wp2_with fail
  rw [← unhide HV]
  refine (unhide HW1).mono ?_
  rintro e w1 ⟨rfl, b1⟩
  have HX1 := hide ((b1.block _ (Array.getElem?_eq_some_iff.1 (unhide HX0)).1).trans (unhide HX0))
  have HB1 := hide ((unhide HB0).trans (b1.mono (unhide HB0).size))
  clear b1 HW1 HX0 HB0 HV
  --@A1@
  go_wp2_with fail
  refine ((unhide HW2) w1).mono ?_
  rintro e w2 ⟨rfl, b2⟩
  have hX2 := (b2.block _ (Array.getElem?_eq_some_iff.1 (unhide HX1)).1).trans (unhide HX1)
  have hXl : w.heap.size < w2.heap.size := (Array.getElem?_eq_some_iff.1 hX2).1
  have hB2 := (unhide HB1).trans (b2.mono (unhide HB1).size)
  obtain ⟨V3, hV3⟩ : ∃ V3, V3 = w2.alloc (.cells #[.int .i64 4, .string r3, .string ⟨#[]⟩, .string r4] 23) := ⟨_, rfl⟩
  have hC3 : V3.heap[w2.heap.size]? = some (.cells #[.int .i64 4, .string r3, .string ⟨#[]⟩, .string r4] 23 (0, 0)) := by rw [hV3]; exact heap_alloc_new _ _
  have hX3 : V3.heap[w.heap.size]? = some (.cells #[.int .i64 0, .string ⟨#[]⟩, .string ⟨#[]⟩, .string ⟨#[]⟩] 23 (0, 0)) := by rw [hV3, Below.heap_alloc _ _ _ hXl]; exact hX2
  have hB3 : Below w.heap.size w V3 := by rw [hV3]; exact hB2.alloc (by omega) _
  clear b2 HW2 HX1 HB1 hX2 hB2
  have HQ : Hid (aParse l = (noCall, 12)) := hide (by unfold aParse; rw [unhide HW]; rfl)
  rw [hV3] at hX3 hB3 
  have hXs := hX3
  have HBs := hide hB3
  clear HW hC3 hX3 hB3
  obtain ⟨hz, hBZ⟩ := store4 hXs (unhide HBs) (.int .i64 0) (.string ⟨#[]⟩) (.string ⟨#[]⟩) (.string ⟨#[]⟩)
  obtain ⟨V9, hV9⟩ : ∃ V9, V9 = (w2.alloc (.cells #[.int .i64 4, .string r3, .string ⟨#[]⟩, .string r4] 23)).setRow w.heap.size #[.int .i64 0, .string ⟨#[]⟩, .string ⟨#[]⟩, .string ⟨#[]⟩] := ⟨_, rfl⟩
  rw [← hV9] at hz hBZ
  obtain ⟨z0, z1, z2, z3, _⟩ := fourK hz
  clear hz
  --@E@
  go_wp2_with (refine wpList_store_row rfl 23 _ _ rfl w.heap.size #[.int .i64 0, .string ⟨#[]⟩, .string ⟨#[]⟩, .string ⟨#[]⟩] rfl rfl 23 _ hXs info23s rfl (by simp [Value.oneCell']) ?_)
  rw [← hV9]
  refine bodyPost_ret (v := .tuple #[.agg #[.int .i64 0, .string ⟨#[]⟩, .string ⟨#[]⟩, .string ⟨#[]⟩], .int .i64 (12)]) (by simp [results, Tryd.results11, go_sem, z0, z1, z2, z3]) rfl ⟨?_, hBZ⟩
  show CallRes l _
  unfold CallRes
  rw [unhide HQ]
  try rfl
set_option maxRecDepth 100000 in
set_option maxHeartbeats 8000000 in
theorem CallOf_5tf (s : ByteArray) (rl nl ll : List UInt8) (w : World) (hs : s.size ≤ 1000000) (hl1 : cutB s.data.toList = (wAppend, rl, true)) (hl2 : cutB rl = (nl, ll, false)) :
    Calls Tryd.prog 11 #[.string s] w fun e w' => CallRes s.data.toList e ∧ Below w.heap.size w w' := by
  obtain ⟨l, hl⟩ : ∃ l, s.data.toList = l := ⟨_, rfl⟩
  rw [hl] at hl1 ⊢
  have hll : l.length = s.size := by rw [← hl, bsize]
  have k1 := cutB_len l
  rw [hl1] at k1
  have k2 := cutB_len rl
  rw [hl2] at k2
  dsimp only at k1 k2
  obtain ⟨r2, hr2⟩ : ∃ r, B rl = r := ⟨_, rfl⟩
  obtain ⟨r3, hr3⟩ : ∃ r, B nl = r := ⟨_, rfl⟩
  obtain ⟨r4, hr4⟩ : ∃ r, B ll = r := ⟨_, rfl⟩
  have HW : Hid (wordsC l = (⟨4, r3, ⟨#[]⟩, r4⟩, false)) := hide (by rw [words_of hl1 hl2, if_neg (by decide), if_neg (by decide), if_neg (by decide), if_neg (by decide), if_neg (by decide), if_pos rfl, hr3, hr4]; try rfl)
  have hz3 : r3.size ≤ 1000000 := by rw [← hr3, lB_size]; omega
  have hz4 : r4.size ≤ 1000000 := by rw [← hr4, lB_size]; omega
  have hmx : (1000000 : Nat) ≤ maxLen := by decide
  obtain ⟨V, hV⟩ : ∃ V, V = w.alloc (.cells #[.int .i64 0, .string ⟨#[]⟩, .string ⟨#[]⟩, .string ⟨#[]⟩] 23) := ⟨_, rfl⟩
  have hB0 : Below w.heap.size w V := by rw [hV]; exact (Below.refl _ _).alloc (Nat.le_refl _) _
  have hX0 : V.heap[w.heap.size]? = some (.cells #[.int .i64 0, .string ⟨#[]⟩, .string ⟨#[]⟩, .string ⟨#[]⟩] 23 (0, 0)) := by rw [hV]; exact heap_alloc_new _ _
  have hw1 := word_any s V (by omega)
  rw [hl, hl1] at hw1
  dsimp only at hw1
  rw [show B wAppend = ⟨#[97, 112, 112, 101, 110, 100]⟩ from rfl, hr2] at hw1
  have HW1 := hide hw1
  have HW2 : Hid (∀ W, Calls Tryd.prog 23 #[.string r2] W fun e w' => e = .returned (.tuple #[.string r3, .string r4, .bool false]) ∧ Below W.heap.size W w') := hide fun W => by
    have h := word_any r2 W (by rw [← hr2, lB_size]; omega)
    rw [← hr2, B_data, hl2] at h
    dsimp only at h
    rw [hr3, hr4] at h
    rw [← hr2]
    exact h
  have HX0 := hide hX0
  have HB0 := hide hB0
  have HV := hide hV
  have HZ := hide (And.intro hz3 (And.intro hz4 hmx))
  clear hw1 hl1 hl2 hX0 hB0 hV k1 k2 hll hs hl hr2 hr3 hr4 hz3 hz4 hmx
  go_enter Tryd.func11, Tryd.ntmps11
  go_wp2_with fail
  rw [← unhide HV]
  refine (unhide HW1).mono ?_
  rintro e w1 ⟨rfl, b1⟩
  have HX1 := hide ((b1.block _ (Array.getElem?_eq_some_iff.1 (unhide HX0)).1).trans (unhide HX0))
  have HB1 := hide ((unhide HB0).trans (b1.mono (unhide HB0).size))
  clear b1 HW1 HX0 HB0 HV
  --@A1@
  go_wp2_with fail
  refine ((unhide HW2) w1).mono ?_
  rintro e w2 ⟨rfl, b2⟩
  have hX2 := (b2.block _ (Array.getElem?_eq_some_iff.1 (unhide HX1)).1).trans (unhide HX1)
  have hXl : w.heap.size < w2.heap.size := (Array.getElem?_eq_some_iff.1 hX2).1
  have hB2 := (unhide HB1).trans (b2.mono (unhide HB1).size)
  obtain ⟨V3, hV3⟩ : ∃ V3, V3 = w2.alloc (.cells #[.int .i64 4, .string r3, .string ⟨#[]⟩, .string r4] 23) := ⟨_, rfl⟩
  have hC3 : V3.heap[w2.heap.size]? = some (.cells #[.int .i64 4, .string r3, .string ⟨#[]⟩, .string r4] 23 (0, 0)) := by rw [hV3]; exact heap_alloc_new _ _
  have hX3 : V3.heap[w.heap.size]? = some (.cells #[.int .i64 0, .string ⟨#[]⟩, .string ⟨#[]⟩, .string ⟨#[]⟩] 23 (0, 0)) := by rw [hV3, Below.heap_alloc _ _ _ hXl]; exact hX2
  have hB3 : Below w.heap.size w V3 := by rw [hV3]; exact hB2.alloc (by omega) _
  clear b2 HW2 HX1 HB1 hX2 hB2
  have HQ : Hid (aParse l = (noCall, 12)) := hide (by unfold aParse; rw [unhide HW]; rfl)
  rw [hV3] at hX3 hB3 
  have hXs := hX3
  have HBs := hide hB3
  clear HW hC3 hX3 hB3
  obtain ⟨hz, hBZ⟩ := store4 hXs (unhide HBs) (.int .i64 0) (.string ⟨#[]⟩) (.string ⟨#[]⟩) (.string ⟨#[]⟩)
  obtain ⟨V9, hV9⟩ : ∃ V9, V9 = (w2.alloc (.cells #[.int .i64 4, .string r3, .string ⟨#[]⟩, .string r4] 23)).setRow w.heap.size #[.int .i64 0, .string ⟨#[]⟩, .string ⟨#[]⟩, .string ⟨#[]⟩] := ⟨_, rfl⟩
  rw [← hV9] at hz hBZ
  obtain ⟨z0, z1, z2, z3, _⟩ := fourK hz
  clear hz
  --@E@
  go_wp2_with (refine wpList_store_row rfl 23 _ _ rfl w.heap.size #[.int .i64 0, .string ⟨#[]⟩, .string ⟨#[]⟩, .string ⟨#[]⟩] rfl rfl 23 _ hXs info23s rfl (by simp [Value.oneCell']) ?_)
  rw [← hV9]
  refine bodyPost_ret (v := .tuple #[.agg #[.int .i64 0, .string ⟨#[]⟩, .string ⟨#[]⟩, .string ⟨#[]⟩], .int .i64 (12)]) (by simp [results, Tryd.results11, go_sem, z0, z1, z2, z3]) rfl ⟨?_, hBZ⟩
  show CallRes l _
  unfold CallRes
  rw [unhide HQ]
  try rfl
set_option maxRecDepth 100000 in
set_option maxHeartbeats 8000000 in
theorem CallOf_5tt (s : ByteArray) (rl nl ll : List UInt8) (w : World) (hs : s.size ≤ 1000000) (hl1 : cutB s.data.toList = (wAppend, rl, true)) (hl2 : cutB rl = (nl, ll, true)) :
    Calls Tryd.prog 11 #[.string s] w fun e w' => CallRes s.data.toList e ∧ Below w.heap.size w w' := by
  obtain ⟨l, hl⟩ : ∃ l, s.data.toList = l := ⟨_, rfl⟩
  rw [hl] at hl1 ⊢
  have hll : l.length = s.size := by rw [← hl, bsize]
  have k1 := cutB_len l
  rw [hl1] at k1
  have k2 := cutB_len rl
  rw [hl2] at k2
  dsimp only at k1 k2
  obtain ⟨r2, hr2⟩ : ∃ r, B rl = r := ⟨_, rfl⟩
  obtain ⟨r3, hr3⟩ : ∃ r, B nl = r := ⟨_, rfl⟩
  obtain ⟨r4, hr4⟩ : ∃ r, B ll = r := ⟨_, rfl⟩
  have HW : Hid (wordsC l = (⟨4, r3, ⟨#[]⟩, r4⟩, true)) := hide (by rw [words_of hl1 hl2, if_neg (by decide), if_neg (by decide), if_neg (by decide), if_neg (by decide), if_neg (by decide), if_pos rfl, hr3, hr4]; try rfl)
  have hz3 : r3.size ≤ 1000000 := by rw [← hr3, lB_size]; omega
  have hz4 : r4.size ≤ 1000000 := by rw [← hr4, lB_size]; omega
  have hmx : (1000000 : Nat) ≤ maxLen := by decide
  obtain ⟨V, hV⟩ : ∃ V, V = w.alloc (.cells #[.int .i64 0, .string ⟨#[]⟩, .string ⟨#[]⟩, .string ⟨#[]⟩] 23) := ⟨_, rfl⟩
  have hB0 : Below w.heap.size w V := by rw [hV]; exact (Below.refl _ _).alloc (Nat.le_refl _) _
  have hX0 : V.heap[w.heap.size]? = some (.cells #[.int .i64 0, .string ⟨#[]⟩, .string ⟨#[]⟩, .string ⟨#[]⟩] 23 (0, 0)) := by rw [hV]; exact heap_alloc_new _ _
  have hw1 := word_any s V (by omega)
  rw [hl, hl1] at hw1
  dsimp only at hw1
  rw [show B wAppend = ⟨#[97, 112, 112, 101, 110, 100]⟩ from rfl, hr2] at hw1
  have HW1 := hide hw1
  have HW2 : Hid (∀ W, Calls Tryd.prog 23 #[.string r2] W fun e w' => e = .returned (.tuple #[.string r3, .string r4, .bool true]) ∧ Below W.heap.size W w') := hide fun W => by
    have h := word_any r2 W (by rw [← hr2, lB_size]; omega)
    rw [← hr2, B_data, hl2] at h
    dsimp only at h
    rw [hr3, hr4] at h
    rw [← hr2]
    exact h
  have HX0 := hide hX0
  have HB0 := hide hB0
  have HV := hide hV
  have HZ := hide (And.intro hz3 (And.intro hz4 hmx))
  clear hw1 hl1 hl2 hX0 hB0 hV k1 k2 hll hs hl hr2 hr3 hr4 hz3 hz4 hmx
  go_enter Tryd.func11, Tryd.ntmps11
  go_wp2_with fail
  rw [← unhide HV]
  refine (unhide HW1).mono ?_
  rintro e w1 ⟨rfl, b1⟩
  have HX1 := hide ((b1.block _ (Array.getElem?_eq_some_iff.1 (unhide HX0)).1).trans (unhide HX0))
  have HB1 := hide ((unhide HB0).trans (b1.mono (unhide HB0).size))
  clear b1 HW1 HX0 HB0 HV
  --@A1@
  go_wp2_with fail
  refine ((unhide HW2) w1).mono ?_
  rintro e w2 ⟨rfl, b2⟩
  have hX2 := (b2.block _ (Array.getElem?_eq_some_iff.1 (unhide HX1)).1).trans (unhide HX1)
  have hXl : w.heap.size < w2.heap.size := (Array.getElem?_eq_some_iff.1 hX2).1
  have hB2 := (unhide HB1).trans (b2.mono (unhide HB1).size)
  obtain ⟨V3, hV3⟩ : ∃ V3, V3 = w2.alloc (.cells #[.int .i64 4, .string r3, .string ⟨#[]⟩, .string r4] 23) := ⟨_, rfl⟩
  have hC3 : V3.heap[w2.heap.size]? = some (.cells #[.int .i64 4, .string r3, .string ⟨#[]⟩, .string r4] 23 (0, 0)) := by rw [hV3]; exact heap_alloc_new _ _
  have hX3 : V3.heap[w.heap.size]? = some (.cells #[.int .i64 0, .string ⟨#[]⟩, .string ⟨#[]⟩, .string ⟨#[]⟩] 23 (0, 0)) := by rw [hV3, Below.heap_alloc _ _ _ hXl]; exact hX2
  have hB3 : Below w.heap.size w V3 := by rw [hV3]; exact hB2.alloc (by omega) _
  clear b2 HW2 HX1 HB1 hX2 hB2
  obtain ⟨code, hcode⟩ : ∃ c, checkI ⟨4, r3, ⟨#[]⟩, r4⟩ = c := ⟨_, rfl⟩
  have HQ0 : Hid (aParse l = if code ≠ 0 then (noCall, code) else (⟨4, r3, ⟨#[]⟩, r4⟩, 0)) := hide (by unfold aParse; rw [unhide HW, ← hcode]; rfl)
  have hZ := unhide HZ
  have hze : (⟨#[]⟩ : ByteArray).size ≤ maxLen := by decide
  have hcf := CallFault_any 4 r3 ⟨#[]⟩ r4 V3 (by omega) (by first | omega | exact hze) (by first | omega | exact hze)
  rw [hcode] at hcf
  have HCF := hide hcf
  have HXn := hide hX3
  have HBn := hide hB3
  have HCn := hide hC3
  obtain ⟨y0, y1, y2, y3, _⟩ := fourK hC3
  have HVn : Hid (V3 = w2.alloc (.cells #[.int .i64 4, .string r3, .string ⟨#[]⟩, .string r4] 23)) := hide (by rw [hV3])
  rw [unhide HVn] at y0 y1 y2 y3
  clear hcf hcode hZ hze HW hC3 hX3 hB3 hV3
  --@A2@
  go_wp2_with fail
  --@A3@
  rw [← unhide HVn]
  refine (unhide HCF).mono ?_
  rintro e w5 ⟨rfl, b5⟩
  have hX5 := (b5.block _ (Array.getElem?_eq_some_iff.1 (unhide HXn)).1).trans (unhide HXn)
  have hC5 := (b5.block _ (Array.getElem?_eq_some_iff.1 (unhide HCn)).1).trans (unhide HCn)
  have HB5 := hide ((unhide HBn).trans (b5.mono (unhide HBn).size))
  obtain ⟨u0, u1, u2, u3, _⟩ := fourK hC5
  clear b5 hC5 y0 y1 y2 y3  HXn HBn HCn HVn HCF
  by_cases hc : code = 0
  · subst hc
    have HQ : Hid (aParse l = (⟨4, r3, ⟨#[]⟩, r4⟩, 0)) := hide (unhide HQ0)
    clear HQ0
    obtain ⟨hz, hBZ⟩ := store4 hX5 (unhide HB5) (.int .i64 4) (.string r3) (.string ⟨#[]⟩) (.string r4)
    obtain ⟨V9, hV9⟩ : ∃ V9, V9 = w5.setRow w.heap.size #[.int .i64 4, .string r3, .string ⟨#[]⟩, .string r4] := ⟨_, rfl⟩
    rw [← hV9] at hz hBZ
    obtain ⟨z0, z1, z2, z3, _⟩ := fourK hz
    clear hz
    --@E@
    go_wp2_with (refine wpList_store_row rfl 23 _ _ rfl w.heap.size #[.int .i64 4, .string r3, .string ⟨#[]⟩, .string r4] rfl rfl 23 _ hX5 info23s rfl (by simp [Value.oneCell']) ?_)
    rw [← hV9]
    refine bodyPost_ret (v := .tuple #[.agg #[.int .i64 4, .string r3, .string ⟨#[]⟩, .string r4], .int .i64 (0)]) (by simp [results, Tryd.results11, go_sem, z0, z1, z2, z3]) rfl ⟨?_, hBZ⟩
    show CallRes l _
    unfold CallRes
    rw [unhide HQ]
    try rfl
  · have HQ : Hid (aParse l = (noCall, code)) := hide (by rw [unhide HQ0, if_pos hc])
    have hne : (code != 0) = true := by simpa using hc
    clear HQ0 hc
    obtain ⟨hz, hBZ⟩ := store4 hX5 (unhide HB5) (.int .i64 0) (.string ⟨#[]⟩) (.string ⟨#[]⟩) (.string ⟨#[]⟩)
    obtain ⟨V9, hV9⟩ : ∃ V9, V9 = w5.setRow w.heap.size #[.int .i64 0, .string ⟨#[]⟩, .string ⟨#[]⟩, .string ⟨#[]⟩] := ⟨_, rfl⟩
    rw [← hV9] at hz hBZ
    obtain ⟨z0, z1, z2, z3, _⟩ := fourK hz
    clear hz
    --@E@
    go_wp2_with (refine wpList_store_row rfl 23 _ _ rfl w.heap.size #[.int .i64 0, .string ⟨#[]⟩, .string ⟨#[]⟩, .string ⟨#[]⟩] rfl rfl 23 _ hX5 info23s rfl (by simp [Value.oneCell']) ?_)
    rw [← hV9]
    refine bodyPost_ret (v := .tuple #[.agg #[.int .i64 0, .string ⟨#[]⟩, .string ⟨#[]⟩, .string ⟨#[]⟩], .int .i64 (code)]) (by simp [results, Tryd.results11, go_sem, z0, z1, z2, z3]) rfl ⟨?_, hBZ⟩
    show CallRes l _
    unfold CallRes
    rw [unhide HQ]
    try rfl

end Go.Proofs.YtkbdaiopahmfiacDoor
