/- Package codec: what is read of bytes; take. -/
import Derived.Test.YtlndphpidkacgaaCc
import Derived.Deep.Slices
namespace Go.Proofs.Ytlndphpidkacgaa
open Go.RowKit
set_option linter.unusedSimpArgs false
set_option linter.unusedVariables false

/-- Bytes that lie somewhere, as a slice. -/
def ByAt (w : World) (a : Option Addr) (bs : List UInt8) : Prop :=
  bs ≠ [] → ∃ b off, a = some ⟨b, off, none⟩ ∧ ∀ (j : Nat) (x : UInt8), bs[j]? = some x → w.cell? ⟨b, off + j, none⟩ = some (.int .u8 (x.toNat : Int))

/-- So many texts, each with its length ahead; and what stands behind. -/
def takeT : Nat → List UInt8 → Option (List ByteArray × List UInt8)
  | 0, bs => some ([], bs)
  | k + 1, [] => none
  | k + 1, x :: xs => if x.toNat ≤ xs.length then (takeT k (xs.drop x.toNat)).map fun p => (⟨(xs.take x.toNat).toArray⟩ :: p.1, p.2) else none

/-! TAIL -/
theorem conv_at (w : World) (a : Addr) (l : List UInt8) (c : Nat) (n : Nat) (hn : n = l.length) (hc : ∀ (j : Nat) (x : UInt8), l[j]? = some x → w.cell? (a.add j) = some (.int .u8 (x.toNat : Int))) : (convert 48 9 (.slice (some a) n c)).run Try.prog w = .ok (.string ⟨l.toArray⟩) w := by
  subst hn
  exact run_convert_bytes_back (P := Try.prog) w 48 9 5 a c l Try.underlying48 Try.underlying5 Try.underlying9 (fun j hj => hc j _ (List.getElem?_eq_getElem hj))

theorem addr_add (b o j : Nat) : (⟨b, o, none⟩ : Addr).add j = ⟨b, o + j, none⟩ := by unfold Addr.add; split <;> simp_all

/-- What take's loop has done. -/
structure TakeAt (w : World) (bs : List UInt8) (R : Nat) (v0 v1 v2 v6 v7 : Value) (k : Nat) (a1 : Option Addr) (rest : List UInt8) (t0 t1 t2 : ByteArray) (wr : World) : Prop where
  by_ : ByAt wr a1 rest
  ne : rest ≠ [] → ∀ a, a1 = some a → a.block ≠ R
  kept : Kept [R] w wr
  blk : wr.heap[R]? = some (.cells #[v0, v1, v2, .string t0, .string t1, .string t2, v6, v7] 47 (0, 0))
  took : takeT 3 bs = (takeT (3 - k) rest).map fun p => ([t0, t1, t2].take k ++ p.1, p.2)

/-- What take answers. -/
def TakeRes (w : World) (bs : List UInt8) (R : Nat) (v0 v1 v2 v6 v7 : Value) (e : Ending) (w' : World) : Prop :=
  ∃ t0 t1 t2 ok a1 n c1, e = .returned (.tuple #[.slice a1 n c1, .bool ok]) ∧ w'.heap[R]? = some (.cells #[v0, v1, v2, .string t0, .string t1, .string t2, v6, v7] 47 (0, 0)) ∧ Kept [R] w w' ∧
    ((ok = false ∧ takeT 3 bs = none) ∨ (ok = true ∧ ∃ rest, takeT 3 bs = some ([t0, t1, t2], rest) ∧ n = rest.length))

theorem ByAt.kept {w w' : World} {R : Nat} {a : Option Addr} {bs : List UInt8} (h : ByAt w a bs) (hk : Kept [R] w w') (hne : bs ≠ [] → ∀ x, a = some x → x.block ≠ R) : ByAt w' a bs := fun h0 => by
  obtain ⟨b, off, rfl, hc⟩ := h h0
  refine ⟨b, off, rfl, fun j x hx => ?_⟩
  have := hc j x hx
  exact (hk.cell (World.block_lt_of_cell? w _ this) (by simpa using hne h0 _ rfl)).trans this

theorem takeT_cons (k : Nat) (x : UInt8) (xs : List UInt8) (h : x.toNat ≤ xs.length) : takeT (k + 1) (x :: xs) = (takeT k (xs.drop x.toNat)).map fun p => (⟨(xs.take x.toNat).toArray⟩ :: p.1, p.2) := by
  rw [takeT, if_pos h]
theorem takeT_short (k : Nat) (x : UInt8) (xs : List UInt8) (h : ¬ x.toNat ≤ xs.length) : takeT (k + 1) (x :: xs) = none := by
  rw [takeT, if_neg h]

theorem ByAt.tail {w : World} {b off : Nat} {x : UInt8} {xs : List UInt8} (hc : ∀ (j : Nat) (y : UInt8), (x :: xs)[j]? = some y → w.cell? ⟨b, off + j, none⟩ = some (.int .u8 (y.toNat : Int))) (A : Option Addr) (n : Nat) (hA : n < xs.length → A = some ⟨b, off + (1 + n), none⟩) : ByAt w A (xs.drop n) := fun h0 => by
  have hlt : n < xs.length := by
    rcases Nat.lt_or_ge n xs.length with h | h
    · exact h
    · exact absurd (List.drop_of_length_le h) h0
  refine ⟨b, off + (1 + n), hA hlt, fun j y hy => ?_⟩
  have := hc (1 + n + j) y (by rw [List.getElem?_drop] at hy; rw [show 1 + n + j = (n + j) + 1 by omega]; simpa using hy)
  rw [show off + (1 + n) + j = off + (1 + n + j) by omega]
  exact this

set_option maxRecDepth 100000 in
set_option maxHeartbeats 8000000 in
theorem take_any (a0 : Option Addr) (cap R P : Nat) (bs : List UInt8) (w : World) (hb : ByAt w a0 bs) (hcap : bs.length ≤ cap) (hm : bs.length ≤ maxLen) (hne : bs ≠ [] → ∀ a, a0 = some a → a.block ≠ R) (hPR : P ≠ R)
    (p0 : w.cell? ⟨P, 0, none⟩ = some (.pointer (some ⟨R, 3, none⟩))) (p1 : w.cell? ⟨P, 1, none⟩ = some (.pointer (some ⟨R, 4, none⟩))) (p2 : w.cell? ⟨P, 2, none⟩ = some (.pointer (some ⟨R, 5, none⟩)))
    (v0 v1 v2 v6 v7 : Value) (s0 s1 s2 : ByteArray) (hR : w.heap[R]? = some (.cells #[v0, v1, v2, .string s0, .string s1, .string s2, v6, v7] 47 (0, 0))) :
    Calls Try.prog 84 #[.slice a0 bs.length cap, .slice (some ⟨P, 0, none⟩) 3 3] w
      (TakeRes w bs R v0 v1 v2 v6 v7) := by
  unfold maxLen at hm
  have HT0 : Hid (TakeAt w bs R v0 v1 v2 v6 v7 0 a0 bs s0 s1 s2 w) := ⟨hb, hne, Kept.refl _ _, hR, by simp⟩
  have HP : Hid (∀ wr, Kept [R] w wr → wr.cell? ⟨P, 0, none⟩ = some (.pointer (some ⟨R, 3, none⟩)) ∧ wr.cell? ⟨P, 1, none⟩ = some (.pointer (some ⟨R, 4, none⟩)) ∧ wr.cell? ⟨P, 2, none⟩ = some (.pointer (some ⟨R, 5, none⟩))) := fun wr hk =>
    ⟨(hk.cell (World.block_lt_of_cell? w _ p0) (by simpa using hPR)).trans p0, (hk.cell (World.block_lt_of_cell? w _ p1) (by simpa using hPR)).trans p1, (hk.cell (World.block_lt_of_cell? w _ p2) (by simpa using hPR)).trans p2⟩
  clear hb hne hR p0 p1 p2 hPR
  go_enter Try.func84, Try.ntmps84
  go_wp2
  go_loopw [0, 7, 8, 11] (fun v _ _ i wr => ∃ (k : Nat) (kI : Int) (a1 : Option Addr) (c1 L : Nat) (rest : List UInt8) (t0 t1 t2 : ByteArray), ((k = 0 ∧ kI = 0) ∨ (k = 1 ∧ kI = 1) ∨ (k = 2 ∧ kI = 2) ∨ (k = 3 ∧ kI = 3)) ∧ i = .int .i64 kI ∧ v = .slice a1 L c1 ∧ L ≤ c1 ∧ L ≤ 2 ^ 63 - 1 ∧ Hid (rest.length = L) ∧ Hid (TakeAt w bs R v0 v1 v2 v6 v7 k a1 rest t0 t1 t2 wr)) (fun _ _ _ i _ => 3 - (intOf i).toNat)
  case atStart => exact ⟨0, 0, _, _, _, bs, _, _, _, .inl ⟨rfl, rfl⟩, rfl, rfl, hcap, hm, rfl, unhide HT0⟩
  case round =>
    obtain ⟨k, kI, a1, c1, L, rest, t0, t1, t2, hk, rfl, rfl, hLc, hLm, HL, HT⟩ := hrel
    obtain ⟨p0, p1, p2⟩ := unhide HP wr (unhide HT).kept
    have hRl : R < wr.heap.size := (Array.getElem?_eq_some_iff.1 (unhide HT).blk).1
    rcases hk with ⟨rfl, rfl⟩ | ⟨rfl, rfl⟩ | ⟨rfl, rfl⟩ | ⟨rfl, rfl⟩
    · clear p1 p2
      cases rest with
      | nil =>
        obtain rfl : L = 0 := (unhide HL).symm
        have HN : Hid (takeT 3 bs = none) := by rw [(unhide HT).took]; exact rfl
        go_wp2
        go_ret2
        exact ⟨t0, t1, t2, false, none, 0, 0, rfl, (unhide HT).blk, (unhide HT).kept, .inl ⟨rfl, unhide HN⟩⟩
      | cons x xs =>
        obtain ⟨b, off, rfl, hc⟩ := (unhide HT).by_ (by simp)
        have hx : wr.cell? ⟨b, off, none⟩ = some (.int .u8 (x.toNat : Int)) := hc 0 x rfl
        have hbR : b ≠ R := (unhide HT).ne (by simp) _ rfl
        obtain ⟨X, HX⟩ : ∃ X, Hid (x.toNat = X) := ⟨_, rfl⟩
        obtain ⟨M, rfl⟩ : ∃ M, L = M + 1 := ⟨xs.length, (unhide HL).symm⟩
        have HM : Hid (xs.length = M) := by have := unhide HL; simp at this; exact this
        have hX2 : X ≤ 255 := by have := x.toNat_lt; rw [← HX.out]; omega
        rw [HX.out] at hx
        have HC := hide hc
        clear hc
        have hM0 : ((M : Int) + 1 == 0) = false := by simp; omega
        by_cases h1 : (X : Int) ≤ (M : Int)
        · have h1n : ¬ M < X := by omega
          obtain ⟨s, hs⟩ : ∃ s : ByteArray, s = ⟨(xs.take X).toArray⟩ := ⟨_, rfl⟩
          have HS := hide hs
          have hcell : wr.cell? ⟨R, 3, none⟩ = some (.string t0) := by rw [cell_of_row wr R 3 _ _ _ (unhide HT).blk]; rfl
          have hfroz : wr.frozen? ⟨R, 3, none⟩ = false := frozen_of_row wr R 3 _ _ (unhide HT).blk
          have HK' : Hid (Kept [R] w (wr.setCell ⟨R, 3, none⟩ (.string s))) := (unhide HT).kept.trans (kept_setCell [R] wr R 3 (.string s) (by simp)) (fun x hx => .inl hx)
          have HB' : Hid ((wr.setCell ⟨R, 3, none⟩ (.string s)).heap[R]? = some (.cells #[v0, v1, v2, .string s, .string t1, .string t2, v6, v7] 47 (0, 0))) := heap_setCell_same (unhide HT).blk (.string s)
          have HTK : Hid (takeT 3 bs = (takeT (3 - 1) (xs.drop X)).map fun p => ([s, t1, t2].take 1 ++ p.1, p.2)) := by
            rw [(unhide HT).took, show 3 - 0 = 3 - 1 + 1 from rfl, takeT_cons _ _ _ (by rw [HX.out, HM.out]; omega), HX.out, ← HS.out, Option.map_map]
            congr 1
          have HR' : ∀ A : Option Addr, (X < M → A = some ⟨b, off + (1 + X), none⟩) → (∀ a, A = some a → a.block = b) → Hid (TakeAt w bs R v0 v1 v2 v6 v7 1 A (xs.drop X) s t1 t2 (wr.setCell ⟨R, 3, none⟩ (.string s))) := fun A hA hA2 => by
            refine ⟨?_, fun _ a e => by rw [hA2 a e]; exact hbR, unhide HK', unhide HB', unhide HTK⟩
            have h0 : ByAt wr A (xs.drop X) := ByAt.tail (unhide HC) A X (fun h => hA (by rw [← HM.out]; exact h))
            exact h0.kept (kept_setCell [R] wr R 3 (.string s) (by simp)) (fun _ a e => by rw [hA2 a e]; exact hbR)
          have HLd : Hid ((xs.drop X).length = M - X) := by rw [List.length_drop, HM.out]; exact rfl
          have HRH := hide HR'
          have hcv : ∀ c, (convert 48 9 (.slice (some ⟨b, off + 1, none⟩) X c)).run Try.prog wr = .ok (.string s) wr := fun c => by
            rw [hs]
            refine conv_at wr ⟨b, off + 1, none⟩ (xs.take X) c X (by rw [List.length_take, HM.out]; omega) (fun j y hy => ?_)
            rw [addr_add]
            have hj : j < X := by have := (List.getElem?_eq_some_iff.1 hy).1; rw [List.length_take] at this; omega
            have := (unhide HC) (j + 1) y (by rw [List.getElem?_take, if_pos hj] at hy; simpa using hy)
            rw [show off + 1 + j = off + (j + 1) by omega]
            exact this
          clear hs HR'
          by_cases q1 : c1 = 1
          · subst q1
            obtain rfl : M = 0 := by omega
            obtain rfl : X = 0 := by omega
            have hcv0 : ∀ c, (convert 48 9 (.slice (some ⟨b, off, none⟩) 0 c)).run Try.prog wr = .ok (.string s) wr := fun c => by
              rw [HS.out]
              exact conv_at wr ⟨b, off, none⟩ (xs.take 0) c 0 (by simp) (fun j y hy => by simp at hy)
            go_wp2
            go_roundw
            case rel => exact ⟨1, 1, _, _, _, _, _, _, _, .inr (.inl ⟨rfl, rfl⟩), rfl, rfl, by omega, by omega, hide (by have h := unhide HLd; have h2 := unhide HM; simp only [List.length_drop] at h ⊢; omega), unhide HRH _ (by omega) (by simp)⟩
            case measure => simp [intOf]
          · by_cases q2 : c1 = 1 + X
            · subst q2
              go_wp2
              go_roundw
              case rel => exact ⟨1, 1, _, _, _, _, _, _, _, .inr (.inl ⟨rfl, rfl⟩), rfl, rfl, by omega, by omega, hide (by have h := unhide HLd; have h2 := unhide HM; simp only [List.length_drop] at h ⊢; omega), unhide HRH _ (by omega) (by simp)⟩
              case measure => simp [intOf]
            · go_wp2
              go_roundw
              case rel => exact ⟨1, 1, _, _, _, _, _, _, _, .inr (.inl ⟨rfl, rfl⟩), rfl, rfl, by omega, by omega, hide (by have h := unhide HLd; have h2 := unhide HM; simp only [List.length_drop] at h ⊢; omega), unhide HRH _ (fun _ => rfl) (by simp)⟩
              case measure => simp [intOf]
        · have h1n : M < X := by omega
          have HN : Hid (takeT 3 bs = none) := by rw [(unhide HT).took, show 3 - 0 = 3 - 1 + 1 from rfl, takeT_short _ _ _ (by rw [HX.out, HM.out]; omega)]; exact rfl
          go_wp2
          go_ret2
          exact ⟨t0, t1, t2, false, none, 0, 0, rfl, (unhide HT).blk, (unhide HT).kept, .inl ⟨rfl, unhide HN⟩⟩
    · clear p0 p2
      cases rest with
      | nil =>
        obtain rfl : L = 0 := (unhide HL).symm
        have HN : Hid (takeT 3 bs = none) := by rw [(unhide HT).took]; exact rfl
        go_wp2
        go_ret2
        exact ⟨t0, t1, t2, false, none, 0, 0, rfl, (unhide HT).blk, (unhide HT).kept, .inl ⟨rfl, unhide HN⟩⟩
      | cons x xs =>
        obtain ⟨b, off, rfl, hc⟩ := (unhide HT).by_ (by simp)
        have hx : wr.cell? ⟨b, off, none⟩ = some (.int .u8 (x.toNat : Int)) := hc 0 x rfl
        have hbR : b ≠ R := (unhide HT).ne (by simp) _ rfl
        obtain ⟨X, HX⟩ : ∃ X, Hid (x.toNat = X) := ⟨_, rfl⟩
        obtain ⟨M, rfl⟩ : ∃ M, L = M + 1 := ⟨xs.length, (unhide HL).symm⟩
        have HM : Hid (xs.length = M) := by have := unhide HL; simp at this; exact this
        have hX2 : X ≤ 255 := by have := x.toNat_lt; rw [← HX.out]; omega
        rw [HX.out] at hx
        have HC := hide hc
        clear hc
        have hM0 : ((M : Int) + 1 == 0) = false := by simp; omega
        by_cases h1 : (X : Int) ≤ (M : Int)
        · have h1n : ¬ M < X := by omega
          obtain ⟨s, hs⟩ : ∃ s : ByteArray, s = ⟨(xs.take X).toArray⟩ := ⟨_, rfl⟩
          have HS := hide hs
          have hcell : wr.cell? ⟨R, 4, none⟩ = some (.string t1) := by rw [cell_of_row wr R 4 _ _ _ (unhide HT).blk]; rfl
          have hfroz : wr.frozen? ⟨R, 4, none⟩ = false := frozen_of_row wr R 4 _ _ (unhide HT).blk
          have HK' : Hid (Kept [R] w (wr.setCell ⟨R, 4, none⟩ (.string s))) := (unhide HT).kept.trans (kept_setCell [R] wr R 4 (.string s) (by simp)) (fun x hx => .inl hx)
          have HB' : Hid ((wr.setCell ⟨R, 4, none⟩ (.string s)).heap[R]? = some (.cells #[v0, v1, v2, .string t0, .string s, .string t2, v6, v7] 47 (0, 0))) := heap_setCell_same (unhide HT).blk (.string s)
          have HTK : Hid (takeT 3 bs = (takeT (3 - 2) (xs.drop X)).map fun p => ([t0, s, t2].take 2 ++ p.1, p.2)) := by
            rw [(unhide HT).took, show 3 - 1 = 3 - 2 + 1 from rfl, takeT_cons _ _ _ (by rw [HX.out, HM.out]; omega), HX.out, ← HS.out, Option.map_map]
            congr 1
          have HR' : ∀ A : Option Addr, (X < M → A = some ⟨b, off + (1 + X), none⟩) → (∀ a, A = some a → a.block = b) → Hid (TakeAt w bs R v0 v1 v2 v6 v7 2 A (xs.drop X) t0 s t2 (wr.setCell ⟨R, 4, none⟩ (.string s))) := fun A hA hA2 => by
            refine ⟨?_, fun _ a e => by rw [hA2 a e]; exact hbR, unhide HK', unhide HB', unhide HTK⟩
            have h0 : ByAt wr A (xs.drop X) := ByAt.tail (unhide HC) A X (fun h => hA (by rw [← HM.out]; exact h))
            exact h0.kept (kept_setCell [R] wr R 4 (.string s) (by simp)) (fun _ a e => by rw [hA2 a e]; exact hbR)
          have HLd : Hid ((xs.drop X).length = M - X) := by rw [List.length_drop, HM.out]; exact rfl
          have HRH := hide HR'
          have hcv : ∀ c, (convert 48 9 (.slice (some ⟨b, off + 1, none⟩) X c)).run Try.prog wr = .ok (.string s) wr := fun c => by
            rw [hs]
            refine conv_at wr ⟨b, off + 1, none⟩ (xs.take X) c X (by rw [List.length_take, HM.out]; omega) (fun j y hy => ?_)
            rw [addr_add]
            have hj : j < X := by have := (List.getElem?_eq_some_iff.1 hy).1; rw [List.length_take] at this; omega
            have := (unhide HC) (j + 1) y (by rw [List.getElem?_take, if_pos hj] at hy; simpa using hy)
            rw [show off + 1 + j = off + (j + 1) by omega]
            exact this
          clear hs HR'
          by_cases q1 : c1 = 1
          · subst q1
            obtain rfl : M = 0 := by omega
            obtain rfl : X = 0 := by omega
            have hcv0 : ∀ c, (convert 48 9 (.slice (some ⟨b, off, none⟩) 0 c)).run Try.prog wr = .ok (.string s) wr := fun c => by
              rw [HS.out]
              exact conv_at wr ⟨b, off, none⟩ (xs.take 0) c 0 (by simp) (fun j y hy => by simp at hy)
            go_wp2
            go_roundw
            case rel => exact ⟨2, 2, _, _, _, _, _, _, _, .inr (.inr (.inl ⟨rfl, rfl⟩)), rfl, rfl, by omega, by omega, hide (by have h := unhide HLd; have h2 := unhide HM; simp only [List.length_drop] at h ⊢; omega), unhide HRH _ (by omega) (by simp)⟩
            case measure => simp [intOf]
          · by_cases q2 : c1 = 1 + X
            · subst q2
              go_wp2
              go_roundw
              case rel => exact ⟨2, 2, _, _, _, _, _, _, _, .inr (.inr (.inl ⟨rfl, rfl⟩)), rfl, rfl, by omega, by omega, hide (by have h := unhide HLd; have h2 := unhide HM; simp only [List.length_drop] at h ⊢; omega), unhide HRH _ (by omega) (by simp)⟩
              case measure => simp [intOf]
            · go_wp2
              go_roundw
              case rel => exact ⟨2, 2, _, _, _, _, _, _, _, .inr (.inr (.inl ⟨rfl, rfl⟩)), rfl, rfl, by omega, by omega, hide (by have h := unhide HLd; have h2 := unhide HM; simp only [List.length_drop] at h ⊢; omega), unhide HRH _ (fun _ => rfl) (by simp)⟩
              case measure => simp [intOf]
        · have h1n : M < X := by omega
          have HN : Hid (takeT 3 bs = none) := by rw [(unhide HT).took, show 3 - 1 = 3 - 2 + 1 from rfl, takeT_short _ _ _ (by rw [HX.out, HM.out]; omega)]; exact rfl
          go_wp2
          go_ret2
          exact ⟨t0, t1, t2, false, none, 0, 0, rfl, (unhide HT).blk, (unhide HT).kept, .inl ⟨rfl, unhide HN⟩⟩
    · clear p0 p1
      cases rest with
      | nil =>
        obtain rfl : L = 0 := (unhide HL).symm
        have HN : Hid (takeT 3 bs = none) := by rw [(unhide HT).took]; exact rfl
        go_wp2
        go_ret2
        exact ⟨t0, t1, t2, false, none, 0, 0, rfl, (unhide HT).blk, (unhide HT).kept, .inl ⟨rfl, unhide HN⟩⟩
      | cons x xs =>
        obtain ⟨b, off, rfl, hc⟩ := (unhide HT).by_ (by simp)
        have hx : wr.cell? ⟨b, off, none⟩ = some (.int .u8 (x.toNat : Int)) := hc 0 x rfl
        have hbR : b ≠ R := (unhide HT).ne (by simp) _ rfl
        obtain ⟨X, HX⟩ : ∃ X, Hid (x.toNat = X) := ⟨_, rfl⟩
        obtain ⟨M, rfl⟩ : ∃ M, L = M + 1 := ⟨xs.length, (unhide HL).symm⟩
        have HM : Hid (xs.length = M) := by have := unhide HL; simp at this; exact this
        have hX2 : X ≤ 255 := by have := x.toNat_lt; rw [← HX.out]; omega
        rw [HX.out] at hx
        have HC := hide hc
        clear hc
        have hM0 : ((M : Int) + 1 == 0) = false := by simp; omega
        by_cases h1 : (X : Int) ≤ (M : Int)
        · have h1n : ¬ M < X := by omega
          obtain ⟨s, hs⟩ : ∃ s : ByteArray, s = ⟨(xs.take X).toArray⟩ := ⟨_, rfl⟩
          have HS := hide hs
          have hcell : wr.cell? ⟨R, 5, none⟩ = some (.string t2) := by rw [cell_of_row wr R 5 _ _ _ (unhide HT).blk]; rfl
          have hfroz : wr.frozen? ⟨R, 5, none⟩ = false := frozen_of_row wr R 5 _ _ (unhide HT).blk
          have HK' : Hid (Kept [R] w (wr.setCell ⟨R, 5, none⟩ (.string s))) := (unhide HT).kept.trans (kept_setCell [R] wr R 5 (.string s) (by simp)) (fun x hx => .inl hx)
          have HB' : Hid ((wr.setCell ⟨R, 5, none⟩ (.string s)).heap[R]? = some (.cells #[v0, v1, v2, .string t0, .string t1, .string s, v6, v7] 47 (0, 0))) := heap_setCell_same (unhide HT).blk (.string s)
          have HTK : Hid (takeT 3 bs = (takeT (3 - 3) (xs.drop X)).map fun p => ([t0, t1, s].take 3 ++ p.1, p.2)) := by
            rw [(unhide HT).took, show 3 - 2 = 3 - 3 + 1 from rfl, takeT_cons _ _ _ (by rw [HX.out, HM.out]; omega), HX.out, ← HS.out, Option.map_map]
            congr 1
          have HR' : ∀ A : Option Addr, (X < M → A = some ⟨b, off + (1 + X), none⟩) → (∀ a, A = some a → a.block = b) → Hid (TakeAt w bs R v0 v1 v2 v6 v7 3 A (xs.drop X) t0 t1 s (wr.setCell ⟨R, 5, none⟩ (.string s))) := fun A hA hA2 => by
            refine ⟨?_, fun _ a e => by rw [hA2 a e]; exact hbR, unhide HK', unhide HB', unhide HTK⟩
            have h0 : ByAt wr A (xs.drop X) := ByAt.tail (unhide HC) A X (fun h => hA (by rw [← HM.out]; exact h))
            exact h0.kept (kept_setCell [R] wr R 5 (.string s) (by simp)) (fun _ a e => by rw [hA2 a e]; exact hbR)
          have HLd : Hid ((xs.drop X).length = M - X) := by rw [List.length_drop, HM.out]; exact rfl
          have HRH := hide HR'
          have hcv : ∀ c, (convert 48 9 (.slice (some ⟨b, off + 1, none⟩) X c)).run Try.prog wr = .ok (.string s) wr := fun c => by
            rw [hs]
            refine conv_at wr ⟨b, off + 1, none⟩ (xs.take X) c X (by rw [List.length_take, HM.out]; omega) (fun j y hy => ?_)
            rw [addr_add]
            have hj : j < X := by have := (List.getElem?_eq_some_iff.1 hy).1; rw [List.length_take] at this; omega
            have := (unhide HC) (j + 1) y (by rw [List.getElem?_take, if_pos hj] at hy; simpa using hy)
            rw [show off + 1 + j = off + (j + 1) by omega]
            exact this
          clear hs HR'
          by_cases q1 : c1 = 1
          · subst q1
            obtain rfl : M = 0 := by omega
            obtain rfl : X = 0 := by omega
            have hcv0 : ∀ c, (convert 48 9 (.slice (some ⟨b, off, none⟩) 0 c)).run Try.prog wr = .ok (.string s) wr := fun c => by
              rw [HS.out]
              exact conv_at wr ⟨b, off, none⟩ (xs.take 0) c 0 (by simp) (fun j y hy => by simp at hy)
            go_wp2
            go_roundw
            case rel => exact ⟨3, 3, _, _, _, _, _, _, _, .inr (.inr (.inr ⟨rfl, rfl⟩)), rfl, rfl, by omega, by omega, hide (by have h := unhide HLd; have h2 := unhide HM; simp only [List.length_drop] at h ⊢; omega), unhide HRH _ (by omega) (by simp)⟩
            case measure => simp [intOf]
          · by_cases q2 : c1 = 1 + X
            · subst q2
              go_wp2
              go_roundw
              case rel => exact ⟨3, 3, _, _, _, _, _, _, _, .inr (.inr (.inr ⟨rfl, rfl⟩)), rfl, rfl, by omega, by omega, hide (by have h := unhide HLd; have h2 := unhide HM; simp only [List.length_drop] at h ⊢; omega), unhide HRH _ (by omega) (by simp)⟩
              case measure => simp [intOf]
            · go_wp2
              go_roundw
              case rel => exact ⟨3, 3, _, _, _, _, _, _, _, .inr (.inr (.inr ⟨rfl, rfl⟩)), rfl, rfl, by omega, by omega, hide (by have h := unhide HLd; have h2 := unhide HM; simp only [List.length_drop] at h ⊢; omega), unhide HRH _ (fun _ => rfl) (by simp)⟩
              case measure => simp [intOf]
        · have h1n : M < X := by omega
          have HN : Hid (takeT 3 bs = none) := by rw [(unhide HT).took, show 3 - 2 = 3 - 3 + 1 from rfl, takeT_short _ _ _ (by rw [HX.out, HM.out]; omega)]; exact rfl
          go_wp2
          go_ret2
          exact ⟨t0, t1, t2, false, none, 0, 0, rfl, (unhide HT).blk, (unhide HT).kept, .inl ⟨rfl, unhide HN⟩⟩
    · clear p0 p1 p2
      have HN : Hid (takeT 3 bs = some ([t0, t1, t2], rest)) := by rw [(unhide HT).took]; exact rfl
      go_wp2
      go_ret2
      exact ⟨t0, t1, t2, true, _, _, _, rfl, (unhide HT).blk, (unhide HT).kept, .inr ⟨rfl, rest, unhide HN, (unhide HL).symm⟩⟩

end Go.Proofs.Ytlndphpidkacgaa
