/- Package codec: All. -/
import Derived.Test.YtlndphpidkacgaaCf
namespace Go.Proofs.Ytlndphpidkacgaa
open Go.RowKit
set_option linter.unusedSimpArgs false
set_option linter.unusedVariables false

def rcells (r : ARec) : List Value := [.int .i64 r.client, .int .i64 r.no, .int .i64 r.call.kind, .string r.call.name, .string r.call.dst, .string r.call.text, .int .i64 r.code, .string r.ans]

/-- The records with which bytes begin, and how many bytes these are. -/
def allF : Nat → List UInt8 → List ARec × Nat
  | 0, _ => ([], 0)
  | f + 1, bs => if (decR bs).code ≠ 0 then ([], 0) else ((decR bs).rcd :: (allF f (bs.drop (decR bs).n.toNat)).1, (decR bs).n.toNat + (allF f (bs.drop (decR bs).n.toNat)).2)
def allR (bs : List UInt8) : List ARec × Nat := allF (bs.length + 1) bs

theorem readR_long {bs : List UInt8} {r : ARec} (h : readR bs = some r) : 5 ≤ bs.length := by
  unfold readR at h
  split at h
  · cases h
  · omega

theorem decR_n {bs : List UInt8} (h : (decR bs).code = 0) : 5 ≤ (decR bs).n.toNat ∧ (decR bs).n.toNat ≤ bs.length ∧ 0 ≤ (decR bs).n := by
  cases bs with
  | nil => simp [decR] at h
  | cons x xs =>
    rw [decR] at h ⊢
    split at h
    · simp at h
    · rename_i h1
      rw [if_neg h1]
      cases hr : readR ((x :: xs).take x.toNat) with
      | none => rw [hr] at h; simp at h
      | some r =>
        rw [hr] at h
        simp only at h ⊢
        split at h
        · rename_i h2; exact absurd h h2
        · rename_i h2
          rw [if_neg h2]
          have h3 := readR_long hr
          rw [List.length_take, List.length_cons] at h3
          simp only [List.length_cons]
          omega

theorem allF_fuel : ∀ (f g : Nat) (bs : List UInt8), bs.length < f → bs.length < g → allF f bs = allF g bs
  | 0, _, _, h, _ => by omega
  | _ + 1, 0, _, _, h => by omega
  | f + 1, g + 1, bs, hf, hg => by
    rw [allF, allF]
    by_cases h : (decR bs).code ≠ 0
    · rw [if_pos h, if_pos h]
    · rw [if_neg h, if_neg h]
      have hn := decR_n (by simpa using h)
      have := allF_fuel f g (bs.drop (decR bs).n.toNat) (by rw [List.length_drop]; omega) (by rw [List.length_drop]; omega)
      rw [this]

theorem allR_stop {bs : List UInt8} (h : (decR bs).code ≠ 0) : allR bs = ([], 0) := by
  rw [allR, allF, if_pos h]
theorem allR_step {bs : List UInt8} (h : (decR bs).code = 0) : allR bs = ((decR bs).rcd :: (allR (bs.drop (decR bs).n.toNat)).1, (decR bs).n.toNat + (allR (bs.drop (decR bs).n.toNat)).2) := by
  have hn := decR_n h
  rw [allR, allF, if_neg (by simpa using h)]
  unfold allR
  rw [allF_fuel bs.length ((bs.drop (decR bs).n.toNat).length + 1) (bs.drop (decR bs).n.toNat) (by rw [List.length_drop]; omega) (by omega)]

/-- What All's loop has done. -/
structure AllAt (bs : List UInt8) (at' : Nat) (rs : List ARec) : Prop where
  le : at' ≤ bs.length
  few : rs.length ≤ at'
  all : allR bs = (rs ++ (allR (bs.drop at')).1, at' + (allR (bs.drop at')).2)
theorem AllAt.start (bs : List UInt8) : AllAt bs 0 [] := ⟨by omega, by simp, by simp⟩
theorem AllAt.step {bs : List UInt8} {k : Nat} {rs : List ARec} (h : AllAt bs k rs) (hd : (decR (bs.drop k)).code = 0) : AllAt bs (k + (decR (bs.drop k)).n.toNat) (rs ++ [(decR (bs.drop k)).rcd]) := by
  have hn := decR_n hd
  rw [List.length_drop] at hn
  have h1 := h.le
  have h2 := h.few
  refine ⟨by omega, by simp; omega, ?_⟩
  rw [h.all, allR_step hd, List.drop_drop]
  simp
  omega
theorem AllAt.done {bs : List UInt8} {k : Nat} {rs : List ARec} (h : AllAt bs k rs) (hd : (decR (bs.drop k)).code ≠ 0) : allR bs = (rs, k) := by
  rw [h.all, allR_stop hd]; simp

theorem info47 : (Try.prog.info? 47).map (fun i => (i.zero, i.size, i.bytes)) = some (some (.agg #[.int .i64 0, .int .i64 0, .int .i64 0, .string ⟨#[]⟩, .string ⟨#[]⟩, .string ⟨#[]⟩, .int .i64 0, .string ⟨#[]⟩]), 8, 96) := by kernel_rfl

def AllRes (w : World) (p : List ARec × Nat) (e : Ending) (w' : World) : Prop :=
  ∃ a c, e = .returned (.tuple #[.slice a p.1.length c, .int .i64 (p.2 : Int)]) ∧ w'.ownsRow w.heap.size 47 8 (.slice a p.1.length c) p.1.length (p.1.flatMap rcells) ∧ Below w.heap.size w w'

theorem flat_snoc (rs : List ARec) (r : ARec) : (rs ++ [r]).flatMap rcells = rs.flatMap rcells ++ rcells r := by simp
theorem allR_nil : allR [] = ([], 0) := allR_stop (by simp [decR])

set_option maxRecDepth 100000 in
set_option maxHeartbeats 4000000 in
theorem All_none (w : World) : Calls Try.prog 38 #[.slice none 0 0] w (AllRes w (allR [])) := by
  rw [allR_nil]
  have HD := hide (fun W => Decode_any none 0 0 [] W (fun h => absurd rfl h) rfl (by omega) (by unfold maxLen; omega))
  go_enter Try.func38, Try.ntmps38
  go_wp2
  go_loopw [4, 5, 6, 7, 8] (fun v i _ _ _ wr => v = .slice none 0 0 ∧ i = .int .i64 0 ∧ wr = w) (fun _ _ _ _ _ _ => 0)
  case atStart => exact ⟨rfl, rfl, rfl⟩
  case round =>
    obtain ⟨rfl, rfl, rfl⟩ := hrel
    go_wp2_with fail
    refine ((unhide HD) _).mono ?_
    rintro e w1 ⟨b1, rfl⟩
    have HB := hide b1
    clear b1
    simp only [decR, ARec.val, zeroRec]
    go_wp2
    go_ret2
    exact ⟨none, 0, rfl, World.ownsRow_nil _ _ _ _, (unhide HB).alloc (unhide HB).size _⟩

set_option maxRecDepth 100000 in
set_option maxHeartbeats 4000000 in
theorem All_empty (A : Addr) (cap : Nat) (w : World) : Calls Try.prog 38 #[.slice (some A) 0 cap] w (AllRes w (allR [])) := by
  rw [allR_nil]
  have HD := hide (fun W B c => Decode_any (some B) 0 c [] W (fun h => absurd rfl h) rfl (by omega) (by unfold maxLen; omega))
  by_cases hc : cap = 0
  · subst hc
    go_enter Try.func38, Try.ntmps38
    go_wp2
    go_loopw [4, 5, 6, 7, 8] (fun v i _ _ _ wr => v = .slice none 0 0 ∧ i = .int .i64 0 ∧ wr = w) (fun _ _ _ _ _ _ => 0)
    case atStart => exact ⟨rfl, rfl, rfl⟩
    case round =>
      obtain ⟨rfl, rfl, rfl⟩ := hrel
      go_wp2_with fail
      refine ((unhide HD) _ _ _).mono ?_
      rintro e w1 ⟨b1, rfl⟩
      have HB := hide b1
      clear b1
      simp only [decR, ARec.val, zeroRec]
      go_wp2
      go_ret2
      exact ⟨none, 0, rfl, World.ownsRow_nil _ _ _ _, (unhide HB).alloc (unhide HB).size _⟩
  · go_enter Try.func38, Try.ntmps38
    go_wp2
    go_loopw [4, 5, 6, 7, 8] (fun v i _ _ _ wr => v = .slice none 0 0 ∧ i = .int .i64 0 ∧ wr = w) (fun _ _ _ _ _ _ => 0)
    case atStart => exact ⟨rfl, rfl, rfl⟩
    case round =>
      obtain ⟨rfl, rfl, rfl⟩ := hrel
      go_wp2_with fail
      refine ((unhide HD) _ _ _).mono ?_
      rintro e w1 ⟨b1, rfl⟩
      have HB := hide b1
      clear b1
      simp only [decR, ARec.val, zeroRec]
      go_wp2
      go_ret2
      exact ⟨none, 0, rfl, World.ownsRow_nil _ _ _ _, (unhide HB).alloc (unhide HB).size _⟩

end Go.Proofs.Ytlndphpidkacgaa
