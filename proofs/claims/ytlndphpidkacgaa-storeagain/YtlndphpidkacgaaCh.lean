/- Package codec: All, of bytes that lie somewhere. -/
import Derived.Test.YtlndphpidkacgaaCg
namespace Go.Proofs.Ytlndphpidkacgaa
open Go.RowKit
set_option linter.unusedSimpArgs false
set_option linter.unusedVariables false

set_option maxRecDepth 100000 in
set_option maxHeartbeats 4000000 in
theorem All_some (b off L cap : Nat) (bs : List UInt8) (w : World) (hc : ∀ (j : Nat) (x : UInt8), bs[j]? = some x → w.cell? ⟨b, off + j, none⟩ = some (.int .u8 (x.toNat : Int))) (hbl : b < w.heap.size) (hL : bs.length = L) (hcap : L ≤ cap) (hm : L ≤ 1000000) :
    Calls Try.prog 38 #[.slice (some ⟨b, off, none⟩) L cap] w (AllRes w (allR bs)) := by
  obtain ⟨i0, hi0, hz0, hz1, hz2⟩ := info_parts info47
  have HD : Hid (∀ W k A c', Below w.heap.size w W → k ≤ L → L - k ≤ c' → (k < L → A = ⟨b, off + k, none⟩) → Calls Try.prog 36 #[.slice (some A) (L - k) c'] W (DecRes W (decR (bs.drop k)))) := fun W k A c' hW hk hcc hA => by
    refine Decode_any (some A) (L - k) c' (bs.drop k) W (fun h => ?_) (by rw [List.length_drop, hL]) hcc (by unfold maxLen; omega)
    have hlt : k < L := by
      rcases Nat.lt_or_ge k L with h' | h'
      · exact h'
      · exact absurd (List.drop_of_length_le (by omega)) h
    refine ⟨b, off + k, by rw [hA hlt], fun j x hx => ?_⟩
    rw [List.getElem?_drop] at hx
    have := hc (k + j) x hx
    rw [show off + k + j = off + (k + j) by omega]
    exact (hW.cell (p := ⟨b, off + (k + j), none⟩) hbl).trans this
  have HL := hide hL
  clear hc hL
  go_enter Try.func38, Try.ntmps38
  go_wp2
  go_loopw [4, 5, 6, 7, 8] (fun v i _ _ _ wr => ∃ (k m : Nat) (rs : List ARec), k ≤ L ∧ m ≤ k ∧ i = .int .i64 (k : Int) ∧ Hid (∃ a c, v = .slice a m c) ∧ Hid (rs.length = m) ∧ Hid (AllAt bs k rs) ∧ Hid (Below w.heap.size w wr) ∧ Hid (wr.ownsRow w.heap.size 47 8 v m (rs.flatMap rcells))) (fun _ i _ _ _ _ => L - (intOf i).toNat)
  case atStart => exact ⟨0, 0, [], Nat.zero_le _, Nat.zero_le _, rfl, ⟨none, 0, rfl⟩, rfl, AllAt.start bs, Below.refl _ _, World.ownsRow_nil _ _ _ _⟩
  case round =>
    obtain ⟨k, m, rs, hk, hmk, rfl, ⟨va, vc, rfl⟩, HM, HA, HB, HO⟩ := hrel
    obtain ⟨dd, hdd⟩ : ∃ d, d = decR (bs.drop k) := ⟨_, rfl⟩
    have HDD := hide hdd
    have HN : Hid (dd.code = 0 → 5 ≤ dd.n.toNat ∧ dd.n.toNat ≤ L - k ∧ 0 ≤ dd.n) := fun h => by
      have hx := unhide HL
      rw [hdd] at h ⊢
      have h2 := decR_n h
      rw [List.length_drop, hx] at h2
      exact h2
    have HAS : Hid (dd.code = 0 → AllAt bs (k + dd.n.toNat) (rs ++ [dd.rcd])) := fun h => by rw [hdd] at h ⊢; exact (unhide HA).step h
    have HAD : Hid (dd.code ≠ 0 → allR bs = (rs, k)) := fun h => by rw [hdd] at h; exact (unhide HA).done h
    have HC : Hid (∀ A c', L - k ≤ c' → (k < L → A = ⟨b, off + k, none⟩) → Calls Try.prog 36 #[.slice (some A) (L - k) c'] wr (DecRes wr dd)) := fun A c' h1 h2 => by rw [hdd]; exact (unhide HD) wr k A c' (unhide HB) hk h1 h2
    clear hdd
    obtain ⟨⟨rc, rn, ⟨rk, ra, rb, rt⟩, rdd, ru⟩, dn, dcode⟩ := dd
    dsimp only at HN HAS HAD
    by_cases q1 : cap = k
    · subst q1
      obtain rfl : L = cap := by omega
      have hd0 : dcode ≠ 0 := fun h => by have := (unhide HN) h; omega
      go_wp2_with fail
      have HCC := hide ((unhide HC) ⟨b, off, none⟩ 0 (by omega) (by omega))
      rw [Nat.sub_self] at HCC
      refine (unhide HCC).mono ?_
      rintro e w1 ⟨b1, rfl⟩
      have HB1 := hide ((unhide HB).trans (b1.mono (unhide HB).size))
      have HO1 := hide (ownsRow_same (unhide HO) (fun j hj => b1.block j ((unhide HO).lt j hj).2))
      clear b1
      simp only [ARec.val]
      go_wp2
      go_ret2
      rw [(unhide HAD) hd0]
      exact ⟨va, vc, by rw [HM.out]; exact rfl, by rw [HM.out]; exact (unhide HO1).alloc _, (unhide HB1).alloc (unhide HB1).size _⟩
    · go_wp2_with fail
      refine ((unhide HC) ⟨b, off + k, none⟩ (cap - k) (by omega) (fun _ => rfl)).mono ?_
      rintro e w1 ⟨b1, rfl⟩
      have HB1 := hide ((unhide HB).trans (b1.mono (unhide HB).size))
      have HO1 := hide (ownsRow_same (unhide HO) (fun j hj => b1.block j ((unhide HO).lt j hj).2))
      have hz1' : w.heap.size ≤ w1.heap.size := (unhide HB1).size
      clear b1
      simp only [ARec.val]
      by_cases hcode : dcode = 0
      · subst hcode
        obtain ⟨n5, nl, n0⟩ := (unhide HN) rfl
        have HSTEP := hide ((unhide HAS) rfl)
        have hwr : IntKind.i64.wrap ((k : Int) + dn) = (k : Int) + dn := by rw [IntKind.wrap_i64]; omega
        go_wp2_with (at_builtin; refine wpList_append_lies _ rfl _ _ 56 rfl w.heap.size 47 i0 _ 8 96 Try.underlying56 hi0 hz0 hz1 hz2 rfl (by omega) (.slice va m vc) m (rs.flatMap rcells) rfl (((unhide HO1).alloc _).alloc _) ⟨w1.heap.size + 1, 0, none⟩ 1 1 (rcells ⟨rc, rn, ⟨rk, ra, rb, rt⟩, rdd, ru⟩) rfl rfl (World.news_of_block (cs := #[.int .i64 rc, .int .i64 rn, .int .i64 rk, .string ra, .string rb, .string rt, .int .i64 rdd, .string ru]) (t := 47) (fr := (0, 0)) (by rw [show w1.heap.size + 1 = (w1.alloc (.cells #[.int .i64 rc, .int .i64 rn, .int .i64 rk, .string ra, .string rb, .string rt, .int .i64 rdd, .string ru] 47)).heap.size by simp]; exact heap_alloc_new _ _)) (by simp [rcells, Value.oneCell']) (by omega) (by unfold maxLen; omega) (by omega) (by simp; omega) (w1.heap.size + 1 + 1) (by simp) ?_; intro g2 c2 w2 hown2 hgrow hat hlt2)
        have HB2 := hide ((((unhide HB1).alloc hz1' (.cells #[.int .i64 rc, .int .i64 rn, .int .i64 rk, .string ra, .string rb, .string rt, .int .i64 rdd, .string ru] 47)).alloc (by simp; omega) (.cells #[.int .i64 rc, .int .i64 rn, .int .i64 rk, .string ra, .string rb, .string rt, .int .i64 rdd, .string ru] 47)).grown hgrow (by simp; omega) (fun j hj => ((unhide HO1).lt j hj).1))
        have HO2 := hide hown2
        clear hown2 hgrow hat hlt2
        go_roundw
        case rel => exact ⟨k + dn.toNat, m + 1, rs ++ [⟨rc, rn, ⟨rk, ra, rb, rt⟩, rdd, ru⟩], by omega, by omega, by congr 1; omega, ⟨_, _, rfl⟩, hide (by rw [List.length_append, HM.out]; rfl), HSTEP, unhide HB2, by rw [flat_snoc]; exact unhide HO2⟩
        case measure => simp [intOf]; omega
      · go_wp2
        go_ret2
        rw [(unhide HAD) hcode]
        exact ⟨va, vc, by rw [HM.out]; exact rfl, by rw [HM.out]; exact (unhide HO1).alloc _, (unhide HB1).alloc (unhide HB1).size _⟩

end Go.Proofs.Ytlndphpidkacgaa
