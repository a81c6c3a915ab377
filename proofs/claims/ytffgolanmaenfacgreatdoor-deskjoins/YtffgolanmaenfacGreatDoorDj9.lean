/- Texts joined, what is needed of them: Ed Eyd Lp Eye Ef. -/
import Derived.Test.YtffgolanmaenfacGreatDoorDj8
import Derived.Lay
import Derived.Lib.LaidTab
import Derived.Stop.Joined
import Derived.Stop.LaidErr
import Derived.Test.YtffgolanmaenfacGreatDoorTie
namespace Go.Proofs.YtffgolanmaenfacGreatDoor
open Go.RowKit
set_option linter.unusedSimpArgs false
set_option linter.unusedVariables false

/-- A desk's laws: what its New and Do do to a desk in a state, whatever states are. -/
structure DLaw {σ : Type} (G : Nat) (GW : World → Prop) (DR : Nat → World → Nat → List Nat → σ → Prop) (s0 : σ) (tell : σ → List ByteArray → List UInt8) (next : σ → List ByteArray → σ) (fault : List ByteArray → Int × Int) : Prop where
  gw : ∀ {w w' : World} {B : Nat}, GW w → Below B w w' → G ≤ B → GW w'
  gsize : ∀ {w : World}, GW w → G ≤ w.heap.size
  kept : ∀ {N : Nat} {w w' : World} {D : Nat} {own ow : List Nat} {s : σ}, DR N w D own s → Kept ow w w' → (∀ k, k ∈ own → k ∉ ow) → DR N w' D own s
  ge : ∀ {N : Nat} {w : World} {D : Nat} {own : List Nat} {s : σ}, DR N w D own s → ∀ k, k ∈ own → N ≤ k ∧ k < w.heap.size
  new : ∀ w, GW w → Calls Tryz.prog 7 #[] w fun e w' => ∃ D own, e = .returned (.pointer (some ⟨D, 0, none⟩)) ∧ DR w.heap.size w' D own s0 ∧ Below w.heap.size w w'
  bad : ∀ {N : Nat} {w : World} {D : Nat} {own : List Nat} {s : σ} {a : Option Addr} {n cap : Nat} {ls : List ByteArray}, DR N w D own s → GW w → LnAt w a n ls → (fault ls).1 ≠ 0 → Calls Tryz.prog 9 #[.pointer (some ⟨D, 0, none⟩), .slice a n cap] w fun e w' => e = .returned (.tuple #[.string ⟨#[]⟩, .agg #[.int .i64 (fault ls).1, .int .i64 (fault ls).2]]) ∧ Below w.heap.size w w'
  good : ∀ {N : Nat} {w : World} {D : Nat} {own : List Nat} {s : σ} {a : Option Addr} {n cap : Nat} {ls : List ByteArray}, G ≤ N → DR N w D own s → GW w → LnAt w a n ls → (∀ ad, a = some ad → 0 < n → ad.block ∉ own) → total ls ≤ 9000 → (fault ls).1 = 0 → Calls Tryz.prog 9 #[.pointer (some ⟨D, 0, none⟩), .slice a n cap] w fun e w' => e = .returned (.tuple #[.string (B (tell s ls)), .agg #[.int .i64 0, .int .i64 0]]) ∧ ((tell s ls).length ≤ 1000000000 ∧ ∃ own', DR N w' D own' (next s ls) ∧ Next N w w' own own')
  app : ∀ (s : σ) (a b : List ByteArray), tell s (a ++ b) = tell s a ++ tell (next s a) b
  cut0 : ∀ (ls : List ByteArray) (k : Nat), ls.length ≤ 150 → (fault ls).1 = 0 → (fault (ls.take k)).1 = 0 ∧ (fault (ls.drop k)).1 = 0
  cut1 : ∀ (ls : List ByteArray) (k : Nat), ls.length ≤ 150 → (fault ls).1 ≠ 0 → (fault (ls.take k)).1 ≠ 0 ∨ (fault (ls.drop k)).1 ≠ 0
  begun : ∀ w, GW w → Calls Tryz.prog 5 #[] w fun e w' => e = .returned (.bool true) ∧ Below w.heap.size w w'
theorem LnAt.off {w0 : World} {a : Option Addr} {n : Nat} {ls : List ByteArray} (h : LnAt w0 a n ls) {N : Nat} (hN : w0.heap.size ≤ N) {own : List Nat} (ho : ∀ k, k ∈ own → N ≤ k) : ∀ ad, a = some ad → 0 < n → ad.block ∉ own := fun ad e h0 hm => by
  obtain ⟨b, off, e2, hc⟩ := h.2.2.2 h0
  obtain ⟨x, hx⟩ : ∃ x, ls[0]? = some x := ⟨_, List.getElem?_eq_getElem (by rw [h.1]; exact h0)⟩
  have h1 : b < w0.heap.size := ln_lt (hc 0 x hx)
  rw [e] at e2
  injection e2 with e2
  rw [e2] at hm
  have := ho b hm
  omega
theorem total_cut (ls : List ByteArray) (k : Nat) : total (ls.take k) ≤ total ls ∧ total (ls.drop k) ≤ total ls := by
  have h : total ls = total (ls.take k) + total (ls.drop k) := by
    unfold total
    rw [← List.sum_append, ← List.map_append, List.take_append_drop]
  omega
section
variable {σ : Type} {G : Nat} {GW : World → Prop} {DR : Nat → World → Nat → List Nat → σ → Prop} {s0 : σ} {tell : σ → List ByteArray → List UInt8} {next : σ → List ByteArray → σ} {fault : List ByteArray → Int × Int}
/-- Two desks that know nothing of each other. -/
structure DDuo (DR : Nat → World → Nat → List Nat → σ → Prop) (N1 N2 : Nat) (w : World) (D1 D2 : Nat) (o1 o2 : List Nat) (s1 s2 : σ) : Prop where
  one : DR N1 w D1 o1 s1
  two : DR N2 w D2 o2 s2
  dj : ∀ k, k ∈ o1 → k ∉ o2
theorem DDuo.below (L : DLaw G GW DR s0 tell next fault) {N1 N2 : Nat} {w w' : World} {D1 D2 : Nat} {o1 o2 : List Nat} {s1 s2 : σ} (h : DDuo DR N1 N2 w D1 D2 o1 o2 s1 s2) (hb : Below w.heap.size w w') : DDuo DR N1 N2 w' D1 D2 o1 o2 s1 s2 :=
  ⟨L.kept (ow := []) h.one (Kept.of_below hb) (by simp), L.kept (ow := []) h.two (Kept.of_below hb) (by simp), h.dj⟩
theorem DDuo.left (L : DLaw G GW DR s0 tell next fault) {N1 N2 : Nat} {w w' : World} {D1 D2 : Nat} {o1 o2 o1' : List Nat} {s1 s2 s1' : σ} (h : DDuo DR N1 N2 w D1 D2 o1 o2 s1 s2) (hd : DR N1 w' D1 o1' s1') (hn : Next N1 w w' o1 o1') : DDuo DR N1 N2 w' D1 D2 o1' o2 s1' s2 :=
  ⟨hd, L.kept h.two hn.kept (fun k hk hm => h.dj k hm hk), fun k hk hm => (hn.keep k (L.ge h.two k hm).2 (fun h1 => h.dj k h1 hm)).1 hk⟩
theorem DDuo.right (L : DLaw G GW DR s0 tell next fault) {N1 N2 : Nat} {w w' : World} {D1 D2 : Nat} {o1 o2 o2' : List Nat} {s1 s2 s2' : σ} (h : DDuo DR N1 N2 w D1 D2 o1 o2 s1 s2) (hd : DR N2 w' D2 o2' s2') (hn : Next N2 w w' o2 o2') : DDuo DR N1 N2 w' D1 D2 o1 o2' s1 s2' :=
  ⟨L.kept h.one hn.kept (fun k hk hm => h.dj k hk hm), hd, fun k hk hm => (hn.keep k (L.ge h.one k hk).2 (fun h1 => h.dj k hk h1)).1 hm⟩

/-- A block that neither desk has. -/
structure Fr (w : World) (o1 o2 : List Nat) (b : Nat) (x : Obj) : Prop where
  blk : w.heap[b]? = some x
  n1 : b ∉ o1
  n2 : b ∉ o2
theorem Fr.below {w w' : World} {o1 o2 : List Nat} {b : Nat} {x : Obj} (h : Fr w o1 o2 b x) (hb : Below w.heap.size w w') : Fr w' o1 o2 b x := ⟨(hb.block b (Array.getElem?_eq_some_iff.1 h.blk).1).trans h.blk, h.n1, h.n2⟩
theorem Fr.left {N : Nat} {w w' : World} {o1 o2 o1' : List Nat} {b : Nat} {x : Obj} (h : Fr w o1 o2 b x) (hn : Next N w w' o1 o1') : Fr w' o1' o2 b x := by
  have := hn.keep b (Array.getElem?_eq_some_iff.1 h.blk).1 h.n1
  exact ⟨this.2.trans h.blk, this.1, h.n2⟩
theorem Fr.right {N : Nat} {w w' : World} {o1 o2 o2' : List Nat} {b : Nat} {x : Obj} (h : Fr w o1 o2 b x) (hn : Next N w w' o2 o2') : Fr w' o1 o2' b x := by
  have := hn.keep b (Array.getElem?_eq_some_iff.1 h.blk).1 h.n2
  exact ⟨this.2.trans h.blk, h.n1, this.1⟩

set_option maxRecDepth 100000 in
set_option maxHeartbeats 16000000 in
theorem joins_walk (L : DLaw G GW DR s0 tell next fault) (a : Option Addr) (n cap : Nat) (ls : List ByteArray) (c : Int) (w : World) (hg : GW w) (hl : LnAt w a n ls) (hcap : n ≤ cap) (hform : (a = none ∧ n = 0 ∧ cap = 0) ∨ ∃ ad, a = some ad ∧ (0 < cap → ∃ b off, ad = ⟨b, off, none⟩)) :
    Calls Tryz.prog 4 #[.slice a n cap, .int .i64 c] w fun e w' => e = .returned (.bool true) ∧ Below w.heap.size w w' := by
  have HL := hide hl
  have hmx := hl.2.1
  unfold maxLen at hmx
  have hlen := hl.1
  have HG0 := hide hg
  have HLEN := hide hlen
  have HF := hide hform
  clear hl hg hlen hform
  go_enter Tryz.func4, Tryz.ntmps4
  go_wp2_with fail
  refine (L.begun w (unhide HG0)).mono ?_
  rintro e w1 ⟨rfl, b1⟩
  have HB1 := hide b1
  have HG1 := hide (L.gw (unhide HG0) b1 (L.gsize (unhide HG0)))
  have HL1 := hide ((unhide HL).below b1)
  clear b1
  by_cases hn150 : (150 : Int) < (n : Int)
  · --@A1@
    go_wp2
    go_ret
    exact ⟨rfl, unhide HB1⟩
  · --@A2@
    go_wp2_with fail
    refine (slow_any a n cap ls w1 (unhide HL1) (by omega)).mono ?_
    rintro e w1' ⟨⟨r, rfl, hr⟩, rfl⟩
    cases r with
    | true =>
      clear hr
      --@A3@
      go_wp2
      go_ret
      exact ⟨rfl, unhide HB1⟩
    | false =>
      have HTOT := hide (hr rfl)
      clear hr
      obtain ⟨k, hk⟩ : ∃ k, rnd c (n + 1) = k := ⟨_, rfl⟩
      have hkn : k ≤ n := by have := rnd_lt c (k := n + 1) (by omega); omega
      have hv := rnd_val9 c (k := n + 1) (by omega) (by omega)
      rw [hk] at hv
      have hw1 : wrap64 ((n : Int) + 1) = (n : Int) + 1 := by unfold wrap64; omega
      have hw2 : IntKind.u64.wrap ((n : Int) + 1) = (n : Int) + 1 := by rw [wrap_u]; omega
      have hne : ((n : Int) + 1 == 0) = false := by simp; omega
      have hcst : (((n + 1 : Nat) : Int)) = (n : Int) + 1 := by omega
      rw [hcst] at hv
      clear hk hcst
      --@A4@
      go_wp2_with fail
      refine (L.new w1' (unhide HG1)).mono ?_
      rintro e w2 ⟨D1, o1, rfl, hd1, b2⟩
      have HD1 := hide hd1
      have HB2 := hide b2
      have HG2 := hide (L.gw (unhide HG1) b2 (L.gsize (unhide HG1)))
      clear hd1 b2
      --@A5@
      go_wp2_with fail
      refine (L.new w2 (unhide HG2)).mono ?_
      rintro e w3 ⟨D2, o2, rfl, hd2, b3⟩
      have HDUO : Hid (DDuo DR w1'.heap.size w2.heap.size w3 D1 D2 o1 o2 s0 s0) := hide ⟨L.kept (ow := []) (unhide HD1) (Kept.of_below b3) (by simp), hd2, fun x hx hx2 => by have h1 := (L.ge (unhide HD1) x hx).2; have h2 := (L.ge hd2 x hx2).1; omega⟩
      have hN2 : w1'.heap.size ≤ w2.heap.size := (unhide HB2).size
      have HGN : Hid (G ≤ w1'.heap.size) := hide (L.gsize (unhide HG1))
      have HG3 := hide (L.gw (unhide HG2) b3 (L.gsize (unhide HG2)))
      have HB3 : Hid (Below w1'.heap.size w1' w3) := hide ((unhide HB2).trans (b3.mono hN2))
      clear hd2 b3 HD1 HB2 HG2
      have HCUT0 := hide (L.cut0 ls k (by rw [unhide HLEN]; omega))
      have HCUT1 := hide (L.cut1 ls k (by rw [unhide HLEN]; omega))
      have HLT : Hid (∀ W, Below w1'.heap.size w1' W → LnAt W a k (ls.take k) ∧ LnAt W a n ls) := hide fun W hW => by
        have h := (unhide HL1).below hW
        exact ⟨h.take hkn, h⟩
      have HTC := hide (total_cut ls k)
      rcases unhide HF with ⟨rfl, rfl, rfl⟩ | ⟨ad, rfl, had⟩
      · obtain rfl : k = 0 := by omega
        obtain rfl : ls = [] := List.eq_nil_of_length_eq_zero (unhide HLEN)
        have HLD : Hid (∀ W, Below w1'.heap.size w1' W → LnAt W none 0 []) := hide fun W hW => ((unhide HLT) W hW).2
        rw [List.take_nil] at HLT HCUT0 HCUT1 HTC
        rw [List.drop_nil] at HCUT0 HCUT1 HTC
        by_cases hfa : (fault []).1 = 0
        · have HFA := hide hfa
          have HFT := hide ((unhide HCUT0) hfa).1
          have HFD := hide ((unhide HCUT0) hfa).2
          clear hfa HCUT0 HCUT1
          --@Na0@
          go_wp2_with fail
          refine (L.good (unhide HGN) (unhide HDUO).one (unhide HG3) ((unhide HLT) _ (unhide HB3)).1 (LnAt.off (((unhide HLT) w1' (Below.refl _ _)).1) (Nat.le_refl _) (fun k hk => (L.ge (unhide HDUO).one k hk).1)) (Nat.le_trans (unhide HTC).1 (unhide HTOT)) (unhide HFT)).mono ?_
          rintro e w4 ⟨rfl, hlen4, ow4, hd4, hn4⟩
          have HD4 := hide ((unhide HDUO).left L hd4 hn4)
          have HBn4 : Hid (Below w1'.heap.size w1' w4) := hide ((unhide HB3).trans (hn4.below))
          have HGn4 := hide (L.gw (unhide HG3) hn4.below (unhide HGN))
          have HLE4 := hide hlen4
          clear hd4 hn4 hlen4
          obtain ⟨V4, hV4⟩ : ∃ V, V = w4.alloc (.cells #[.int .i64 0, .int .i64 0] 31) := ⟨_, rfl⟩
          have hbV4 : Below w4.heap.size w4 V4 := by rw [hV4]; exact (Below.refl _ _).alloc (Nat.le_refl _) _
          have HDV4 := hide ((unhide HD4).below L hbV4)
          have HBV4 : Hid (Below w1'.heap.size w1' V4) := hide ((unhide HBn4).trans (hbV4.mono (unhide HBn4).size))
          have HGV4 := hide (L.gw (unhide HGn4) hbV4 (L.gsize (unhide HGn4)))
          have HRx4_4 : Hid (Fr V4 ow4 o2 w4.heap.size (.cells #[.int .i64 0, .int .i64 0] 31 (0, 0))) := hide ⟨by rw [hV4]; exact heap_alloc_new _ _, fun h => by have := (L.ge (unhide HD4).one _ h).2; omega, fun h => by have := (L.ge (unhide HD4).two _ h).2; omega⟩
          have HV4 := hide hV4
          clear hbV4 hV4
          --@Na1@
          go_wp2_with fail
          rw [← unhide HV4]
          refine (L.good (Nat.le_trans (unhide HGN) hN2) (unhide HDV4).two (unhide HGV4) ((unhide HLT) _ (unhide HBV4)).2 (LnAt.off (((unhide HLT) w1' (Below.refl _ _)).2) (hN2) (fun k hk => (L.ge (unhide HDV4).two k hk).1)) (unhide HTOT) (unhide HFA)).mono ?_
          rintro e w5 ⟨rfl, hlen5, ow5, hd5, hn5⟩
          have HD5 := hide ((unhide HDV4).right L hd5 hn5)
          have HBn5 : Hid (Below w1'.heap.size w1' w5) := hide ((unhide HBV4).trans (hn5.below.mono hN2))
          have HGn5 := hide (L.gw (unhide HGV4) hn5.below (Nat.le_trans (unhide HGN) hN2))
          have HLE5 := hide hlen5
          have HRx4_5 := hide ((unhide HRx4_4).right hn5)
          clear hd5 hn5 hlen5
          obtain ⟨V5, hV5⟩ : ∃ V, V = w5.alloc (.cells #[.int .i64 0, .int .i64 0] 31) := ⟨_, rfl⟩
          have hbV5 : Below w5.heap.size w5 V5 := by rw [hV5]; exact (Below.refl _ _).alloc (Nat.le_refl _) _
          have HDV5 := hide ((unhide HD5).below L hbV5)
          have HBV5 : Hid (Below w1'.heap.size w1' V5) := hide ((unhide HBn5).trans (hbV5.mono (unhide HBn5).size))
          have HGV5 := hide (L.gw (unhide HGn5) hbV5 (L.gsize (unhide HGn5)))
          have HRx5_5 : Hid (Fr V5 ow4 ow5 w5.heap.size (.cells #[.int .i64 0, .int .i64 0] 31 (0, 0))) := hide ⟨by rw [hV5]; exact heap_alloc_new _ _, fun h => by have := (L.ge (unhide HD5).one _ h).2; omega, fun h => by have := (L.ge (unhide HD5).two _ h).2; omega⟩
          have HRx4_V5 := hide ((unhide HRx4_5).below hbV5)
          have HV5 := hide hV5
          clear hbV5 hV5
          clear HRx4_5
          have HRx4_5 := HRx4_V5
          clear HRx4_V5
          --@Na2@
          go_wp2_with fail
          rw [← unhide HV5]
          refine (L.good (unhide HGN) (unhide HDV5).one (unhide HGV5) ((unhide HLD) _ (unhide HBV5)) (LnAt.off (((unhide HLD) w1' (Below.refl _ _))) (Nat.le_refl _) (fun k hk => (L.ge (unhide HDV5).one k hk).1)) (Nat.le_trans (unhide HTC).2 (unhide HTOT)) (unhide HFD)).mono ?_
          rintro e w6 ⟨rfl, hlen6, ow6, hd6, hn6⟩
          have HD6 := hide ((unhide HDV5).left L hd6 hn6)
          have HBn6 : Hid (Below w1'.heap.size w1' w6) := hide ((unhide HBV5).trans (hn6.below))
          have HGn6 := hide (L.gw (unhide HGV5) hn6.below (unhide HGN))
          have HLE6 := hide hlen6
          have HRx4_6 := hide ((unhide HRx4_5).left hn6)
          have HRx5_6 := hide ((unhide HRx5_5).left hn6)
          clear hd6 hn6 hlen6
          obtain ⟨V6, hV6⟩ : ∃ V, V = w6.alloc (.cells #[.int .i64 0, .int .i64 0] 31) := ⟨_, rfl⟩
          have hbV6 : Below w6.heap.size w6 V6 := by rw [hV6]; exact (Below.refl _ _).alloc (Nat.le_refl _) _
          have HDV6 := hide ((unhide HD6).below L hbV6)
          have HBV6 : Hid (Below w1'.heap.size w1' V6) := hide ((unhide HBn6).trans (hbV6.mono (unhide HBn6).size))
          have HGV6 := hide (L.gw (unhide HGn6) hbV6 (L.gsize (unhide HGn6)))
          have HRx6_6 : Hid (Fr V6 ow6 ow5 w6.heap.size (.cells #[.int .i64 0, .int .i64 0] 31 (0, 0))) := hide ⟨by rw [hV6]; exact heap_alloc_new _ _, fun h => by have := (L.ge (unhide HD6).one _ h).2; omega, fun h => by have := (L.ge (unhide HD6).two _ h).2; omega⟩
          have HRx4_V6 := hide ((unhide HRx4_6).below hbV6)
          have HRx5_V6 := hide ((unhide HRx5_6).below hbV6)
          have HV6 := hide hV6
          clear hbV6 hV6
          clear HRx4_6
          have HRx4_6 := HRx4_V6
          clear HRx4_V6
          clear HRx5_6
          have HRx5_6 := HRx5_V6
          clear HRx5_V6
          obtain ⟨q40, q41, _⟩ := twoK (unhide HRx4_6).blk
          obtain ⟨q50, q51, _⟩ := twoK (unhide HRx5_6).blk
          obtain ⟨q60, q61, _⟩ := twoK (unhide HRx6_6).blk
          rw [unhide HV6] at q40 q50 q60
          --@Na7@
          go_wp2_with fail
          rw [← unhide HV6]
          refine (L.new V6 (unhide HGV6)).mono ?_
          rintro e w7 ⟨D3, o3, rfl, hd3, b7⟩
          clear q40 q41 q50 q51 q60 q61
          have HB7 : Hid (Below w1'.heap.size w1' w7) := hide ((unhide HBV6).trans (b7.mono (unhide HBV6).size))
          have HG7 := hide (L.gw (unhide HGV6) b7 (L.gsize (unhide HGV6)))
          have HD3 := hide hd3
          have HGN6 := hide (L.gsize (unhide HGV6))
          have HK4 : Hid (w7.heap[w4.heap.size]? = some (.cells #[.int .i64 0, .int .i64 0] 31 (0, 0))) := hide ((b7.block _ (Array.getElem?_eq_some_iff.1 (unhide HRx4_6).blk).1).trans (unhide HRx4_6).blk)
          have HK6 : Hid (w7.heap[w6.heap.size]? = some (.cells #[.int .i64 0, .int .i64 0] 31 (0, 0))) := hide ((b7.block _ (Array.getElem?_eq_some_iff.1 (unhide HRx6_6).blk).1).trans (unhide HRx6_6).blk)
          have HQ4 : Hid (w4.heap.size ∉ o3) := hide fun h => by have h1 := (L.ge hd3 _ h).1; have h2 := (Array.getElem?_eq_some_iff.1 (unhide HRx4_6).blk).1; omega
          have HQ6 : Hid (w6.heap.size ∉ o3) := hide fun h => by have h1 := (L.ge hd3 _ h).1; have h2 := (Array.getElem?_eq_some_iff.1 (unhide HRx6_6).blk).1; omega
          have HSZ6 : Hid (w1'.heap.size ≤ V6.heap.size) := hide (unhide HBV6).size
          clear hd3 b7
          --@Na8@
          go_wp2_with fail
          refine (L.good (unhide HGN6) (unhide HD3) (unhide HG7) ((unhide HLT) _ (unhide HB7)).2 (LnAt.off ((unhide HLT) w1' (Below.refl _ _)).2 (unhide HSZ6) (fun k hk => (L.ge (unhide HD3) k hk).1)) (unhide HTOT) (unhide HFA)).mono ?_
          rintro e w8 ⟨rfl, hlen8, ow8, hd8, hn8⟩
          have h4 := (hn8.keep _ (Array.getElem?_eq_some_iff.1 (unhide HK4)).1 (unhide HQ4)).2.trans (unhide HK4)
          have h6 := (hn8.keep _ (Array.getElem?_eq_some_iff.1 (unhide HK6)).1 (unhide HQ6)).2.trans (unhide HK6)
          have HBE : Hid (Below w.heap.size w (w8.alloc (.cells #[.int .i64 0, .int .i64 0] 31))) := hide ((unhide HB1).trans ((((unhide HB7).trans (hn8.below.mono (unhide HSZ6))).mono (unhide HB1).size).alloc (Nat.le_trans (unhide HB1).size (Nat.le_trans (unhide HB7).size hn8.below.size)) _))
          obtain ⟨q40, q41, _⟩ := twoK (show (w8.alloc (.cells #[.int .i64 0, .int .i64 0] 31)).heap[w4.heap.size]? = _ from (Below.heap_alloc _ _ _ (Array.getElem?_eq_some_iff.1 h4).1).trans h4)
          obtain ⟨q60, q61, _⟩ := twoK (show (w8.alloc (.cells #[.int .i64 0, .int .i64 0] 31)).heap[w6.heap.size]? = _ from (Below.heap_alloc _ _ _ (Array.getElem?_eq_some_iff.1 h6).1).trans h6)
          have happ := L.app s0 [] []
          rw [List.append_nil] at happ
          have l4 := unhide HLE4
          have l6 := unhide HLE6
          clear hd8 hn8 hlen8 h4 h6
          obtain ⟨m1, hm1⟩ : ∃ m, B (tell s0 []) = m := ⟨_, rfl⟩
          obtain ⟨m2, hm2⟩ : ∃ m, B (tell (next s0 []) []) = m := ⟨_, rfl⟩
          have hnil : tell (next s0 []) [] = [] := by have := congrArg List.length happ; rw [List.length_append] at this; exact List.eq_nil_of_length_eq_zero (by omega)
          have hz1 : m1.size ≤ 1000000000 := by rw [← hm1]; show (tell s0 []).toArray.size ≤ _; simpa using l4
          have hz2 : m2.size ≤ 1000000000 := by rw [← hm2]; show (tell (next s0 []) []).toArray.size ≤ _; simpa using l6
          have hm : m1 ++ m2 = m1 := by rw [← hm2, hnil, ← hm1]; apply WideShapes.bytes_inj; simp [B]
          have hz : ¬ (9223372036854775807 < m1.size + m2.size) := by omega
          have heq : ((m1 ++ m2).toList == m1.toList) = true := by rw [hm]; simp
          rw [hm1, hm2]
          clear happ l4 l6 hm1 hm2 hz1 hz2 hm hnil
          --@Na9@
          go_wp2
          go_ret
          exact ⟨rfl, unhide HBE⟩
        · have HFA := hide hfa
          by_cases hft : (fault []).1 = 0
          · have HFT := hide hft
            have hfd : (fault []).1 ≠ 0 := by rcases (unhide HCUT1) hfa with h | h; exact absurd hft h; exact h
            have HFD := hide hfd
            clear hfa hft hfd HCUT0 HCUT1
            --@Nb0@
            go_wp2_with fail
            refine (L.good (unhide HGN) (unhide HDUO).one (unhide HG3) ((unhide HLT) _ (unhide HB3)).1 (LnAt.off (((unhide HLT) w1' (Below.refl _ _)).1) (Nat.le_refl _) (fun k hk => (L.ge (unhide HDUO).one k hk).1)) (Nat.le_trans (unhide HTC).1 (unhide HTOT)) (unhide HFT)).mono ?_
            rintro e w4 ⟨rfl, hlen4, ow4, hd4, hn4⟩
            have HD4 := hide ((unhide HDUO).left L hd4 hn4)
            have HBn4 : Hid (Below w1'.heap.size w1' w4) := hide ((unhide HB3).trans (hn4.below))
            have HGn4 := hide (L.gw (unhide HG3) hn4.below (unhide HGN))
            have HLE4 := hide hlen4
            clear hd4 hn4 hlen4
            obtain ⟨V4, hV4⟩ : ∃ V, V = w4.alloc (.cells #[.int .i64 0, .int .i64 0] 31) := ⟨_, rfl⟩
            have hbV4 : Below w4.heap.size w4 V4 := by rw [hV4]; exact (Below.refl _ _).alloc (Nat.le_refl _) _
            have HDV4 := hide ((unhide HD4).below L hbV4)
            have HBV4 : Hid (Below w1'.heap.size w1' V4) := hide ((unhide HBn4).trans (hbV4.mono (unhide HBn4).size))
            have HGV4 := hide (L.gw (unhide HGn4) hbV4 (L.gsize (unhide HGn4)))
            have HRx4_4 : Hid (Fr V4 ow4 o2 w4.heap.size (.cells #[.int .i64 0, .int .i64 0] 31 (0, 0))) := hide ⟨by rw [hV4]; exact heap_alloc_new _ _, fun h => by have := (L.ge (unhide HD4).one _ h).2; omega, fun h => by have := (L.ge (unhide HD4).two _ h).2; omega⟩
            have HV4 := hide hV4
            clear hbV4 hV4
            --@Nb1@
            go_wp2_with fail
            rw [← unhide HV4]
            refine (L.bad (unhide HDV4).two (unhide HGV4) ((unhide HLT) _ (unhide HBV4)).2 (unhide HFA)).mono ?_
            rintro e w5 ⟨rfl, bb5⟩
            have HD5 := hide ((unhide HDV4).below L bb5)
            have HBn5 : Hid (Below w1'.heap.size w1' w5) := hide ((unhide HBV4).trans (bb5.mono (unhide HBV4).size))
            have HGn5 := hide (L.gw (unhide HGV4) bb5 (L.gsize (unhide HGV4)))
            have HRx4_5 := hide ((unhide HRx4_4).below bb5)
            clear bb5
            obtain ⟨x5, hx5⟩ : ∃ x, (fault []).1 = x := ⟨_, rfl⟩
            obtain ⟨y5, hy5⟩ : ∃ y, (fault []).2 = y := ⟨_, rfl⟩
            rw [hx5, hy5]
            have hxb5 : (x5 != 0) = true := by rw [← hx5]; simpa using (unhide HFA)
            clear hx5 hy5
            obtain ⟨V5, hV5⟩ : ∃ V, V = w5.alloc (.cells #[.int .i64 x5, .int .i64 y5] 31) := ⟨_, rfl⟩
            have hbV5 : Below w5.heap.size w5 V5 := by rw [hV5]; exact (Below.refl _ _).alloc (Nat.le_refl _) _
            have HDV5 := hide ((unhide HD5).below L hbV5)
            have HBV5 : Hid (Below w1'.heap.size w1' V5) := hide ((unhide HBn5).trans (hbV5.mono (unhide HBn5).size))
            have HGV5 := hide (L.gw (unhide HGn5) hbV5 (L.gsize (unhide HGn5)))
            have HRx5_5 : Hid (Fr V5 ow4 o2 w5.heap.size (.cells #[.int .i64 x5, .int .i64 y5] 31 (0, 0))) := hide ⟨by rw [hV5]; exact heap_alloc_new _ _, fun h => by have := (L.ge (unhide HD5).one _ h).2; omega, fun h => by have := (L.ge (unhide HD5).two _ h).2; omega⟩
            have HRx4_V5 := hide ((unhide HRx4_5).below hbV5)
            have HV5 := hide hV5
            clear hbV5 hV5
            clear HRx4_5
            have HRx4_5 := HRx4_V5
            clear HRx4_V5
            --@Nb2@
            go_wp2_with fail
            rw [← unhide HV5]
            refine (L.bad (unhide HDV5).one (unhide HGV5) ((unhide HLD) _ (unhide HBV5)) (unhide HFD)).mono ?_
            rintro e w6 ⟨rfl, bb6⟩
            have HD6 := hide ((unhide HDV5).below L bb6)
            have HBn6 : Hid (Below w1'.heap.size w1' w6) := hide ((unhide HBV5).trans (bb6.mono (unhide HBV5).size))
            have HGn6 := hide (L.gw (unhide HGV5) bb6 (L.gsize (unhide HGV5)))
            have HRx4_6 := hide ((unhide HRx4_5).below bb6)
            have HRx5_6 := hide ((unhide HRx5_5).below bb6)
            clear bb6
            obtain ⟨x6, hx6⟩ : ∃ x, (fault []).1 = x := ⟨_, rfl⟩
            obtain ⟨y6, hy6⟩ : ∃ y, (fault []).2 = y := ⟨_, rfl⟩
            rw [hx6, hy6]
            have hxb6 : (x6 != 0) = true := by rw [← hx6]; simpa using (unhide HFD)
            clear hx6 hy6
            obtain ⟨V6, hV6⟩ : ∃ V, V = w6.alloc (.cells #[.int .i64 x6, .int .i64 y6] 31) := ⟨_, rfl⟩
            have hbV6 : Below w6.heap.size w6 V6 := by rw [hV6]; exact (Below.refl _ _).alloc (Nat.le_refl _) _
            have HDV6 := hide ((unhide HD6).below L hbV6)
            have HBV6 : Hid (Below w1'.heap.size w1' V6) := hide ((unhide HBn6).trans (hbV6.mono (unhide HBn6).size))
            have HGV6 := hide (L.gw (unhide HGn6) hbV6 (L.gsize (unhide HGn6)))
            have HRx6_6 : Hid (Fr V6 ow4 o2 w6.heap.size (.cells #[.int .i64 x6, .int .i64 y6] 31 (0, 0))) := hide ⟨by rw [hV6]; exact heap_alloc_new _ _, fun h => by have := (L.ge (unhide HD6).one _ h).2; omega, fun h => by have := (L.ge (unhide HD6).two _ h).2; omega⟩
            have HRx4_V6 := hide ((unhide HRx4_6).below hbV6)
            have HRx5_V6 := hide ((unhide HRx5_6).below hbV6)
            have HV6 := hide hV6
            clear hbV6 hV6
            clear HRx4_6
            have HRx4_6 := HRx4_V6
            clear HRx4_V6
            clear HRx5_6
            have HRx5_6 := HRx5_V6
            clear HRx5_V6
            obtain ⟨q40, q41, _⟩ := twoK (unhide HRx4_6).blk
            obtain ⟨q50, q51, _⟩ := twoK (unhide HRx5_6).blk
            obtain ⟨q60, q61, _⟩ := twoK (unhide HRx6_6).blk
            rw [unhide HV6] at q40 q50 q60
            --@Nb8@
            have HBE := hide ((unhide HB1).trans ((unhide HBV6).mono (unhide HB1).size))
            go_wp2
            go_ret
            exact ⟨rfl, by rw [← unhide HV6]; exact unhide HBE⟩
          · have HFT := hide hft
            by_cases hfd : (fault []).1 = 0
            · have HFD := hide hfd
              clear hfa hft hfd HCUT0 HCUT1
              --@Nc0@
              go_wp2_with fail
              refine (L.bad (unhide HDUO).one (unhide HG3) ((unhide HLT) _ (unhide HB3)).1 (unhide HFT)).mono ?_
              rintro e w4 ⟨rfl, bb4⟩
              have HD4 := hide ((unhide HDUO).below L bb4)
              have HBn4 : Hid (Below w1'.heap.size w1' w4) := hide ((unhide HB3).trans (bb4.mono (unhide HB3).size))
              have HGn4 := hide (L.gw (unhide HG3) bb4 (L.gsize (unhide HG3)))
              clear bb4
              obtain ⟨x4, hx4⟩ : ∃ x, (fault []).1 = x := ⟨_, rfl⟩
              obtain ⟨y4, hy4⟩ : ∃ y, (fault []).2 = y := ⟨_, rfl⟩
              rw [hx4, hy4]
              have hxb4 : (x4 != 0) = true := by rw [← hx4]; simpa using (unhide HFT)
              clear hx4 hy4
              obtain ⟨V4, hV4⟩ : ∃ V, V = w4.alloc (.cells #[.int .i64 x4, .int .i64 y4] 31) := ⟨_, rfl⟩
              have hbV4 : Below w4.heap.size w4 V4 := by rw [hV4]; exact (Below.refl _ _).alloc (Nat.le_refl _) _
              have HDV4 := hide ((unhide HD4).below L hbV4)
              have HBV4 : Hid (Below w1'.heap.size w1' V4) := hide ((unhide HBn4).trans (hbV4.mono (unhide HBn4).size))
              have HGV4 := hide (L.gw (unhide HGn4) hbV4 (L.gsize (unhide HGn4)))
              have HRx4_4 : Hid (Fr V4 o1 o2 w4.heap.size (.cells #[.int .i64 x4, .int .i64 y4] 31 (0, 0))) := hide ⟨by rw [hV4]; exact heap_alloc_new _ _, fun h => by have := (L.ge (unhide HD4).one _ h).2; omega, fun h => by have := (L.ge (unhide HD4).two _ h).2; omega⟩
              have HV4 := hide hV4
              clear hbV4 hV4
              --@Nc1@
              go_wp2_with fail
              rw [← unhide HV4]
              refine (L.bad (unhide HDV4).two (unhide HGV4) ((unhide HLT) _ (unhide HBV4)).2 (unhide HFA)).mono ?_
              rintro e w5 ⟨rfl, bb5⟩
              have HD5 := hide ((unhide HDV4).below L bb5)
              have HBn5 : Hid (Below w1'.heap.size w1' w5) := hide ((unhide HBV4).trans (bb5.mono (unhide HBV4).size))
              have HGn5 := hide (L.gw (unhide HGV4) bb5 (L.gsize (unhide HGV4)))
              have HRx4_5 := hide ((unhide HRx4_4).below bb5)
              clear bb5
              obtain ⟨x5, hx5⟩ : ∃ x, (fault []).1 = x := ⟨_, rfl⟩
              obtain ⟨y5, hy5⟩ : ∃ y, (fault []).2 = y := ⟨_, rfl⟩
              rw [hx5, hy5]
              have hxb5 : (x5 != 0) = true := by rw [← hx5]; simpa using (unhide HFA)
              clear hx5 hy5
              obtain ⟨V5, hV5⟩ : ∃ V, V = w5.alloc (.cells #[.int .i64 x5, .int .i64 y5] 31) := ⟨_, rfl⟩
              have hbV5 : Below w5.heap.size w5 V5 := by rw [hV5]; exact (Below.refl _ _).alloc (Nat.le_refl _) _
              have HDV5 := hide ((unhide HD5).below L hbV5)
              have HBV5 : Hid (Below w1'.heap.size w1' V5) := hide ((unhide HBn5).trans (hbV5.mono (unhide HBn5).size))
              have HGV5 := hide (L.gw (unhide HGn5) hbV5 (L.gsize (unhide HGn5)))
              have HRx5_5 : Hid (Fr V5 o1 o2 w5.heap.size (.cells #[.int .i64 x5, .int .i64 y5] 31 (0, 0))) := hide ⟨by rw [hV5]; exact heap_alloc_new _ _, fun h => by have := (L.ge (unhide HD5).one _ h).2; omega, fun h => by have := (L.ge (unhide HD5).two _ h).2; omega⟩
              have HRx4_V5 := hide ((unhide HRx4_5).below hbV5)
              have HV5 := hide hV5
              clear hbV5 hV5
              clear HRx4_5
              have HRx4_5 := HRx4_V5
              clear HRx4_V5
              --@Nc2@
              go_wp2_with fail
              rw [← unhide HV5]
              refine (L.good (unhide HGN) (unhide HDV5).one (unhide HGV5) ((unhide HLD) _ (unhide HBV5)) (LnAt.off (((unhide HLD) w1' (Below.refl _ _))) (Nat.le_refl _) (fun k hk => (L.ge (unhide HDV5).one k hk).1)) (Nat.le_trans (unhide HTC).2 (unhide HTOT)) (unhide HFD)).mono ?_
              rintro e w6 ⟨rfl, hlen6, ow6, hd6, hn6⟩
              have HD6 := hide ((unhide HDV5).left L hd6 hn6)
              have HBn6 : Hid (Below w1'.heap.size w1' w6) := hide ((unhide HBV5).trans (hn6.below))
              have HGn6 := hide (L.gw (unhide HGV5) hn6.below (unhide HGN))
              have HLE6 := hide hlen6
              have HRx4_6 := hide ((unhide HRx4_5).left hn6)
              have HRx5_6 := hide ((unhide HRx5_5).left hn6)
              clear hd6 hn6 hlen6
              obtain ⟨V6, hV6⟩ : ∃ V, V = w6.alloc (.cells #[.int .i64 0, .int .i64 0] 31) := ⟨_, rfl⟩
              have hbV6 : Below w6.heap.size w6 V6 := by rw [hV6]; exact (Below.refl _ _).alloc (Nat.le_refl _) _
              have HDV6 := hide ((unhide HD6).below L hbV6)
              have HBV6 : Hid (Below w1'.heap.size w1' V6) := hide ((unhide HBn6).trans (hbV6.mono (unhide HBn6).size))
              have HGV6 := hide (L.gw (unhide HGn6) hbV6 (L.gsize (unhide HGn6)))
              have HRx6_6 : Hid (Fr V6 ow6 o2 w6.heap.size (.cells #[.int .i64 0, .int .i64 0] 31 (0, 0))) := hide ⟨by rw [hV6]; exact heap_alloc_new _ _, fun h => by have := (L.ge (unhide HD6).one _ h).2; omega, fun h => by have := (L.ge (unhide HD6).two _ h).2; omega⟩
              have HRx4_V6 := hide ((unhide HRx4_6).below hbV6)
              have HRx5_V6 := hide ((unhide HRx5_6).below hbV6)
              have HV6 := hide hV6
              clear hbV6 hV6
              clear HRx4_6
              have HRx4_6 := HRx4_V6
              clear HRx4_V6
              clear HRx5_6
              have HRx5_6 := HRx5_V6
              clear HRx5_V6
              obtain ⟨q40, q41, _⟩ := twoK (unhide HRx4_6).blk
              obtain ⟨q50, q51, _⟩ := twoK (unhide HRx5_6).blk
              obtain ⟨q60, q61, _⟩ := twoK (unhide HRx6_6).blk
              rw [unhide HV6] at q40 q50 q60
              --@Nc8@
              have HBE := hide ((unhide HB1).trans ((unhide HBV6).mono (unhide HB1).size))
              go_wp2
              go_ret
              exact ⟨rfl, by rw [← unhide HV6]; exact unhide HBE⟩
            · have HFD := hide hfd
              clear hfa hft hfd HCUT0 HCUT1
              --@Nd0@
              go_wp2_with fail
              refine (L.bad (unhide HDUO).one (unhide HG3) ((unhide HLT) _ (unhide HB3)).1 (unhide HFT)).mono ?_
              rintro e w4 ⟨rfl, bb4⟩
              have HD4 := hide ((unhide HDUO).below L bb4)
              have HBn4 : Hid (Below w1'.heap.size w1' w4) := hide ((unhide HB3).trans (bb4.mono (unhide HB3).size))
              have HGn4 := hide (L.gw (unhide HG3) bb4 (L.gsize (unhide HG3)))
              clear bb4
              obtain ⟨x4, hx4⟩ : ∃ x, (fault []).1 = x := ⟨_, rfl⟩
              obtain ⟨y4, hy4⟩ : ∃ y, (fault []).2 = y := ⟨_, rfl⟩
              rw [hx4, hy4]
              have hxb4 : (x4 != 0) = true := by rw [← hx4]; simpa using (unhide HFT)
              clear hx4 hy4
              obtain ⟨V4, hV4⟩ : ∃ V, V = w4.alloc (.cells #[.int .i64 x4, .int .i64 y4] 31) := ⟨_, rfl⟩
              have hbV4 : Below w4.heap.size w4 V4 := by rw [hV4]; exact (Below.refl _ _).alloc (Nat.le_refl _) _
              have HDV4 := hide ((unhide HD4).below L hbV4)
              have HBV4 : Hid (Below w1'.heap.size w1' V4) := hide ((unhide HBn4).trans (hbV4.mono (unhide HBn4).size))
              have HGV4 := hide (L.gw (unhide HGn4) hbV4 (L.gsize (unhide HGn4)))
              have HRx4_4 : Hid (Fr V4 o1 o2 w4.heap.size (.cells #[.int .i64 x4, .int .i64 y4] 31 (0, 0))) := hide ⟨by rw [hV4]; exact heap_alloc_new _ _, fun h => by have := (L.ge (unhide HD4).one _ h).2; omega, fun h => by have := (L.ge (unhide HD4).two _ h).2; omega⟩
              have HV4 := hide hV4
              clear hbV4 hV4
              --@Nd1@
              go_wp2_with fail
              rw [← unhide HV4]
              refine (L.bad (unhide HDV4).two (unhide HGV4) ((unhide HLT) _ (unhide HBV4)).2 (unhide HFA)).mono ?_
              rintro e w5 ⟨rfl, bb5⟩
              have HD5 := hide ((unhide HDV4).below L bb5)
              have HBn5 : Hid (Below w1'.heap.size w1' w5) := hide ((unhide HBV4).trans (bb5.mono (unhide HBV4).size))
              have HGn5 := hide (L.gw (unhide HGV4) bb5 (L.gsize (unhide HGV4)))
              have HRx4_5 := hide ((unhide HRx4_4).below bb5)
              clear bb5
              obtain ⟨x5, hx5⟩ : ∃ x, (fault []).1 = x := ⟨_, rfl⟩
              obtain ⟨y5, hy5⟩ : ∃ y, (fault []).2 = y := ⟨_, rfl⟩
              rw [hx5, hy5]
              have hxb5 : (x5 != 0) = true := by rw [← hx5]; simpa using (unhide HFA)
              clear hx5 hy5
              obtain ⟨V5, hV5⟩ : ∃ V, V = w5.alloc (.cells #[.int .i64 x5, .int .i64 y5] 31) := ⟨_, rfl⟩
              have hbV5 : Below w5.heap.size w5 V5 := by rw [hV5]; exact (Below.refl _ _).alloc (Nat.le_refl _) _
              have HDV5 := hide ((unhide HD5).below L hbV5)
              have HBV5 : Hid (Below w1'.heap.size w1' V5) := hide ((unhide HBn5).trans (hbV5.mono (unhide HBn5).size))
              have HGV5 := hide (L.gw (unhide HGn5) hbV5 (L.gsize (unhide HGn5)))
              have HRx5_5 : Hid (Fr V5 o1 o2 w5.heap.size (.cells #[.int .i64 x5, .int .i64 y5] 31 (0, 0))) := hide ⟨by rw [hV5]; exact heap_alloc_new _ _, fun h => by have := (L.ge (unhide HD5).one _ h).2; omega, fun h => by have := (L.ge (unhide HD5).two _ h).2; omega⟩
              have HRx4_V5 := hide ((unhide HRx4_5).below hbV5)
              have HV5 := hide hV5
              clear hbV5 hV5
              clear HRx4_5
              have HRx4_5 := HRx4_V5
              clear HRx4_V5
              --@Nd2@
              go_wp2_with fail
              rw [← unhide HV5]
              refine (L.bad (unhide HDV5).one (unhide HGV5) ((unhide HLD) _ (unhide HBV5)) (unhide HFD)).mono ?_
              rintro e w6 ⟨rfl, bb6⟩
              have HD6 := hide ((unhide HDV5).below L bb6)
              have HBn6 : Hid (Below w1'.heap.size w1' w6) := hide ((unhide HBV5).trans (bb6.mono (unhide HBV5).size))
              have HGn6 := hide (L.gw (unhide HGV5) bb6 (L.gsize (unhide HGV5)))
              have HRx4_6 := hide ((unhide HRx4_5).below bb6)
              have HRx5_6 := hide ((unhide HRx5_5).below bb6)
              clear bb6
              obtain ⟨x6, hx6⟩ : ∃ x, (fault []).1 = x := ⟨_, rfl⟩
              obtain ⟨y6, hy6⟩ : ∃ y, (fault []).2 = y := ⟨_, rfl⟩
              rw [hx6, hy6]
              have hxb6 : (x6 != 0) = true := by rw [← hx6]; simpa using (unhide HFD)
              clear hx6 hy6
              obtain ⟨V6, hV6⟩ : ∃ V, V = w6.alloc (.cells #[.int .i64 x6, .int .i64 y6] 31) := ⟨_, rfl⟩
              have hbV6 : Below w6.heap.size w6 V6 := by rw [hV6]; exact (Below.refl _ _).alloc (Nat.le_refl _) _
              have HDV6 := hide ((unhide HD6).below L hbV6)
              have HBV6 : Hid (Below w1'.heap.size w1' V6) := hide ((unhide HBn6).trans (hbV6.mono (unhide HBn6).size))
              have HGV6 := hide (L.gw (unhide HGn6) hbV6 (L.gsize (unhide HGn6)))
              have HRx6_6 : Hid (Fr V6 o1 o2 w6.heap.size (.cells #[.int .i64 x6, .int .i64 y6] 31 (0, 0))) := hide ⟨by rw [hV6]; exact heap_alloc_new _ _, fun h => by have := (L.ge (unhide HD6).one _ h).2; omega, fun h => by have := (L.ge (unhide HD6).two _ h).2; omega⟩
              have HRx4_V6 := hide ((unhide HRx4_6).below hbV6)
              have HRx5_V6 := hide ((unhide HRx5_6).below hbV6)
              have HV6 := hide hV6
              clear hbV6 hV6
              clear HRx4_6
              have HRx4_6 := HRx4_V6
              clear HRx4_V6
              clear HRx5_6
              have HRx5_6 := HRx5_V6
              clear HRx5_V6
              obtain ⟨q40, q41, _⟩ := twoK (unhide HRx4_6).blk
              obtain ⟨q50, q51, _⟩ := twoK (unhide HRx5_6).blk
              obtain ⟨q60, q61, _⟩ := twoK (unhide HRx6_6).blk
              rw [unhide HV6] at q40 q50 q60
              --@Nd8@
              have HBE := hide ((unhide HB1).trans ((unhide HBV6).mono (unhide HB1).size))
              go_wp2
              go_ret
              exact ⟨rfl, by rw [← unhide HV6]; exact unhide HBE⟩
      · by_cases hkc : k = cap
        · have HLD : Hid (∀ W, Below w1'.heap.size w1' W → LnAt W (some ad) 0 (ls.drop k)) := hide fun W hW => ⟨by rw [List.length_drop, unhide HLEN]; omega, Nat.zero_le _, fun x hx => ((unhide HLT) W hW).2.2.2.1 x (List.mem_of_mem_drop hx), fun h => absurd h (Nat.lt_irrefl _)⟩
          obtain rfl : k = n := by omega
          subst hkc
          clear had
          by_cases hfa : (fault ls).1 = 0
          · have HFA := hide hfa
            have HFT := hide ((unhide HCUT0) hfa).1
            have HFD := hide ((unhide HCUT0) hfa).2
            clear hfa HCUT0 HCUT1
            --@Ua0@
            go_wp2_with fail
            refine (L.good (unhide HGN) (unhide HDUO).one (unhide HG3) ((unhide HLT) _ (unhide HB3)).1 (LnAt.off (((unhide HLT) w1' (Below.refl _ _)).1) (Nat.le_refl _) (fun k hk => (L.ge (unhide HDUO).one k hk).1)) (Nat.le_trans (unhide HTC).1 (unhide HTOT)) (unhide HFT)).mono ?_
            rintro e w4 ⟨rfl, hlen4, ow4, hd4, hn4⟩
            have HD4 := hide ((unhide HDUO).left L hd4 hn4)
            have HBn4 : Hid (Below w1'.heap.size w1' w4) := hide ((unhide HB3).trans (hn4.below))
            have HGn4 := hide (L.gw (unhide HG3) hn4.below (unhide HGN))
            have HLE4 := hide hlen4
            clear hd4 hn4 hlen4
            obtain ⟨V4, hV4⟩ : ∃ V, V = w4.alloc (.cells #[.int .i64 0, .int .i64 0] 31) := ⟨_, rfl⟩
            have hbV4 : Below w4.heap.size w4 V4 := by rw [hV4]; exact (Below.refl _ _).alloc (Nat.le_refl _) _
            have HDV4 := hide ((unhide HD4).below L hbV4)
            have HBV4 : Hid (Below w1'.heap.size w1' V4) := hide ((unhide HBn4).trans (hbV4.mono (unhide HBn4).size))
            have HGV4 := hide (L.gw (unhide HGn4) hbV4 (L.gsize (unhide HGn4)))
            have HRx4_4 : Hid (Fr V4 ow4 o2 w4.heap.size (.cells #[.int .i64 0, .int .i64 0] 31 (0, 0))) := hide ⟨by rw [hV4]; exact heap_alloc_new _ _, fun h => by have := (L.ge (unhide HD4).one _ h).2; omega, fun h => by have := (L.ge (unhide HD4).two _ h).2; omega⟩
            have HV4 := hide hV4
            clear hbV4 hV4
            --@Ua1@
            go_wp2_with fail
            rw [← unhide HV4]
            refine (L.good (Nat.le_trans (unhide HGN) hN2) (unhide HDV4).two (unhide HGV4) ((unhide HLT) _ (unhide HBV4)).2 (LnAt.off (((unhide HLT) w1' (Below.refl _ _)).2) (hN2) (fun k hk => (L.ge (unhide HDV4).two k hk).1)) (unhide HTOT) (unhide HFA)).mono ?_
            rintro e w5 ⟨rfl, hlen5, ow5, hd5, hn5⟩
            have HD5 := hide ((unhide HDV4).right L hd5 hn5)
            have HBn5 : Hid (Below w1'.heap.size w1' w5) := hide ((unhide HBV4).trans (hn5.below.mono hN2))
            have HGn5 := hide (L.gw (unhide HGV4) hn5.below (Nat.le_trans (unhide HGN) hN2))
            have HLE5 := hide hlen5
            have HRx4_5 := hide ((unhide HRx4_4).right hn5)
            clear hd5 hn5 hlen5
            obtain ⟨V5, hV5⟩ : ∃ V, V = w5.alloc (.cells #[.int .i64 0, .int .i64 0] 31) := ⟨_, rfl⟩
            have hbV5 : Below w5.heap.size w5 V5 := by rw [hV5]; exact (Below.refl _ _).alloc (Nat.le_refl _) _
            have HDV5 := hide ((unhide HD5).below L hbV5)
            have HBV5 : Hid (Below w1'.heap.size w1' V5) := hide ((unhide HBn5).trans (hbV5.mono (unhide HBn5).size))
            have HGV5 := hide (L.gw (unhide HGn5) hbV5 (L.gsize (unhide HGn5)))
            have HRx5_5 : Hid (Fr V5 ow4 ow5 w5.heap.size (.cells #[.int .i64 0, .int .i64 0] 31 (0, 0))) := hide ⟨by rw [hV5]; exact heap_alloc_new _ _, fun h => by have := (L.ge (unhide HD5).one _ h).2; omega, fun h => by have := (L.ge (unhide HD5).two _ h).2; omega⟩
            have HRx4_V5 := hide ((unhide HRx4_5).below hbV5)
            have HV5 := hide hV5
            clear hbV5 hV5
            clear HRx4_5
            have HRx4_5 := HRx4_V5
            clear HRx4_V5
            --@Ua2@
            go_wp2_with fail
            rw [← unhide HV5]
            refine (L.good (unhide HGN) (unhide HDV5).one (unhide HGV5) ((unhide HLD) _ (unhide HBV5)) (LnAt.off (((unhide HLD) w1' (Below.refl _ _))) (Nat.le_refl _) (fun k hk => (L.ge (unhide HDV5).one k hk).1)) (Nat.le_trans (unhide HTC).2 (unhide HTOT)) (unhide HFD)).mono ?_
            rintro e w6 ⟨rfl, hlen6, ow6, hd6, hn6⟩
            have HD6 := hide ((unhide HDV5).left L hd6 hn6)
            have HBn6 : Hid (Below w1'.heap.size w1' w6) := hide ((unhide HBV5).trans (hn6.below))
            have HGn6 := hide (L.gw (unhide HGV5) hn6.below (unhide HGN))
            have HLE6 := hide hlen6
            have HRx4_6 := hide ((unhide HRx4_5).left hn6)
            have HRx5_6 := hide ((unhide HRx5_5).left hn6)
            clear hd6 hn6 hlen6
            obtain ⟨V6, hV6⟩ : ∃ V, V = w6.alloc (.cells #[.int .i64 0, .int .i64 0] 31) := ⟨_, rfl⟩
            have hbV6 : Below w6.heap.size w6 V6 := by rw [hV6]; exact (Below.refl _ _).alloc (Nat.le_refl _) _
            have HDV6 := hide ((unhide HD6).below L hbV6)
            have HBV6 : Hid (Below w1'.heap.size w1' V6) := hide ((unhide HBn6).trans (hbV6.mono (unhide HBn6).size))
            have HGV6 := hide (L.gw (unhide HGn6) hbV6 (L.gsize (unhide HGn6)))
            have HRx6_6 : Hid (Fr V6 ow6 ow5 w6.heap.size (.cells #[.int .i64 0, .int .i64 0] 31 (0, 0))) := hide ⟨by rw [hV6]; exact heap_alloc_new _ _, fun h => by have := (L.ge (unhide HD6).one _ h).2; omega, fun h => by have := (L.ge (unhide HD6).two _ h).2; omega⟩
            have HRx4_V6 := hide ((unhide HRx4_6).below hbV6)
            have HRx5_V6 := hide ((unhide HRx5_6).below hbV6)
            have HV6 := hide hV6
            clear hbV6 hV6
            clear HRx4_6
            have HRx4_6 := HRx4_V6
            clear HRx4_V6
            clear HRx5_6
            have HRx5_6 := HRx5_V6
            clear HRx5_V6
            obtain ⟨q40, q41, _⟩ := twoK (unhide HRx4_6).blk
            obtain ⟨q50, q51, _⟩ := twoK (unhide HRx5_6).blk
            obtain ⟨q60, q61, _⟩ := twoK (unhide HRx6_6).blk
            rw [unhide HV6] at q40 q50 q60
            --@Ua7@
            go_wp2_with fail
            rw [← unhide HV6]
            refine (L.new V6 (unhide HGV6)).mono ?_
            rintro e w7 ⟨D3, o3, rfl, hd3, b7⟩
            clear q40 q41 q50 q51 q60 q61
            have HB7 : Hid (Below w1'.heap.size w1' w7) := hide ((unhide HBV6).trans (b7.mono (unhide HBV6).size))
            have HG7 := hide (L.gw (unhide HGV6) b7 (L.gsize (unhide HGV6)))
            have HD3 := hide hd3
            have HGN6 := hide (L.gsize (unhide HGV6))
            have HK4 : Hid (w7.heap[w4.heap.size]? = some (.cells #[.int .i64 0, .int .i64 0] 31 (0, 0))) := hide ((b7.block _ (Array.getElem?_eq_some_iff.1 (unhide HRx4_6).blk).1).trans (unhide HRx4_6).blk)
            have HK6 : Hid (w7.heap[w6.heap.size]? = some (.cells #[.int .i64 0, .int .i64 0] 31 (0, 0))) := hide ((b7.block _ (Array.getElem?_eq_some_iff.1 (unhide HRx6_6).blk).1).trans (unhide HRx6_6).blk)
            have HQ4 : Hid (w4.heap.size ∉ o3) := hide fun h => by have h1 := (L.ge hd3 _ h).1; have h2 := (Array.getElem?_eq_some_iff.1 (unhide HRx4_6).blk).1; omega
            have HQ6 : Hid (w6.heap.size ∉ o3) := hide fun h => by have h1 := (L.ge hd3 _ h).1; have h2 := (Array.getElem?_eq_some_iff.1 (unhide HRx6_6).blk).1; omega
            have HSZ6 : Hid (w1'.heap.size ≤ V6.heap.size) := hide (unhide HBV6).size
            clear hd3 b7
            --@Ua8@
            go_wp2_with fail
            refine (L.good (unhide HGN6) (unhide HD3) (unhide HG7) ((unhide HLT) _ (unhide HB7)).2 (LnAt.off ((unhide HLT) w1' (Below.refl _ _)).2 (unhide HSZ6) (fun k hk => (L.ge (unhide HD3) k hk).1)) (unhide HTOT) (unhide HFA)).mono ?_
            rintro e w8 ⟨rfl, hlen8, ow8, hd8, hn8⟩
            have h4 := (hn8.keep _ (Array.getElem?_eq_some_iff.1 (unhide HK4)).1 (unhide HQ4)).2.trans (unhide HK4)
            have h6 := (hn8.keep _ (Array.getElem?_eq_some_iff.1 (unhide HK6)).1 (unhide HQ6)).2.trans (unhide HK6)
            have HBE : Hid (Below w.heap.size w (w8.alloc (.cells #[.int .i64 0, .int .i64 0] 31))) := hide ((unhide HB1).trans ((((unhide HB7).trans (hn8.below.mono (unhide HSZ6))).mono (unhide HB1).size).alloc (Nat.le_trans (unhide HB1).size (Nat.le_trans (unhide HB7).size hn8.below.size)) _))
            obtain ⟨q40, q41, _⟩ := twoK (show (w8.alloc (.cells #[.int .i64 0, .int .i64 0] 31)).heap[w4.heap.size]? = _ from (Below.heap_alloc _ _ _ (Array.getElem?_eq_some_iff.1 h4).1).trans h4)
            obtain ⟨q60, q61, _⟩ := twoK (show (w8.alloc (.cells #[.int .i64 0, .int .i64 0] 31)).heap[w6.heap.size]? = _ from (Below.heap_alloc _ _ _ (Array.getElem?_eq_some_iff.1 h6).1).trans h6)
            have happ := L.app s0 (ls.take k) (ls.drop k)
            rw [List.take_append_drop] at happ
            have l4 := unhide HLE4
            have l6 := unhide HLE6
            clear hd8 hn8 hlen8 h4 h6
            obtain ⟨m1, hm1⟩ : ∃ m, B (tell s0 (ls.take k)) = m := ⟨_, rfl⟩
            obtain ⟨m2, hm2⟩ : ∃ m, B (tell (next s0 (ls.take k)) (ls.drop k)) = m := ⟨_, rfl⟩
            obtain ⟨m3, hm3⟩ : ∃ m, B (tell s0 ls) = m := ⟨_, rfl⟩
            have hz1 : m1.size ≤ 1000000000 := by rw [← hm1]; show (tell s0 (ls.take k)).toArray.size ≤ _; simpa using l4
            have hz2 : m2.size ≤ 1000000000 := by rw [← hm2]; show (tell (next s0 (ls.take k)) (ls.drop k)).toArray.size ≤ _; simpa using l6
            have hm : m1 ++ m2 = m3 := by
              rw [← hm1, ← hm2, ← hm3, happ]
              apply WideShapes.bytes_inj
              simp [B]
            have hz : ¬ (9223372036854775807 < m1.size + m2.size) := by omega
            have heq : ((m1 ++ m2).toList == m3.toList) = true := by rw [hm]; simp
            rw [hm1, hm2, hm3]
            clear happ l4 l6 hm1 hm2 hm3 hz1 hz2 hm
            --@Ua9@
            go_wp2
            go_ret
            exact ⟨rfl, unhide HBE⟩
          · have HFA := hide hfa
            by_cases hft : (fault (ls.take k)).1 = 0
            · have HFT := hide hft
              have hfd : (fault (ls.drop k)).1 ≠ 0 := by rcases (unhide HCUT1) hfa with h | h; exact absurd hft h; exact h
              have HFD := hide hfd
              clear hfa hft hfd HCUT0 HCUT1
              --@Ub0@
              go_wp2_with fail
              refine (L.good (unhide HGN) (unhide HDUO).one (unhide HG3) ((unhide HLT) _ (unhide HB3)).1 (LnAt.off (((unhide HLT) w1' (Below.refl _ _)).1) (Nat.le_refl _) (fun k hk => (L.ge (unhide HDUO).one k hk).1)) (Nat.le_trans (unhide HTC).1 (unhide HTOT)) (unhide HFT)).mono ?_
              rintro e w4 ⟨rfl, hlen4, ow4, hd4, hn4⟩
              have HD4 := hide ((unhide HDUO).left L hd4 hn4)
              have HBn4 : Hid (Below w1'.heap.size w1' w4) := hide ((unhide HB3).trans (hn4.below))
              have HGn4 := hide (L.gw (unhide HG3) hn4.below (unhide HGN))
              have HLE4 := hide hlen4
              clear hd4 hn4 hlen4
              obtain ⟨V4, hV4⟩ : ∃ V, V = w4.alloc (.cells #[.int .i64 0, .int .i64 0] 31) := ⟨_, rfl⟩
              have hbV4 : Below w4.heap.size w4 V4 := by rw [hV4]; exact (Below.refl _ _).alloc (Nat.le_refl _) _
              have HDV4 := hide ((unhide HD4).below L hbV4)
              have HBV4 : Hid (Below w1'.heap.size w1' V4) := hide ((unhide HBn4).trans (hbV4.mono (unhide HBn4).size))
              have HGV4 := hide (L.gw (unhide HGn4) hbV4 (L.gsize (unhide HGn4)))
              have HRx4_4 : Hid (Fr V4 ow4 o2 w4.heap.size (.cells #[.int .i64 0, .int .i64 0] 31 (0, 0))) := hide ⟨by rw [hV4]; exact heap_alloc_new _ _, fun h => by have := (L.ge (unhide HD4).one _ h).2; omega, fun h => by have := (L.ge (unhide HD4).two _ h).2; omega⟩
              have HV4 := hide hV4
              clear hbV4 hV4
              --@Ub1@
              go_wp2_with fail
              rw [← unhide HV4]
              refine (L.bad (unhide HDV4).two (unhide HGV4) ((unhide HLT) _ (unhide HBV4)).2 (unhide HFA)).mono ?_
              rintro e w5 ⟨rfl, bb5⟩
              have HD5 := hide ((unhide HDV4).below L bb5)
              have HBn5 : Hid (Below w1'.heap.size w1' w5) := hide ((unhide HBV4).trans (bb5.mono (unhide HBV4).size))
              have HGn5 := hide (L.gw (unhide HGV4) bb5 (L.gsize (unhide HGV4)))
              have HRx4_5 := hide ((unhide HRx4_4).below bb5)
              clear bb5
              obtain ⟨x5, hx5⟩ : ∃ x, (fault ls).1 = x := ⟨_, rfl⟩
              obtain ⟨y5, hy5⟩ : ∃ y, (fault ls).2 = y := ⟨_, rfl⟩
              rw [hx5, hy5]
              have hxb5 : (x5 != 0) = true := by rw [← hx5]; simpa using (unhide HFA)
              clear hx5 hy5
              obtain ⟨V5, hV5⟩ : ∃ V, V = w5.alloc (.cells #[.int .i64 x5, .int .i64 y5] 31) := ⟨_, rfl⟩
              have hbV5 : Below w5.heap.size w5 V5 := by rw [hV5]; exact (Below.refl _ _).alloc (Nat.le_refl _) _
              have HDV5 := hide ((unhide HD5).below L hbV5)
              have HBV5 : Hid (Below w1'.heap.size w1' V5) := hide ((unhide HBn5).trans (hbV5.mono (unhide HBn5).size))
              have HGV5 := hide (L.gw (unhide HGn5) hbV5 (L.gsize (unhide HGn5)))
              have HRx5_5 : Hid (Fr V5 ow4 o2 w5.heap.size (.cells #[.int .i64 x5, .int .i64 y5] 31 (0, 0))) := hide ⟨by rw [hV5]; exact heap_alloc_new _ _, fun h => by have := (L.ge (unhide HD5).one _ h).2; omega, fun h => by have := (L.ge (unhide HD5).two _ h).2; omega⟩
              have HRx4_V5 := hide ((unhide HRx4_5).below hbV5)
              have HV5 := hide hV5
              clear hbV5 hV5
              clear HRx4_5
              have HRx4_5 := HRx4_V5
              clear HRx4_V5
              --@Ub2@
              go_wp2_with fail
              rw [← unhide HV5]
              refine (L.bad (unhide HDV5).one (unhide HGV5) ((unhide HLD) _ (unhide HBV5)) (unhide HFD)).mono ?_
              rintro e w6 ⟨rfl, bb6⟩
              have HD6 := hide ((unhide HDV5).below L bb6)
              have HBn6 : Hid (Below w1'.heap.size w1' w6) := hide ((unhide HBV5).trans (bb6.mono (unhide HBV5).size))
              have HGn6 := hide (L.gw (unhide HGV5) bb6 (L.gsize (unhide HGV5)))
              have HRx4_6 := hide ((unhide HRx4_5).below bb6)
              have HRx5_6 := hide ((unhide HRx5_5).below bb6)
              clear bb6
              obtain ⟨x6, hx6⟩ : ∃ x, (fault (ls.drop k)).1 = x := ⟨_, rfl⟩
              obtain ⟨y6, hy6⟩ : ∃ y, (fault (ls.drop k)).2 = y := ⟨_, rfl⟩
              rw [hx6, hy6]
              have hxb6 : (x6 != 0) = true := by rw [← hx6]; simpa using (unhide HFD)
              clear hx6 hy6
              obtain ⟨V6, hV6⟩ : ∃ V, V = w6.alloc (.cells #[.int .i64 x6, .int .i64 y6] 31) := ⟨_, rfl⟩
              have hbV6 : Below w6.heap.size w6 V6 := by rw [hV6]; exact (Below.refl _ _).alloc (Nat.le_refl _) _
              have HDV6 := hide ((unhide HD6).below L hbV6)
              have HBV6 : Hid (Below w1'.heap.size w1' V6) := hide ((unhide HBn6).trans (hbV6.mono (unhide HBn6).size))
              have HGV6 := hide (L.gw (unhide HGn6) hbV6 (L.gsize (unhide HGn6)))
              have HRx6_6 : Hid (Fr V6 ow4 o2 w6.heap.size (.cells #[.int .i64 x6, .int .i64 y6] 31 (0, 0))) := hide ⟨by rw [hV6]; exact heap_alloc_new _ _, fun h => by have := (L.ge (unhide HD6).one _ h).2; omega, fun h => by have := (L.ge (unhide HD6).two _ h).2; omega⟩
              have HRx4_V6 := hide ((unhide HRx4_6).below hbV6)
              have HRx5_V6 := hide ((unhide HRx5_6).below hbV6)
              have HV6 := hide hV6
              clear hbV6 hV6
              clear HRx4_6
              have HRx4_6 := HRx4_V6
              clear HRx4_V6
              clear HRx5_6
              have HRx5_6 := HRx5_V6
              clear HRx5_V6
              obtain ⟨q40, q41, _⟩ := twoK (unhide HRx4_6).blk
              obtain ⟨q50, q51, _⟩ := twoK (unhide HRx5_6).blk
              obtain ⟨q60, q61, _⟩ := twoK (unhide HRx6_6).blk
              rw [unhide HV6] at q40 q50 q60
              --@Ub8@
              have HBE := hide ((unhide HB1).trans ((unhide HBV6).mono (unhide HB1).size))
              go_wp2
              go_ret
              exact ⟨rfl, by rw [← unhide HV6]; exact unhide HBE⟩
            · have HFT := hide hft
              by_cases hfd : (fault (ls.drop k)).1 = 0
              · have HFD := hide hfd
                clear hfa hft hfd HCUT0 HCUT1
                --@Uc0@
                go_wp2_with fail
                refine (L.bad (unhide HDUO).one (unhide HG3) ((unhide HLT) _ (unhide HB3)).1 (unhide HFT)).mono ?_
                rintro e w4 ⟨rfl, bb4⟩
                have HD4 := hide ((unhide HDUO).below L bb4)
                have HBn4 : Hid (Below w1'.heap.size w1' w4) := hide ((unhide HB3).trans (bb4.mono (unhide HB3).size))
                have HGn4 := hide (L.gw (unhide HG3) bb4 (L.gsize (unhide HG3)))
                clear bb4
                obtain ⟨x4, hx4⟩ : ∃ x, (fault (ls.take k)).1 = x := ⟨_, rfl⟩
                obtain ⟨y4, hy4⟩ : ∃ y, (fault (ls.take k)).2 = y := ⟨_, rfl⟩
                rw [hx4, hy4]
                have hxb4 : (x4 != 0) = true := by rw [← hx4]; simpa using (unhide HFT)
                clear hx4 hy4
                obtain ⟨V4, hV4⟩ : ∃ V, V = w4.alloc (.cells #[.int .i64 x4, .int .i64 y4] 31) := ⟨_, rfl⟩
                have hbV4 : Below w4.heap.size w4 V4 := by rw [hV4]; exact (Below.refl _ _).alloc (Nat.le_refl _) _
                have HDV4 := hide ((unhide HD4).below L hbV4)
                have HBV4 : Hid (Below w1'.heap.size w1' V4) := hide ((unhide HBn4).trans (hbV4.mono (unhide HBn4).size))
                have HGV4 := hide (L.gw (unhide HGn4) hbV4 (L.gsize (unhide HGn4)))
                have HRx4_4 : Hid (Fr V4 o1 o2 w4.heap.size (.cells #[.int .i64 x4, .int .i64 y4] 31 (0, 0))) := hide ⟨by rw [hV4]; exact heap_alloc_new _ _, fun h => by have := (L.ge (unhide HD4).one _ h).2; omega, fun h => by have := (L.ge (unhide HD4).two _ h).2; omega⟩
                have HV4 := hide hV4
                clear hbV4 hV4
                --@Uc1@
                go_wp2_with fail
                rw [← unhide HV4]
                refine (L.bad (unhide HDV4).two (unhide HGV4) ((unhide HLT) _ (unhide HBV4)).2 (unhide HFA)).mono ?_
                rintro e w5 ⟨rfl, bb5⟩
                have HD5 := hide ((unhide HDV4).below L bb5)
                have HBn5 : Hid (Below w1'.heap.size w1' w5) := hide ((unhide HBV4).trans (bb5.mono (unhide HBV4).size))
                have HGn5 := hide (L.gw (unhide HGV4) bb5 (L.gsize (unhide HGV4)))
                have HRx4_5 := hide ((unhide HRx4_4).below bb5)
                clear bb5
                obtain ⟨x5, hx5⟩ : ∃ x, (fault ls).1 = x := ⟨_, rfl⟩
                obtain ⟨y5, hy5⟩ : ∃ y, (fault ls).2 = y := ⟨_, rfl⟩
                rw [hx5, hy5]
                have hxb5 : (x5 != 0) = true := by rw [← hx5]; simpa using (unhide HFA)
                clear hx5 hy5
                obtain ⟨V5, hV5⟩ : ∃ V, V = w5.alloc (.cells #[.int .i64 x5, .int .i64 y5] 31) := ⟨_, rfl⟩
                have hbV5 : Below w5.heap.size w5 V5 := by rw [hV5]; exact (Below.refl _ _).alloc (Nat.le_refl _) _
                have HDV5 := hide ((unhide HD5).below L hbV5)
                have HBV5 : Hid (Below w1'.heap.size w1' V5) := hide ((unhide HBn5).trans (hbV5.mono (unhide HBn5).size))
                have HGV5 := hide (L.gw (unhide HGn5) hbV5 (L.gsize (unhide HGn5)))
                have HRx5_5 : Hid (Fr V5 o1 o2 w5.heap.size (.cells #[.int .i64 x5, .int .i64 y5] 31 (0, 0))) := hide ⟨by rw [hV5]; exact heap_alloc_new _ _, fun h => by have := (L.ge (unhide HD5).one _ h).2; omega, fun h => by have := (L.ge (unhide HD5).two _ h).2; omega⟩
                have HRx4_V5 := hide ((unhide HRx4_5).below hbV5)
                have HV5 := hide hV5
                clear hbV5 hV5
                clear HRx4_5
                have HRx4_5 := HRx4_V5
                clear HRx4_V5
                --@Uc2@
                go_wp2_with fail
                rw [← unhide HV5]
                refine (L.good (unhide HGN) (unhide HDV5).one (unhide HGV5) ((unhide HLD) _ (unhide HBV5)) (LnAt.off (((unhide HLD) w1' (Below.refl _ _))) (Nat.le_refl _) (fun k hk => (L.ge (unhide HDV5).one k hk).1)) (Nat.le_trans (unhide HTC).2 (unhide HTOT)) (unhide HFD)).mono ?_
                rintro e w6 ⟨rfl, hlen6, ow6, hd6, hn6⟩
                have HD6 := hide ((unhide HDV5).left L hd6 hn6)
                have HBn6 : Hid (Below w1'.heap.size w1' w6) := hide ((unhide HBV5).trans (hn6.below))
                have HGn6 := hide (L.gw (unhide HGV5) hn6.below (unhide HGN))
                have HLE6 := hide hlen6
                have HRx4_6 := hide ((unhide HRx4_5).left hn6)
                have HRx5_6 := hide ((unhide HRx5_5).left hn6)
                clear hd6 hn6 hlen6
                obtain ⟨V6, hV6⟩ : ∃ V, V = w6.alloc (.cells #[.int .i64 0, .int .i64 0] 31) := ⟨_, rfl⟩
                have hbV6 : Below w6.heap.size w6 V6 := by rw [hV6]; exact (Below.refl _ _).alloc (Nat.le_refl _) _
                have HDV6 := hide ((unhide HD6).below L hbV6)
                have HBV6 : Hid (Below w1'.heap.size w1' V6) := hide ((unhide HBn6).trans (hbV6.mono (unhide HBn6).size))
                have HGV6 := hide (L.gw (unhide HGn6) hbV6 (L.gsize (unhide HGn6)))
                have HRx6_6 : Hid (Fr V6 ow6 o2 w6.heap.size (.cells #[.int .i64 0, .int .i64 0] 31 (0, 0))) := hide ⟨by rw [hV6]; exact heap_alloc_new _ _, fun h => by have := (L.ge (unhide HD6).one _ h).2; omega, fun h => by have := (L.ge (unhide HD6).two _ h).2; omega⟩
                have HRx4_V6 := hide ((unhide HRx4_6).below hbV6)
                have HRx5_V6 := hide ((unhide HRx5_6).below hbV6)
                have HV6 := hide hV6
                clear hbV6 hV6
                clear HRx4_6
                have HRx4_6 := HRx4_V6
                clear HRx4_V6
                clear HRx5_6
                have HRx5_6 := HRx5_V6
                clear HRx5_V6
                obtain ⟨q40, q41, _⟩ := twoK (unhide HRx4_6).blk
                obtain ⟨q50, q51, _⟩ := twoK (unhide HRx5_6).blk
                obtain ⟨q60, q61, _⟩ := twoK (unhide HRx6_6).blk
                rw [unhide HV6] at q40 q50 q60
                --@Uc8@
                have HBE := hide ((unhide HB1).trans ((unhide HBV6).mono (unhide HB1).size))
                go_wp2
                go_ret
                exact ⟨rfl, by rw [← unhide HV6]; exact unhide HBE⟩
              · have HFD := hide hfd
                clear hfa hft hfd HCUT0 HCUT1
                --@Ud0@
                go_wp2_with fail
                refine (L.bad (unhide HDUO).one (unhide HG3) ((unhide HLT) _ (unhide HB3)).1 (unhide HFT)).mono ?_
                rintro e w4 ⟨rfl, bb4⟩
                have HD4 := hide ((unhide HDUO).below L bb4)
                have HBn4 : Hid (Below w1'.heap.size w1' w4) := hide ((unhide HB3).trans (bb4.mono (unhide HB3).size))
                have HGn4 := hide (L.gw (unhide HG3) bb4 (L.gsize (unhide HG3)))
                clear bb4
                obtain ⟨x4, hx4⟩ : ∃ x, (fault (ls.take k)).1 = x := ⟨_, rfl⟩
                obtain ⟨y4, hy4⟩ : ∃ y, (fault (ls.take k)).2 = y := ⟨_, rfl⟩
                rw [hx4, hy4]
                have hxb4 : (x4 != 0) = true := by rw [← hx4]; simpa using (unhide HFT)
                clear hx4 hy4
                obtain ⟨V4, hV4⟩ : ∃ V, V = w4.alloc (.cells #[.int .i64 x4, .int .i64 y4] 31) := ⟨_, rfl⟩
                have hbV4 : Below w4.heap.size w4 V4 := by rw [hV4]; exact (Below.refl _ _).alloc (Nat.le_refl _) _
                have HDV4 := hide ((unhide HD4).below L hbV4)
                have HBV4 : Hid (Below w1'.heap.size w1' V4) := hide ((unhide HBn4).trans (hbV4.mono (unhide HBn4).size))
                have HGV4 := hide (L.gw (unhide HGn4) hbV4 (L.gsize (unhide HGn4)))
                have HRx4_4 : Hid (Fr V4 o1 o2 w4.heap.size (.cells #[.int .i64 x4, .int .i64 y4] 31 (0, 0))) := hide ⟨by rw [hV4]; exact heap_alloc_new _ _, fun h => by have := (L.ge (unhide HD4).one _ h).2; omega, fun h => by have := (L.ge (unhide HD4).two _ h).2; omega⟩
                have HV4 := hide hV4
                clear hbV4 hV4
                --@Ud1@
                go_wp2_with fail
                rw [← unhide HV4]
                refine (L.bad (unhide HDV4).two (unhide HGV4) ((unhide HLT) _ (unhide HBV4)).2 (unhide HFA)).mono ?_
                rintro e w5 ⟨rfl, bb5⟩
                have HD5 := hide ((unhide HDV4).below L bb5)
                have HBn5 : Hid (Below w1'.heap.size w1' w5) := hide ((unhide HBV4).trans (bb5.mono (unhide HBV4).size))
                have HGn5 := hide (L.gw (unhide HGV4) bb5 (L.gsize (unhide HGV4)))
                have HRx4_5 := hide ((unhide HRx4_4).below bb5)
                clear bb5
                obtain ⟨x5, hx5⟩ : ∃ x, (fault ls).1 = x := ⟨_, rfl⟩
                obtain ⟨y5, hy5⟩ : ∃ y, (fault ls).2 = y := ⟨_, rfl⟩
                rw [hx5, hy5]
                have hxb5 : (x5 != 0) = true := by rw [← hx5]; simpa using (unhide HFA)
                clear hx5 hy5
                obtain ⟨V5, hV5⟩ : ∃ V, V = w5.alloc (.cells #[.int .i64 x5, .int .i64 y5] 31) := ⟨_, rfl⟩
                have hbV5 : Below w5.heap.size w5 V5 := by rw [hV5]; exact (Below.refl _ _).alloc (Nat.le_refl _) _
                have HDV5 := hide ((unhide HD5).below L hbV5)
                have HBV5 : Hid (Below w1'.heap.size w1' V5) := hide ((unhide HBn5).trans (hbV5.mono (unhide HBn5).size))
                have HGV5 := hide (L.gw (unhide HGn5) hbV5 (L.gsize (unhide HGn5)))
                have HRx5_5 : Hid (Fr V5 o1 o2 w5.heap.size (.cells #[.int .i64 x5, .int .i64 y5] 31 (0, 0))) := hide ⟨by rw [hV5]; exact heap_alloc_new _ _, fun h => by have := (L.ge (unhide HD5).one _ h).2; omega, fun h => by have := (L.ge (unhide HD5).two _ h).2; omega⟩
                have HRx4_V5 := hide ((unhide HRx4_5).below hbV5)
                have HV5 := hide hV5
                clear hbV5 hV5
                clear HRx4_5
                have HRx4_5 := HRx4_V5
                clear HRx4_V5
                --@Ud2@
                go_wp2_with fail
                rw [← unhide HV5]
                refine (L.bad (unhide HDV5).one (unhide HGV5) ((unhide HLD) _ (unhide HBV5)) (unhide HFD)).mono ?_
                rintro e w6 ⟨rfl, bb6⟩
                have HD6 := hide ((unhide HDV5).below L bb6)
                have HBn6 : Hid (Below w1'.heap.size w1' w6) := hide ((unhide HBV5).trans (bb6.mono (unhide HBV5).size))
                have HGn6 := hide (L.gw (unhide HGV5) bb6 (L.gsize (unhide HGV5)))
                have HRx4_6 := hide ((unhide HRx4_5).below bb6)
                have HRx5_6 := hide ((unhide HRx5_5).below bb6)
                clear bb6
                obtain ⟨x6, hx6⟩ : ∃ x, (fault (ls.drop k)).1 = x := ⟨_, rfl⟩
                obtain ⟨y6, hy6⟩ : ∃ y, (fault (ls.drop k)).2 = y := ⟨_, rfl⟩
                rw [hx6, hy6]
                have hxb6 : (x6 != 0) = true := by rw [← hx6]; simpa using (unhide HFD)
                clear hx6 hy6
                obtain ⟨V6, hV6⟩ : ∃ V, V = w6.alloc (.cells #[.int .i64 x6, .int .i64 y6] 31) := ⟨_, rfl⟩
                have hbV6 : Below w6.heap.size w6 V6 := by rw [hV6]; exact (Below.refl _ _).alloc (Nat.le_refl _) _
                have HDV6 := hide ((unhide HD6).below L hbV6)
                have HBV6 : Hid (Below w1'.heap.size w1' V6) := hide ((unhide HBn6).trans (hbV6.mono (unhide HBn6).size))
                have HGV6 := hide (L.gw (unhide HGn6) hbV6 (L.gsize (unhide HGn6)))
                have HRx6_6 : Hid (Fr V6 o1 o2 w6.heap.size (.cells #[.int .i64 x6, .int .i64 y6] 31 (0, 0))) := hide ⟨by rw [hV6]; exact heap_alloc_new _ _, fun h => by have := (L.ge (unhide HD6).one _ h).2; omega, fun h => by have := (L.ge (unhide HD6).two _ h).2; omega⟩
                have HRx4_V6 := hide ((unhide HRx4_6).below hbV6)
                have HRx5_V6 := hide ((unhide HRx5_6).below hbV6)
                have HV6 := hide hV6
                clear hbV6 hV6
                clear HRx4_6
                have HRx4_6 := HRx4_V6
                clear HRx4_V6
                clear HRx5_6
                have HRx5_6 := HRx5_V6
                clear HRx5_V6
                obtain ⟨q40, q41, _⟩ := twoK (unhide HRx4_6).blk
                obtain ⟨q50, q51, _⟩ := twoK (unhide HRx5_6).blk
                obtain ⟨q60, q61, _⟩ := twoK (unhide HRx6_6).blk
                rw [unhide HV6] at q40 q50 q60
                --@Ud8@
                have HBE := hide ((unhide HB1).trans ((unhide HBV6).mono (unhide HB1).size))
                go_wp2
                go_ret
                exact ⟨rfl, by rw [← unhide HV6]; exact unhide HBE⟩
        · obtain ⟨b, off, rfl⟩ := had (by omega)
          have HLD : Hid (∀ W, Below w1'.heap.size w1' W → LnAt W (some ⟨b, off + k, none⟩) (n - k) (ls.drop k)) := hide fun W hW => ((unhide HLT) W hW).2.drop hkn (off + k) (fun _ => rfl)
          have hkc2 : k < cap := by omega
          by_cases hfa : (fault ls).1 = 0
          · have HFA := hide hfa
            have HFT := hide ((unhide HCUT0) hfa).1
            have HFD := hide ((unhide HCUT0) hfa).2
            clear hfa HCUT0 HCUT1
            --@Sa0@
            go_wp2_with fail
            refine (L.good (unhide HGN) (unhide HDUO).one (unhide HG3) ((unhide HLT) _ (unhide HB3)).1 (LnAt.off (((unhide HLT) w1' (Below.refl _ _)).1) (Nat.le_refl _) (fun k hk => (L.ge (unhide HDUO).one k hk).1)) (Nat.le_trans (unhide HTC).1 (unhide HTOT)) (unhide HFT)).mono ?_
            rintro e w4 ⟨rfl, hlen4, ow4, hd4, hn4⟩
            have HD4 := hide ((unhide HDUO).left L hd4 hn4)
            have HBn4 : Hid (Below w1'.heap.size w1' w4) := hide ((unhide HB3).trans (hn4.below))
            have HGn4 := hide (L.gw (unhide HG3) hn4.below (unhide HGN))
            have HLE4 := hide hlen4
            clear hd4 hn4 hlen4
            obtain ⟨V4, hV4⟩ : ∃ V, V = w4.alloc (.cells #[.int .i64 0, .int .i64 0] 31) := ⟨_, rfl⟩
            have hbV4 : Below w4.heap.size w4 V4 := by rw [hV4]; exact (Below.refl _ _).alloc (Nat.le_refl _) _
            have HDV4 := hide ((unhide HD4).below L hbV4)
            have HBV4 : Hid (Below w1'.heap.size w1' V4) := hide ((unhide HBn4).trans (hbV4.mono (unhide HBn4).size))
            have HGV4 := hide (L.gw (unhide HGn4) hbV4 (L.gsize (unhide HGn4)))
            have HRx4_4 : Hid (Fr V4 ow4 o2 w4.heap.size (.cells #[.int .i64 0, .int .i64 0] 31 (0, 0))) := hide ⟨by rw [hV4]; exact heap_alloc_new _ _, fun h => by have := (L.ge (unhide HD4).one _ h).2; omega, fun h => by have := (L.ge (unhide HD4).two _ h).2; omega⟩
            have HV4 := hide hV4
            clear hbV4 hV4
            --@Sa1@
            go_wp2_with fail
            rw [← unhide HV4]
            refine (L.good (Nat.le_trans (unhide HGN) hN2) (unhide HDV4).two (unhide HGV4) ((unhide HLT) _ (unhide HBV4)).2 (LnAt.off (((unhide HLT) w1' (Below.refl _ _)).2) (hN2) (fun k hk => (L.ge (unhide HDV4).two k hk).1)) (unhide HTOT) (unhide HFA)).mono ?_
            rintro e w5 ⟨rfl, hlen5, ow5, hd5, hn5⟩
            have HD5 := hide ((unhide HDV4).right L hd5 hn5)
            have HBn5 : Hid (Below w1'.heap.size w1' w5) := hide ((unhide HBV4).trans (hn5.below.mono hN2))
            have HGn5 := hide (L.gw (unhide HGV4) hn5.below (Nat.le_trans (unhide HGN) hN2))
            have HLE5 := hide hlen5
            have HRx4_5 := hide ((unhide HRx4_4).right hn5)
            clear hd5 hn5 hlen5
            obtain ⟨V5, hV5⟩ : ∃ V, V = w5.alloc (.cells #[.int .i64 0, .int .i64 0] 31) := ⟨_, rfl⟩
            have hbV5 : Below w5.heap.size w5 V5 := by rw [hV5]; exact (Below.refl _ _).alloc (Nat.le_refl _) _
            have HDV5 := hide ((unhide HD5).below L hbV5)
            have HBV5 : Hid (Below w1'.heap.size w1' V5) := hide ((unhide HBn5).trans (hbV5.mono (unhide HBn5).size))
            have HGV5 := hide (L.gw (unhide HGn5) hbV5 (L.gsize (unhide HGn5)))
            have HRx5_5 : Hid (Fr V5 ow4 ow5 w5.heap.size (.cells #[.int .i64 0, .int .i64 0] 31 (0, 0))) := hide ⟨by rw [hV5]; exact heap_alloc_new _ _, fun h => by have := (L.ge (unhide HD5).one _ h).2; omega, fun h => by have := (L.ge (unhide HD5).two _ h).2; omega⟩
            have HRx4_V5 := hide ((unhide HRx4_5).below hbV5)
            have HV5 := hide hV5
            clear hbV5 hV5
            clear HRx4_5
            have HRx4_5 := HRx4_V5
            clear HRx4_V5
            --@Sa2@
            go_wp2_with fail
            rw [← unhide HV5]
            refine (L.good (unhide HGN) (unhide HDV5).one (unhide HGV5) ((unhide HLD) _ (unhide HBV5)) (LnAt.off (((unhide HLD) w1' (Below.refl _ _))) (Nat.le_refl _) (fun k hk => (L.ge (unhide HDV5).one k hk).1)) (Nat.le_trans (unhide HTC).2 (unhide HTOT)) (unhide HFD)).mono ?_
            rintro e w6 ⟨rfl, hlen6, ow6, hd6, hn6⟩
            have HD6 := hide ((unhide HDV5).left L hd6 hn6)
            have HBn6 : Hid (Below w1'.heap.size w1' w6) := hide ((unhide HBV5).trans (hn6.below))
            have HGn6 := hide (L.gw (unhide HGV5) hn6.below (unhide HGN))
            have HLE6 := hide hlen6
            have HRx4_6 := hide ((unhide HRx4_5).left hn6)
            have HRx5_6 := hide ((unhide HRx5_5).left hn6)
            clear hd6 hn6 hlen6
            obtain ⟨V6, hV6⟩ : ∃ V, V = w6.alloc (.cells #[.int .i64 0, .int .i64 0] 31) := ⟨_, rfl⟩
            have hbV6 : Below w6.heap.size w6 V6 := by rw [hV6]; exact (Below.refl _ _).alloc (Nat.le_refl _) _
            have HDV6 := hide ((unhide HD6).below L hbV6)
            have HBV6 : Hid (Below w1'.heap.size w1' V6) := hide ((unhide HBn6).trans (hbV6.mono (unhide HBn6).size))
            have HGV6 := hide (L.gw (unhide HGn6) hbV6 (L.gsize (unhide HGn6)))
            have HRx6_6 : Hid (Fr V6 ow6 ow5 w6.heap.size (.cells #[.int .i64 0, .int .i64 0] 31 (0, 0))) := hide ⟨by rw [hV6]; exact heap_alloc_new _ _, fun h => by have := (L.ge (unhide HD6).one _ h).2; omega, fun h => by have := (L.ge (unhide HD6).two _ h).2; omega⟩
            have HRx4_V6 := hide ((unhide HRx4_6).below hbV6)
            have HRx5_V6 := hide ((unhide HRx5_6).below hbV6)
            have HV6 := hide hV6
            clear hbV6 hV6
            clear HRx4_6
            have HRx4_6 := HRx4_V6
            clear HRx4_V6
            clear HRx5_6
            have HRx5_6 := HRx5_V6
            clear HRx5_V6
            obtain ⟨q40, q41, _⟩ := twoK (unhide HRx4_6).blk
            obtain ⟨q50, q51, _⟩ := twoK (unhide HRx5_6).blk
            obtain ⟨q60, q61, _⟩ := twoK (unhide HRx6_6).blk
            rw [unhide HV6] at q40 q50 q60
            --@Sa7@
            go_wp2_with fail
            rw [← unhide HV6]
            refine (L.new V6 (unhide HGV6)).mono ?_
            rintro e w7 ⟨D3, o3, rfl, hd3, b7⟩
            clear q40 q41 q50 q51 q60 q61
            have HB7 : Hid (Below w1'.heap.size w1' w7) := hide ((unhide HBV6).trans (b7.mono (unhide HBV6).size))
            have HG7 := hide (L.gw (unhide HGV6) b7 (L.gsize (unhide HGV6)))
            have HD3 := hide hd3
            have HGN6 := hide (L.gsize (unhide HGV6))
            have HK4 : Hid (w7.heap[w4.heap.size]? = some (.cells #[.int .i64 0, .int .i64 0] 31 (0, 0))) := hide ((b7.block _ (Array.getElem?_eq_some_iff.1 (unhide HRx4_6).blk).1).trans (unhide HRx4_6).blk)
            have HK6 : Hid (w7.heap[w6.heap.size]? = some (.cells #[.int .i64 0, .int .i64 0] 31 (0, 0))) := hide ((b7.block _ (Array.getElem?_eq_some_iff.1 (unhide HRx6_6).blk).1).trans (unhide HRx6_6).blk)
            have HQ4 : Hid (w4.heap.size ∉ o3) := hide fun h => by have h1 := (L.ge hd3 _ h).1; have h2 := (Array.getElem?_eq_some_iff.1 (unhide HRx4_6).blk).1; omega
            have HQ6 : Hid (w6.heap.size ∉ o3) := hide fun h => by have h1 := (L.ge hd3 _ h).1; have h2 := (Array.getElem?_eq_some_iff.1 (unhide HRx6_6).blk).1; omega
            have HSZ6 : Hid (w1'.heap.size ≤ V6.heap.size) := hide (unhide HBV6).size
            clear hd3 b7
            --@Sa8@
            go_wp2_with fail
            refine (L.good (unhide HGN6) (unhide HD3) (unhide HG7) ((unhide HLT) _ (unhide HB7)).2 (LnAt.off ((unhide HLT) w1' (Below.refl _ _)).2 (unhide HSZ6) (fun k hk => (L.ge (unhide HD3) k hk).1)) (unhide HTOT) (unhide HFA)).mono ?_
            rintro e w8 ⟨rfl, hlen8, ow8, hd8, hn8⟩
            have h4 := (hn8.keep _ (Array.getElem?_eq_some_iff.1 (unhide HK4)).1 (unhide HQ4)).2.trans (unhide HK4)
            have h6 := (hn8.keep _ (Array.getElem?_eq_some_iff.1 (unhide HK6)).1 (unhide HQ6)).2.trans (unhide HK6)
            have HBE : Hid (Below w.heap.size w (w8.alloc (.cells #[.int .i64 0, .int .i64 0] 31))) := hide ((unhide HB1).trans ((((unhide HB7).trans (hn8.below.mono (unhide HSZ6))).mono (unhide HB1).size).alloc (Nat.le_trans (unhide HB1).size (Nat.le_trans (unhide HB7).size hn8.below.size)) _))
            obtain ⟨q40, q41, _⟩ := twoK (show (w8.alloc (.cells #[.int .i64 0, .int .i64 0] 31)).heap[w4.heap.size]? = _ from (Below.heap_alloc _ _ _ (Array.getElem?_eq_some_iff.1 h4).1).trans h4)
            obtain ⟨q60, q61, _⟩ := twoK (show (w8.alloc (.cells #[.int .i64 0, .int .i64 0] 31)).heap[w6.heap.size]? = _ from (Below.heap_alloc _ _ _ (Array.getElem?_eq_some_iff.1 h6).1).trans h6)
            have happ := L.app s0 (ls.take k) (ls.drop k)
            rw [List.take_append_drop] at happ
            have l4 := unhide HLE4
            have l6 := unhide HLE6
            clear hd8 hn8 hlen8 h4 h6
            obtain ⟨m1, hm1⟩ : ∃ m, B (tell s0 (ls.take k)) = m := ⟨_, rfl⟩
            obtain ⟨m2, hm2⟩ : ∃ m, B (tell (next s0 (ls.take k)) (ls.drop k)) = m := ⟨_, rfl⟩
            obtain ⟨m3, hm3⟩ : ∃ m, B (tell s0 ls) = m := ⟨_, rfl⟩
            have hz1 : m1.size ≤ 1000000000 := by rw [← hm1]; show (tell s0 (ls.take k)).toArray.size ≤ _; simpa using l4
            have hz2 : m2.size ≤ 1000000000 := by rw [← hm2]; show (tell (next s0 (ls.take k)) (ls.drop k)).toArray.size ≤ _; simpa using l6
            have hm : m1 ++ m2 = m3 := by
              rw [← hm1, ← hm2, ← hm3, happ]
              apply WideShapes.bytes_inj
              simp [B]
            have hz : ¬ (9223372036854775807 < m1.size + m2.size) := by omega
            have heq : ((m1 ++ m2).toList == m3.toList) = true := by rw [hm]; simp
            rw [hm1, hm2, hm3]
            clear happ l4 l6 hm1 hm2 hm3 hz1 hz2 hm
            --@Sa9@
            go_wp2
            go_ret
            exact ⟨rfl, unhide HBE⟩
          · have HFA := hide hfa
            by_cases hft : (fault (ls.take k)).1 = 0
            · have HFT := hide hft
              have hfd : (fault (ls.drop k)).1 ≠ 0 := by rcases (unhide HCUT1) hfa with h | h; exact absurd hft h; exact h
              have HFD := hide hfd
              clear hfa hft hfd HCUT0 HCUT1
              --@Sb0@
              go_wp2_with fail
              refine (L.good (unhide HGN) (unhide HDUO).one (unhide HG3) ((unhide HLT) _ (unhide HB3)).1 (LnAt.off (((unhide HLT) w1' (Below.refl _ _)).1) (Nat.le_refl _) (fun k hk => (L.ge (unhide HDUO).one k hk).1)) (Nat.le_trans (unhide HTC).1 (unhide HTOT)) (unhide HFT)).mono ?_
              rintro e w4 ⟨rfl, hlen4, ow4, hd4, hn4⟩
              have HD4 := hide ((unhide HDUO).left L hd4 hn4)
              have HBn4 : Hid (Below w1'.heap.size w1' w4) := hide ((unhide HB3).trans (hn4.below))
              have HGn4 := hide (L.gw (unhide HG3) hn4.below (unhide HGN))
              have HLE4 := hide hlen4
              clear hd4 hn4 hlen4
              obtain ⟨V4, hV4⟩ : ∃ V, V = w4.alloc (.cells #[.int .i64 0, .int .i64 0] 31) := ⟨_, rfl⟩
              have hbV4 : Below w4.heap.size w4 V4 := by rw [hV4]; exact (Below.refl _ _).alloc (Nat.le_refl _) _
              have HDV4 := hide ((unhide HD4).below L hbV4)
              have HBV4 : Hid (Below w1'.heap.size w1' V4) := hide ((unhide HBn4).trans (hbV4.mono (unhide HBn4).size))
              have HGV4 := hide (L.gw (unhide HGn4) hbV4 (L.gsize (unhide HGn4)))
              have HRx4_4 : Hid (Fr V4 ow4 o2 w4.heap.size (.cells #[.int .i64 0, .int .i64 0] 31 (0, 0))) := hide ⟨by rw [hV4]; exact heap_alloc_new _ _, fun h => by have := (L.ge (unhide HD4).one _ h).2; omega, fun h => by have := (L.ge (unhide HD4).two _ h).2; omega⟩
              have HV4 := hide hV4
              clear hbV4 hV4
              --@Sb1@
              go_wp2_with fail
              rw [← unhide HV4]
              refine (L.bad (unhide HDV4).two (unhide HGV4) ((unhide HLT) _ (unhide HBV4)).2 (unhide HFA)).mono ?_
              rintro e w5 ⟨rfl, bb5⟩
              have HD5 := hide ((unhide HDV4).below L bb5)
              have HBn5 : Hid (Below w1'.heap.size w1' w5) := hide ((unhide HBV4).trans (bb5.mono (unhide HBV4).size))
              have HGn5 := hide (L.gw (unhide HGV4) bb5 (L.gsize (unhide HGV4)))
              have HRx4_5 := hide ((unhide HRx4_4).below bb5)
              clear bb5
              obtain ⟨x5, hx5⟩ : ∃ x, (fault ls).1 = x := ⟨_, rfl⟩
              obtain ⟨y5, hy5⟩ : ∃ y, (fault ls).2 = y := ⟨_, rfl⟩
              rw [hx5, hy5]
              have hxb5 : (x5 != 0) = true := by rw [← hx5]; simpa using (unhide HFA)
              clear hx5 hy5
              obtain ⟨V5, hV5⟩ : ∃ V, V = w5.alloc (.cells #[.int .i64 x5, .int .i64 y5] 31) := ⟨_, rfl⟩
              have hbV5 : Below w5.heap.size w5 V5 := by rw [hV5]; exact (Below.refl _ _).alloc (Nat.le_refl _) _
              have HDV5 := hide ((unhide HD5).below L hbV5)
              have HBV5 : Hid (Below w1'.heap.size w1' V5) := hide ((unhide HBn5).trans (hbV5.mono (unhide HBn5).size))
              have HGV5 := hide (L.gw (unhide HGn5) hbV5 (L.gsize (unhide HGn5)))
              have HRx5_5 : Hid (Fr V5 ow4 o2 w5.heap.size (.cells #[.int .i64 x5, .int .i64 y5] 31 (0, 0))) := hide ⟨by rw [hV5]; exact heap_alloc_new _ _, fun h => by have := (L.ge (unhide HD5).one _ h).2; omega, fun h => by have := (L.ge (unhide HD5).two _ h).2; omega⟩
              have HRx4_V5 := hide ((unhide HRx4_5).below hbV5)
              have HV5 := hide hV5
              clear hbV5 hV5
              clear HRx4_5
              have HRx4_5 := HRx4_V5
              clear HRx4_V5
              --@Sb2@
              go_wp2_with fail
              rw [← unhide HV5]
              refine (L.bad (unhide HDV5).one (unhide HGV5) ((unhide HLD) _ (unhide HBV5)) (unhide HFD)).mono ?_
              rintro e w6 ⟨rfl, bb6⟩
              have HD6 := hide ((unhide HDV5).below L bb6)
              have HBn6 : Hid (Below w1'.heap.size w1' w6) := hide ((unhide HBV5).trans (bb6.mono (unhide HBV5).size))
              have HGn6 := hide (L.gw (unhide HGV5) bb6 (L.gsize (unhide HGV5)))
              have HRx4_6 := hide ((unhide HRx4_5).below bb6)
              have HRx5_6 := hide ((unhide HRx5_5).below bb6)
              clear bb6
              obtain ⟨x6, hx6⟩ : ∃ x, (fault (ls.drop k)).1 = x := ⟨_, rfl⟩
              obtain ⟨y6, hy6⟩ : ∃ y, (fault (ls.drop k)).2 = y := ⟨_, rfl⟩
              rw [hx6, hy6]
              have hxb6 : (x6 != 0) = true := by rw [← hx6]; simpa using (unhide HFD)
              clear hx6 hy6
              obtain ⟨V6, hV6⟩ : ∃ V, V = w6.alloc (.cells #[.int .i64 x6, .int .i64 y6] 31) := ⟨_, rfl⟩
              have hbV6 : Below w6.heap.size w6 V6 := by rw [hV6]; exact (Below.refl _ _).alloc (Nat.le_refl _) _
              have HDV6 := hide ((unhide HD6).below L hbV6)
              have HBV6 : Hid (Below w1'.heap.size w1' V6) := hide ((unhide HBn6).trans (hbV6.mono (unhide HBn6).size))
              have HGV6 := hide (L.gw (unhide HGn6) hbV6 (L.gsize (unhide HGn6)))
              have HRx6_6 : Hid (Fr V6 ow4 o2 w6.heap.size (.cells #[.int .i64 x6, .int .i64 y6] 31 (0, 0))) := hide ⟨by rw [hV6]; exact heap_alloc_new _ _, fun h => by have := (L.ge (unhide HD6).one _ h).2; omega, fun h => by have := (L.ge (unhide HD6).two _ h).2; omega⟩
              have HRx4_V6 := hide ((unhide HRx4_6).below hbV6)
              have HRx5_V6 := hide ((unhide HRx5_6).below hbV6)
              have HV6 := hide hV6
              clear hbV6 hV6
              clear HRx4_6
              have HRx4_6 := HRx4_V6
              clear HRx4_V6
              clear HRx5_6
              have HRx5_6 := HRx5_V6
              clear HRx5_V6
              obtain ⟨q40, q41, _⟩ := twoK (unhide HRx4_6).blk
              obtain ⟨q50, q51, _⟩ := twoK (unhide HRx5_6).blk
              obtain ⟨q60, q61, _⟩ := twoK (unhide HRx6_6).blk
              rw [unhide HV6] at q40 q50 q60
              --@Sb8@
              have HBE := hide ((unhide HB1).trans ((unhide HBV6).mono (unhide HB1).size))
              go_wp2
              go_ret
              exact ⟨rfl, by rw [← unhide HV6]; exact unhide HBE⟩
            · have HFT := hide hft
              by_cases hfd : (fault (ls.drop k)).1 = 0
              · have HFD := hide hfd
                clear hfa hft hfd HCUT0 HCUT1
                --@Sc0@
                go_wp2_with fail
                refine (L.bad (unhide HDUO).one (unhide HG3) ((unhide HLT) _ (unhide HB3)).1 (unhide HFT)).mono ?_
                rintro e w4 ⟨rfl, bb4⟩
                have HD4 := hide ((unhide HDUO).below L bb4)
                have HBn4 : Hid (Below w1'.heap.size w1' w4) := hide ((unhide HB3).trans (bb4.mono (unhide HB3).size))
                have HGn4 := hide (L.gw (unhide HG3) bb4 (L.gsize (unhide HG3)))
                clear bb4
                obtain ⟨x4, hx4⟩ : ∃ x, (fault (ls.take k)).1 = x := ⟨_, rfl⟩
                obtain ⟨y4, hy4⟩ : ∃ y, (fault (ls.take k)).2 = y := ⟨_, rfl⟩
                rw [hx4, hy4]
                have hxb4 : (x4 != 0) = true := by rw [← hx4]; simpa using (unhide HFT)
                clear hx4 hy4
                obtain ⟨V4, hV4⟩ : ∃ V, V = w4.alloc (.cells #[.int .i64 x4, .int .i64 y4] 31) := ⟨_, rfl⟩
                have hbV4 : Below w4.heap.size w4 V4 := by rw [hV4]; exact (Below.refl _ _).alloc (Nat.le_refl _) _
                have HDV4 := hide ((unhide HD4).below L hbV4)
                have HBV4 : Hid (Below w1'.heap.size w1' V4) := hide ((unhide HBn4).trans (hbV4.mono (unhide HBn4).size))
                have HGV4 := hide (L.gw (unhide HGn4) hbV4 (L.gsize (unhide HGn4)))
                have HRx4_4 : Hid (Fr V4 o1 o2 w4.heap.size (.cells #[.int .i64 x4, .int .i64 y4] 31 (0, 0))) := hide ⟨by rw [hV4]; exact heap_alloc_new _ _, fun h => by have := (L.ge (unhide HD4).one _ h).2; omega, fun h => by have := (L.ge (unhide HD4).two _ h).2; omega⟩
                have HV4 := hide hV4
                clear hbV4 hV4
                --@Sc1@
                go_wp2_with fail
                rw [← unhide HV4]
                refine (L.bad (unhide HDV4).two (unhide HGV4) ((unhide HLT) _ (unhide HBV4)).2 (unhide HFA)).mono ?_
                rintro e w5 ⟨rfl, bb5⟩
                have HD5 := hide ((unhide HDV4).below L bb5)
                have HBn5 : Hid (Below w1'.heap.size w1' w5) := hide ((unhide HBV4).trans (bb5.mono (unhide HBV4).size))
                have HGn5 := hide (L.gw (unhide HGV4) bb5 (L.gsize (unhide HGV4)))
                have HRx4_5 := hide ((unhide HRx4_4).below bb5)
                clear bb5
                obtain ⟨x5, hx5⟩ : ∃ x, (fault ls).1 = x := ⟨_, rfl⟩
                obtain ⟨y5, hy5⟩ : ∃ y, (fault ls).2 = y := ⟨_, rfl⟩
                rw [hx5, hy5]
                have hxb5 : (x5 != 0) = true := by rw [← hx5]; simpa using (unhide HFA)
                clear hx5 hy5
                obtain ⟨V5, hV5⟩ : ∃ V, V = w5.alloc (.cells #[.int .i64 x5, .int .i64 y5] 31) := ⟨_, rfl⟩
                have hbV5 : Below w5.heap.size w5 V5 := by rw [hV5]; exact (Below.refl _ _).alloc (Nat.le_refl _) _
                have HDV5 := hide ((unhide HD5).below L hbV5)
                have HBV5 : Hid (Below w1'.heap.size w1' V5) := hide ((unhide HBn5).trans (hbV5.mono (unhide HBn5).size))
                have HGV5 := hide (L.gw (unhide HGn5) hbV5 (L.gsize (unhide HGn5)))
                have HRx5_5 : Hid (Fr V5 o1 o2 w5.heap.size (.cells #[.int .i64 x5, .int .i64 y5] 31 (0, 0))) := hide ⟨by rw [hV5]; exact heap_alloc_new _ _, fun h => by have := (L.ge (unhide HD5).one _ h).2; omega, fun h => by have := (L.ge (unhide HD5).two _ h).2; omega⟩
                have HRx4_V5 := hide ((unhide HRx4_5).below hbV5)
                have HV5 := hide hV5
                clear hbV5 hV5
                clear HRx4_5
                have HRx4_5 := HRx4_V5
                clear HRx4_V5
                --@Sc2@
                go_wp2_with fail
                rw [← unhide HV5]
                refine (L.good (unhide HGN) (unhide HDV5).one (unhide HGV5) ((unhide HLD) _ (unhide HBV5)) (LnAt.off (((unhide HLD) w1' (Below.refl _ _))) (Nat.le_refl _) (fun k hk => (L.ge (unhide HDV5).one k hk).1)) (Nat.le_trans (unhide HTC).2 (unhide HTOT)) (unhide HFD)).mono ?_
                rintro e w6 ⟨rfl, hlen6, ow6, hd6, hn6⟩
                have HD6 := hide ((unhide HDV5).left L hd6 hn6)
                have HBn6 : Hid (Below w1'.heap.size w1' w6) := hide ((unhide HBV5).trans (hn6.below))
                have HGn6 := hide (L.gw (unhide HGV5) hn6.below (unhide HGN))
                have HLE6 := hide hlen6
                have HRx4_6 := hide ((unhide HRx4_5).left hn6)
                have HRx5_6 := hide ((unhide HRx5_5).left hn6)
                clear hd6 hn6 hlen6
                obtain ⟨V6, hV6⟩ : ∃ V, V = w6.alloc (.cells #[.int .i64 0, .int .i64 0] 31) := ⟨_, rfl⟩
                have hbV6 : Below w6.heap.size w6 V6 := by rw [hV6]; exact (Below.refl _ _).alloc (Nat.le_refl _) _
                have HDV6 := hide ((unhide HD6).below L hbV6)
                have HBV6 : Hid (Below w1'.heap.size w1' V6) := hide ((unhide HBn6).trans (hbV6.mono (unhide HBn6).size))
                have HGV6 := hide (L.gw (unhide HGn6) hbV6 (L.gsize (unhide HGn6)))
                have HRx6_6 : Hid (Fr V6 ow6 o2 w6.heap.size (.cells #[.int .i64 0, .int .i64 0] 31 (0, 0))) := hide ⟨by rw [hV6]; exact heap_alloc_new _ _, fun h => by have := (L.ge (unhide HD6).one _ h).2; omega, fun h => by have := (L.ge (unhide HD6).two _ h).2; omega⟩
                have HRx4_V6 := hide ((unhide HRx4_6).below hbV6)
                have HRx5_V6 := hide ((unhide HRx5_6).below hbV6)
                have HV6 := hide hV6
                clear hbV6 hV6
                clear HRx4_6
                have HRx4_6 := HRx4_V6
                clear HRx4_V6
                clear HRx5_6
                have HRx5_6 := HRx5_V6
                clear HRx5_V6
                obtain ⟨q40, q41, _⟩ := twoK (unhide HRx4_6).blk
                obtain ⟨q50, q51, _⟩ := twoK (unhide HRx5_6).blk
                obtain ⟨q60, q61, _⟩ := twoK (unhide HRx6_6).blk
                rw [unhide HV6] at q40 q50 q60
                --@Sc8@
                have HBE := hide ((unhide HB1).trans ((unhide HBV6).mono (unhide HB1).size))
                go_wp2
                go_ret
                exact ⟨rfl, by rw [← unhide HV6]; exact unhide HBE⟩
              · have HFD := hide hfd
                clear hfa hft hfd HCUT0 HCUT1
                --@Sd0@
                go_wp2_with fail
                refine (L.bad (unhide HDUO).one (unhide HG3) ((unhide HLT) _ (unhide HB3)).1 (unhide HFT)).mono ?_
                rintro e w4 ⟨rfl, bb4⟩
                have HD4 := hide ((unhide HDUO).below L bb4)
                have HBn4 : Hid (Below w1'.heap.size w1' w4) := hide ((unhide HB3).trans (bb4.mono (unhide HB3).size))
                have HGn4 := hide (L.gw (unhide HG3) bb4 (L.gsize (unhide HG3)))
                clear bb4
                obtain ⟨x4, hx4⟩ : ∃ x, (fault (ls.take k)).1 = x := ⟨_, rfl⟩
                obtain ⟨y4, hy4⟩ : ∃ y, (fault (ls.take k)).2 = y := ⟨_, rfl⟩
                rw [hx4, hy4]
                have hxb4 : (x4 != 0) = true := by rw [← hx4]; simpa using (unhide HFT)
                clear hx4 hy4
                obtain ⟨V4, hV4⟩ : ∃ V, V = w4.alloc (.cells #[.int .i64 x4, .int .i64 y4] 31) := ⟨_, rfl⟩
                have hbV4 : Below w4.heap.size w4 V4 := by rw [hV4]; exact (Below.refl _ _).alloc (Nat.le_refl _) _
                have HDV4 := hide ((unhide HD4).below L hbV4)
                have HBV4 : Hid (Below w1'.heap.size w1' V4) := hide ((unhide HBn4).trans (hbV4.mono (unhide HBn4).size))
                have HGV4 := hide (L.gw (unhide HGn4) hbV4 (L.gsize (unhide HGn4)))
                have HRx4_4 : Hid (Fr V4 o1 o2 w4.heap.size (.cells #[.int .i64 x4, .int .i64 y4] 31 (0, 0))) := hide ⟨by rw [hV4]; exact heap_alloc_new _ _, fun h => by have := (L.ge (unhide HD4).one _ h).2; omega, fun h => by have := (L.ge (unhide HD4).two _ h).2; omega⟩
                have HV4 := hide hV4
                clear hbV4 hV4
                --@Sd1@
                go_wp2_with fail
                rw [← unhide HV4]
                refine (L.bad (unhide HDV4).two (unhide HGV4) ((unhide HLT) _ (unhide HBV4)).2 (unhide HFA)).mono ?_
                rintro e w5 ⟨rfl, bb5⟩
                have HD5 := hide ((unhide HDV4).below L bb5)
                have HBn5 : Hid (Below w1'.heap.size w1' w5) := hide ((unhide HBV4).trans (bb5.mono (unhide HBV4).size))
                have HGn5 := hide (L.gw (unhide HGV4) bb5 (L.gsize (unhide HGV4)))
                have HRx4_5 := hide ((unhide HRx4_4).below bb5)
                clear bb5
                obtain ⟨x5, hx5⟩ : ∃ x, (fault ls).1 = x := ⟨_, rfl⟩
                obtain ⟨y5, hy5⟩ : ∃ y, (fault ls).2 = y := ⟨_, rfl⟩
                rw [hx5, hy5]
                have hxb5 : (x5 != 0) = true := by rw [← hx5]; simpa using (unhide HFA)
                clear hx5 hy5
                obtain ⟨V5, hV5⟩ : ∃ V, V = w5.alloc (.cells #[.int .i64 x5, .int .i64 y5] 31) := ⟨_, rfl⟩
                have hbV5 : Below w5.heap.size w5 V5 := by rw [hV5]; exact (Below.refl _ _).alloc (Nat.le_refl _) _
                have HDV5 := hide ((unhide HD5).below L hbV5)
                have HBV5 : Hid (Below w1'.heap.size w1' V5) := hide ((unhide HBn5).trans (hbV5.mono (unhide HBn5).size))
                have HGV5 := hide (L.gw (unhide HGn5) hbV5 (L.gsize (unhide HGn5)))
                have HRx5_5 : Hid (Fr V5 o1 o2 w5.heap.size (.cells #[.int .i64 x5, .int .i64 y5] 31 (0, 0))) := hide ⟨by rw [hV5]; exact heap_alloc_new _ _, fun h => by have := (L.ge (unhide HD5).one _ h).2; omega, fun h => by have := (L.ge (unhide HD5).two _ h).2; omega⟩
                have HRx4_V5 := hide ((unhide HRx4_5).below hbV5)
                have HV5 := hide hV5
                clear hbV5 hV5
                clear HRx4_5
                have HRx4_5 := HRx4_V5
                clear HRx4_V5
                --@Sd2@
                go_wp2_with fail
                rw [← unhide HV5]
                refine (L.bad (unhide HDV5).one (unhide HGV5) ((unhide HLD) _ (unhide HBV5)) (unhide HFD)).mono ?_
                rintro e w6 ⟨rfl, bb6⟩
                have HD6 := hide ((unhide HDV5).below L bb6)
                have HBn6 : Hid (Below w1'.heap.size w1' w6) := hide ((unhide HBV5).trans (bb6.mono (unhide HBV5).size))
                have HGn6 := hide (L.gw (unhide HGV5) bb6 (L.gsize (unhide HGV5)))
                have HRx4_6 := hide ((unhide HRx4_5).below bb6)
                have HRx5_6 := hide ((unhide HRx5_5).below bb6)
                clear bb6
                obtain ⟨x6, hx6⟩ : ∃ x, (fault (ls.drop k)).1 = x := ⟨_, rfl⟩
                obtain ⟨y6, hy6⟩ : ∃ y, (fault (ls.drop k)).2 = y := ⟨_, rfl⟩
                rw [hx6, hy6]
                have hxb6 : (x6 != 0) = true := by rw [← hx6]; simpa using (unhide HFD)
                clear hx6 hy6
                obtain ⟨V6, hV6⟩ : ∃ V, V = w6.alloc (.cells #[.int .i64 x6, .int .i64 y6] 31) := ⟨_, rfl⟩
                have hbV6 : Below w6.heap.size w6 V6 := by rw [hV6]; exact (Below.refl _ _).alloc (Nat.le_refl _) _
                have HDV6 := hide ((unhide HD6).below L hbV6)
                have HBV6 : Hid (Below w1'.heap.size w1' V6) := hide ((unhide HBn6).trans (hbV6.mono (unhide HBn6).size))
                have HGV6 := hide (L.gw (unhide HGn6) hbV6 (L.gsize (unhide HGn6)))
                have HRx6_6 : Hid (Fr V6 o1 o2 w6.heap.size (.cells #[.int .i64 x6, .int .i64 y6] 31 (0, 0))) := hide ⟨by rw [hV6]; exact heap_alloc_new _ _, fun h => by have := (L.ge (unhide HD6).one _ h).2; omega, fun h => by have := (L.ge (unhide HD6).two _ h).2; omega⟩
                have HRx4_V6 := hide ((unhide HRx4_6).below hbV6)
                have HRx5_V6 := hide ((unhide HRx5_6).below hbV6)
                have HV6 := hide hV6
                clear hbV6 hV6
                clear HRx4_6
                have HRx4_6 := HRx4_V6
                clear HRx4_V6
                clear HRx5_6
                have HRx5_6 := HRx5_V6
                clear HRx5_V6
                obtain ⟨q40, q41, _⟩ := twoK (unhide HRx4_6).blk
                obtain ⟨q50, q51, _⟩ := twoK (unhide HRx5_6).blk
                obtain ⟨q60, q61, _⟩ := twoK (unhide HRx6_6).blk
                rw [unhide HV6] at q40 q50 q60
                --@Sd8@
                have HBE := hide ((unhide HB1).trans ((unhide HBV6).mono (unhide HB1).size))
                go_wp2
                go_ret
                exact ⟨rfl, by rw [← unhide HV6]; exact unhide HBE⟩

end

end Go.Proofs.YtffgolanmaenfacGreatDoor

namespace Go.Proofs.YtffgolanmaenfacGreatDoor
open Go.RowKit
set_option linter.unusedSimpArgs false
set_option linter.unusedVariables false

theorem desk_law : DLaw GN GW DR AW.start (dtell cmd) (dnext cmd) lnFault where
  gw := fun h hb hB => h.on hb hB
  gsize := fun h => h.1
  kept := DR.kept
  ge := DR.ge
  new := fun w _ => dNew_any w
  bad := fun _ _ hl hf => Do_bad _ _ _ _ _ _ hl hf
  good := fun hG h hg hl hl0 ht hf => Do_good hG h hg hl hl0 ht hf
  app := dtell_app cmd
  cut0 := fault_cut0
  cut1 := fault_cut1
  begun := deskBegun_any
theorem djoins_walk (a : Option Addr) (n cap : Nat) (ls : List ByteArray) (c : Int) (w : World) (hg : GW w) (hl : LnAt w a n ls) (hcap : n ≤ cap) (hform : (a = none ∧ n = 0 ∧ cap = 0) ∨ ∃ ad, a = some ad ∧ (0 < cap → ∃ b off, ad = ⟨b, off, none⟩)) :
    Calls Tryz.prog 4 #[.slice a n cap, .int .i64 c] w fun e w' => e = .returned (.bool true) ∧ Below w.heap.size w w' := joins_walk desk_law a n cap ls c w hg hl hcap hform
end Go.Proofs.YtffgolanmaenfacGreatDoor

namespace Go.Proofs.YtffgolanmaenfacGreatDoor
open Go.ChangeShapes Go.WideShapes Go.ChangeAt Go.RowKit Go.Deep Go.Joins
set_option linter.unusedSimpArgs false
set_option linter.unusedVariables false

section
variable {H : Type} {enc : TypeId × Value → H}
/-- The wrap that hands on the listed variables and the world's shape. -/
theorem lreturns {a : Assume} {C : Checked} {os : Os} {f : FuncId} {fn : Func} {s : ChangeSpec} {conds : List PathCond} {apart fresh handsOn again : Bool} {laid : List (String × DataW Unit)}
    (own : ownKnob C.prog.godebug = none) (started : os.Started) (noInit : C.prog.inits.idxOf? f = none) (hfn : C.prog.funcs[f]? = some fn)
    (witness : ∃ (w : World) (tape : Tape) (i : Input), w.os = os ∧ (w.forCall tape i).Shaped C.prog ∧ i.vars = [] ∧ Input.okWide C.prog (w.forCall tape i) .any w.heap.size f i ∧
      ((s.pre enc C.prog fn conds apart (w.forCall tape i).memory i.args ∧ laidMetH C.prog laid (w.forCall tape i).memory) ∧ sizedMet enc C.prog fn (OpenSpec.ofChange s) apart (w.forCall tape i).memory i.args) ∧ a.holds C.prog (lone (Frame.enter C.prog f i.args .normal) [] (w.forCall tape i)))
    (contract : ∀ (W : World) (base : Nat) (args : Array Value) (ds gs : List (DataW H)) (before : List MemPlace),
      (∀ (j : Nat) t v, fn.params[j]? = some t → args[j]? = some v → Value.okWide C.prog W .any base t v) →
      DataW.Whole enc C.prog fn.params.toList s.vars apart W args.toList ds gs before →
      (DataW.weightsEach C.prog (fn.params.toList ++ s.plain.varTypes C.prog) (ds ++ gs)).all (· ≤ reachBytes) = true → laidMetH C.prog laid W → W.ShapedOpen C.prog →
      Calls C.prog f args W fun e W' => ∃ v, e = .returned v ∧ s.post enc C.prog fn apart fresh handsOn again W args v W') :
    ReturnsInHanded a C os f .any (fun w args => (s.pre enc C.prog fn conds apart w args ∧ laidMetH C.prog laid w) ∧ sizedMet enc C.prog fn (OpenSpec.ofChange s) apart w args) (s.post enc C.prog fn apart fresh handsOn again) := by
  refine returnsInHanded_of_calls own started noInit witness ?_
  intro w tape i _ hsh _ hok hpre hholds
  obtain ⟨_, _, _, fn', hfn', _, _, _, _, hval⟩ := hok
  have e : fn' = fn := Option.some.inj (hfn'.symm.trans hfn)
  subst e
  obtain ⟨⟨⟨ds, gs, before, hw, hc⟩, hx⟩, hz⟩ := hpre
  have hw' := DataW.Whole.of_heap (w' := w.forCall tape i) (by rfl) hw
  refine (contract (w.forCall tape i) w.heap.size i.args ds gs before hval hw' (hz.weights hw) (hx.of_heap (by rfl)) hsh).mono fun e W' ⟨v, he, hp⟩ => ?_
  subst he
  exact ChangeSpec.post_blind hp
end

/-- A listed table of texts, cell by cell. -/
theorem texts_of_head {P : Program} {W : World} {name : String} {ls : List (List UInt8)} {rest : List (String × DataW Unit)} {g n : Nat} {t e : TypeId}
    (hg : P.globalNamed name = some g) (hty : (P.globals[g]?).map (·.type) = some t) (ht : P.underlying t = some (.array n e)) (he : P.underlying e = some .string) (hce : P.cellsOf e = 1)
    (h : laidMet P ((name, .agg (ls.map fun l => .lit (.string l))) :: rest) W) (i : Nat) (l : List UInt8) (hl : ls[i]? = some l) : W.cell? ⟨g, i, none⟩ = some (.string ⟨l.toArray⟩) := by
  obtain ⟨ps, ⟨g', t', cs, fuel, p, q, hg', ht', hv, hd, _, _⟩, _⟩ := h
  obtain rfl := Option.some.inj (hg.symm.trans hg')
  obtain rfl := Option.some.inj (hty.symm.trans ht')
  obtain ⟨xs, m, _, ex, _, hn, hel⟩ := DataW.trod_array ht hd
  have e3 : (xs.map (·.1)) = ls.map fun l => (DataW.lit (.string l) : DataW Unit) := (DataW.agg.inj (Prod.mk.inj ex).1).symm
  have hil : i < ls.length := (List.getElem?_eq_some_iff.1 hl).1
  have hlen : xs.length = ls.length := by have := congrArg List.length e3; simpa using this
  have hE := hel i (by omega)
  rw [hce, Nat.mul_one, List.getElem?_eq_getElem (by omega)] at hE
  obtain ⟨s, e1, e2, _⟩ := DataW.trod_string he hE
  have e4 : (xs.map (·.1))[i]? = (ls.map fun l => (DataW.lit (.string l) : DataW Unit))[i]? := by rw [e3]
  rw [List.getElem?_map, List.getElem?_map, List.getElem?_eq_getElem (by omega : i < xs.length), hl, e2] at e4
  have hs : s.data.toList = l := by simpa using e4
  rw [World.var?_cell hg hv i]
  have hc : cs.toList[i]? = some (.string s) := by
    have h0 : ((cs.toList.drop i).take 1)[0]? = some (.string s) := by rw [e1]; rfl
    simpa using h0
  have : cs[i]? = some (.string s) := by simpa using hc
  rw [this, ← hs]

section
variable {H : Type} {enc : TypeId × Value → H} {w : World} {base : Nat} {spare : Nat → Bool} {held : Bool}
end

end Go.Proofs.YtffgolanmaenfacGreatDoor

namespace Go.Proofs.YtffgolanmaenfacGreatDoor
open Go.ChangeShapes Go.WideShapes Go.ChangeAt Go.RowKit Go.Deep Go.Joins
set_option linter.unusedSimpArgs false
set_option linter.unusedVariables false

abbrev laid8 : List (String × DataW Unit) := [("math/bits.deBruijn32tab", Rows.laid_math_bits_deBruijn32tab), ("math/bits.deBruijn64tab", Rows.laid_math_bits_deBruijn64tab), ("internal/strconv.uint64pow10", Rows.laid_internal_strconv_uint64pow10), ("unicode/utf8.acceptRanges", Rows.laid_unicode_utf8_acceptRanges), ("strconv.ErrRange", Rows.laid_strconv_ErrRange), ("strconv.ErrSyntax", Rows.laid_strconv_ErrSyntax), ("postilion/line.words", Rows.laid_postilion_line_words), ("unicode/utf8.first", Rows.laid_unicode_utf8_first)]
theorem var_lt {P : Program} {W : World} {n : String} {g : Nat} {cs : Array Value} (hg : P.globalNamed n = some g) (hv : W.var? P n = some cs) : g < W.heap.size := by
  unfold World.var? at hv
  rw [hg] at hv
  simp only [Option.bind_some] at hv
  rcases Nat.lt_or_ge g W.heap.size with h1 | h1
  · exact h1
  · rw [Array.getElem?_eq_none h1] at hv; simp at hv
theorem var_at {n : String} {g B : Nat} {cs : Array Value} {w w' : World} (hg : Tryz.prog.globalNamed n = some g) (h : w.var? Tryz.prog n = some cs) (hb : Below B w w') (hB : g < B) : w'.var? Tryz.prog n = some cs := by
  unfold World.var? at h ⊢
  rw [hg] at h ⊢
  simp only [Option.bind_some] at h ⊢
  rw [hb.block g hB]
  exact h
theorem laid_lt {P : Program} {n : String} {d : DataW Unit} {r : List (String × DataW Unit)} {W : World} {g : Nat} (h : laidMet P ((n, d) :: r) W) (hg : P.globalNamed n = some g) : g < W.heap.size := by
  obtain ⟨ps, ⟨g0, t0, cs0, f0, p0, q0, hg0, ht0, hv0, _⟩, _⟩ := h
  exact var_lt hg hv0
theorem dstar : "*" ++ "errors.errorString" = "*errors.errorString" := by decide
theorem drow (u : TypeId) (h : Tryz.prog.typeName? 3 u = some "*errors.errorString") : u = 239 :=
  typeName_ptr_named (nm := "errors.errorString") (by rw [dstar]; kernel_rfl) (by kernel_rfl) (by decide) u (by rw [dstar]; exact h)
theorem TabIs_at {n : String} {k : IntKind} {zs : List Int} {g B : Nat} {w w' : World} (hg : Tryz.prog.globalNamed n = some g) (h : Lib.TabIs Tryz.prog w n k zs) (hb : Below B w w') (hB : g < B) : Lib.TabIs Tryz.prog w' n k zs := by
  unfold Lib.TabIs at h ⊢
  exact var_at hg h hb hB
set_option maxRecDepth 100000 in
theorem GW_of {W : World} (h : laidMetH Tryz.prog laid8 W) (hsh : W.ShapedOpen Tryz.prog) : GW W := by
  rw [MakeChecks.laidMetH_plain _ _ _ (by kernel_rfl)] at h
  have h2 := laidMet.tail h
  have h3 := laidMet.tail h2
  have h5 := laidMet.tail (laidMet.tail h3)
  have h6 := laidMet.tail h5
  have h7 := laidMet.tail h6
  have hsz := laid_lt (g := 8) h2 (by kernel_rfl)
  have hw := texts_of_head (P := Tryz.prog) (name := "postilion/line.words") (ls := [[109, 97, 107, 101], [114, 101, 109, 111, 118, 101], [114, 101, 110, 97, 109, 101], [97, 112, 112, 101, 110, 100], [114, 101, 97, 100], [108, 105, 115, 116]]) (g := 3) (t := 221) (e := 9) (n := 6) (by kernel_rfl) (by kernel_rfl) Tryz.underlying221 Tryz.underlying9 (by kernel_rfl) h7
  obtain ⟨m, hm⟩ : ∃ m, W.cell? ⟨0, 0, none⟩ = some (.int .i64 m) := Go.Proofs.cell_of_shapedOpen_int (zero := #[.int .i64 0]) (t := 3) hsh (of_decide_eq_true (by kernel_rfl)) (by kernel_rfl) rfl (by kernel_rfl) (by kernel_rfl) Tryz.underlying3
  have hp := Lib.tabIs_of_head (P := Tryz.prog) (k := .u64) (zs := Lib.pow10Tab) (g := 6) (by kernel_rfl) (by kernel_rfl) Tryz.underlying263 Tryz.underlying210 (by kernel_rfl) (by kernel_rfl) h3
  obtain ⟨a1, s1, hv1, _⟩ := laid_sentinel (g := 2) h5 (by kernel_rfl) (by kernel_rfl) Tryz.underlying87 drow Tryz.underlying239 Tryz.underlying241 rfl rfl Tryz.underlying9 (by kernel_rfl) (by kernel_rfl)
  obtain ⟨a2, s2, hv2, _⟩ := laid_sentinel (g := 1) h6 (by kernel_rfl) (by kernel_rfl) Tryz.underlying87 drow Tryz.underlying239 Tryz.underlying241 rfl rfl Tryz.underlying9 (by kernel_rfl) (by kernel_rfl)
  refine ⟨by unfold GN; omega, fun w' hb => ⟨⟨⟨?_, ?_, ?_, ?_, ?_, ?_⟩, ⟨m, ?_⟩, ?_⟩, ⟨⟨_, _, var_at (g := 1) (by kernel_rfl) hv2 hb (by decide)⟩, ⟨_, _, var_at (g := 2) (by kernel_rfl) hv1 hb (by decide)⟩⟩⟩⟩
  · exact (hb.cell (p := ⟨3, 0, none⟩) (by decide)).trans (hw 0 _ rfl)
  · exact (hb.cell (p := ⟨3, 1, none⟩) (by decide)).trans (hw 1 _ rfl)
  · exact (hb.cell (p := ⟨3, 2, none⟩) (by decide)).trans (hw 2 _ rfl)
  · exact (hb.cell (p := ⟨3, 3, none⟩) (by decide)).trans (hw 3 _ rfl)
  · exact (hb.cell (p := ⟨3, 4, none⟩) (by decide)).trans (hw 4 _ rfl)
  · exact (hb.cell (p := ⟨3, 5, none⟩) (by decide)).trans (hw 5 _ rfl)
  · exact (hb.cell (p := ⟨0, 0, none⟩) (by decide)).trans hm
  · exact TabIs_at (g := 6) (by kernel_rfl) hp hb (by decide)
end Go.Proofs.YtffgolanmaenfacGreatDoor

namespace Go.Proofs.YtffgolanmaenfacGreatDoor
open Go.ChangeShapes Go.WideShapes Go.ChangeAt Go.RowKit Go.Deep Go.Joins
set_option linter.unusedSimpArgs false
set_option linter.unusedVariables false

theorem open_lines {H : Type} {enc : TypeId × Value → H} {w : World} {base : Nat} {held : Bool} {fuel : Nat} {a0 : Option Addr} {len cap : Nat} {x : DataW H × List MemPlace}
    (h : DataW.trod enc Tryz.prog w base (fun _ => true) held fuel 22 [.slice a0 len cap] = some x) (hw : ∀ n ∈ x.1.weights Tryz.prog 22, n ≤ reachBytes) :
    ∃ ls : List ByteArray, LnAt w a0 len ls ∧ len ≤ cap ∧ ((a0 = none ∧ len = 0 ∧ cap = 0) ∨ ∃ ad, a0 = some ad ∧ (0 < cap → ∃ b off, ad = ⟨b, off, none⟩)) := by
  rcases open_slice Tryz.underlying22 h with ⟨hcs, _⟩ | ⟨a, len', cap', m, n, D, Pl, hcs, _, hl, hm, hmm, hxe, hx⟩
  · simp at hcs
    obtain ⟨rfl, rfl, rfl⟩ := hcs
    exact ⟨[], ⟨rfl, Nat.zero_le _, by simp, fun h => absurd h (Nat.lt_irrefl _)⟩, Nat.le_refl _, Or.inl ⟨rfl, rfl, rfl⟩⟩
  · simp at hcs
    obtain ⟨rfl, rfl, rfl⟩ := hcs
    simp only [if_true] at hmm
    obtain rfl : m = cap := hmm
    rw [cells9] at hx
    have hwD : ∀ i, i < len → ∀ n ∈ (D i).weights Tryz.prog 9, n ≤ reachBytes := fun i hi n hn => hw n (by
      rw [hxe]
      simp only [DataW.weights, Tryz.underlying22, List.mem_cons, List.mem_append]
      exact .inr (.inl (mem_weightsAll (List.mem_map.2 ⟨i, List.mem_range.2 hi, rfl⟩) n hn)))
    have hc : ∀ i, i < m → ∃ s : ByteArray, w.cell? (a.add i) = some (.string s) ∧ (i < len → s.size ≤ 281474976710656) := fun i hi => by
      obtain ⟨cs', h1, h2⟩ := hx i hi
      obtain ⟨s, e1, e2, _⟩ := DataW.trod_string Tryz.underlying9 h2
      subst e1
      obtain ⟨_, _, hcell⟩ := World.cells?_some h1
      have e0 := hcell 0 (by omega)
      rw [Nat.mul_one] at e0
      have ea : (a.add i).add 0 = a.add i := by simp [Addr.add]
      rw [ea] at e0
      refine ⟨s, by simpa using e0, fun hil => ?_⟩
      have hd : D i = .lit (.string s.data.toList) := (Prod.mk.inj e2).1
      have := hwD i hil
      rw [hd] at this
      simp only [DataW.weights, List.mem_singleton] at this
      exact reach48 (this _ (by simp))
    obtain ⟨f, hf⟩ : ∃ f : Nat → ByteArray, ∀ i, i < m → w.cell? (a.add i) = some (.string (f i)) ∧ (i < len → (f i).size ≤ 281474976710656) := by
      classical
      refine ⟨fun i => if hi : i < m then Classical.choose (hc i hi) else ⟨#[]⟩, fun i hi => ?_⟩
      simp only [dif_pos hi]
      exact Classical.choose_spec (hc i hi)
    have ha : 0 < m → a = ⟨a.block, a.off, none⟩ := fun h0 => by
      have e0 := (hf 0 h0).1
      have : a.add 0 = a := by simp [Addr.add]
      rw [this] at e0
      exact spot_none e0
    refine ⟨(List.range len).map f, ⟨by simp, by omega, fun r hr => ?_, fun h0 => ?_⟩, hl, Or.inr ⟨a, rfl, fun h0 => ⟨a.block, a.off, ha h0⟩⟩⟩
    · simp at hr
      obtain ⟨i, hi, rfl⟩ := hr
      exact (hf i (by omega)).2 hi
    · refine ⟨a.block, a.off, by rw [← ha (by omega)], fun j r hj => ?_⟩
      have hj' : j < len := by have := (List.getElem?_eq_some_iff.1 hj).1; simpa using this
      have hr : r = f j := by
        rw [List.getElem?_map, List.getElem?_range hj'] at hj
        simpa using hj.symm
      subst hr
      have := (hf j (by omega)).1
      rw [ha (by omega), addr_add] at this
      exact this

end Go.Proofs.YtffgolanmaenfacGreatDoor
