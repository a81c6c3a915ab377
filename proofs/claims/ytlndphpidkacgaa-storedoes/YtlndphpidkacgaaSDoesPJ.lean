/- StoreDoes holds: for all lists of steps, all bytes and every number the statement postilionlaw.StoreDoes returns true, and its arguments read behind it as they read before. No condition. -/
import Derived.Test.YtlndphpidkacgaaJ6
namespace Go.Proofs.Ytlndphpidkacgaa
open Go.RowKit
set_option linter.unusedSimpArgs false
set_option linter.unusedVariables false

set_option maxRecDepth 100000 in
set_option maxHeartbeats 8000000 in
theorem sdoes_walk (a0 : Option Addr) (n0 c0 : Nat) (ls : List AStep) (a1 : Option Addr) (n1 c1 : Nat) (bs : List UInt8) (client : Int) (w : World) (hl : StepsAt w a0 n0 ls) (hb : ByAt w a1 bs) (hbn : bs.length = n1) (hcap : n1 ≤ c1) (hm1 : n1 ≤ maxLen) (hnil : a1 = none → n1 = 0 ∧ c1 = 0) :
    Calls Try.prog 10 #[.slice a0 n0 c0, .slice a1 n1 c1, .int .i64 client] w fun e w' => e = .returned (.bool true) ∧ Below w.heap.size w w' := by
  have HBG := hide storeBegun_any
  have HG0 := hide (fun W (h : Below w.heap.size w W) => greatStore_any a0 n0 c0 ls W (hl.below h))
  have HNW := hide (fun W => SNew_any W)
  have HL := hide hl
  have hn0 := hl.2.1
  unfold maxLen at hn0 hm1
  have HBY := hide hb
  have HBN := hide hbn
  have HNIL := hide hnil
  clear hl hb hbn hnil
  go_enter Try.func10, Try.ntmps10
  go_wp2_with fail
  refine ((unhide HBG) _).mono ?_
  rintro e w1 ⟨rfl, b1⟩
  have HB1 := hide b1
  clear b1
  go_wp2_with fail
  refine ((unhide HG0) _ (unhide HB1)).mono ?_
  rintro e w2 ⟨⟨r2, rfl⟩, b2⟩
  have HB2 := hide ((unhide HB1).trans (b2.mono (unhide HB1).size))
  clear b2
  cases r2
  case true =>
    go_wp2
    go_ret
    exact ⟨rfl, unhide HB2⟩
  by_cases hbig : (3000 : Int) < (n1 : Int)
  · go_wp2
    go_ret
    exact ⟨rfl, unhide HB2⟩
  obtain ⟨hg, ht, hk2, hkn⟩ := allR_good bs
  have hop := Open_any a1 n1 c1 bs w2 ((unhide HBY).below (unhide HB2)) (unhide HBN) hcap (by omega) (unhide HNIL)
  have hrec := fun W (h : Below w.heap.size w W) => RecordsOf_by a1 n1 c1 bs W ((unhide HBY).below h) (unhide HBN) hcap (by omega) (unhide HNIL)
  obtain ⟨al, hal⟩ : ∃ al, al = allR bs := ⟨_, rfl⟩
  rw [← hal] at hg ht hk2 hkn hop hrec
  obtain ⟨Lo, ko⟩ := al
  dsimp only at hg ht hk2 hkn hop hrec
  rw [unhide HBN] at hkn
  have HG := hide hg
  have HTK := hide ht
  have hof : Lo.length ≤ 1000000 := by have := hg.few; omega
  have hos : (logB Lo).length ≤ 3000 := by omega
  have HK2 := hide hk2
  have HOP := hide hop
  have HREC := hide hrec
  obtain ⟨M0, hM0⟩ : ∃ M, (behind Lo).length = M := ⟨_, rfl⟩
  have HM0 := hide hM0
  have hM01000 := behind_few Lo hM0
  obtain ⟨no, hno⟩ : ∃ n, Lo.length = n := ⟨_, rfl⟩
  have HNO := hide hno
  have hno6 : no ≤ 1000000 := by omega
  obtain ⟨sO, hsO⟩ : ∃ s : ByteArray, s = ⟨(logB Lo).toArray⟩ := ⟨_, rfl⟩
  have HSO := hide hsO
  have hwr : IntKind.i64.wrap ((n1 : Int) - (ko : Int)) = (n1 : Int) - (ko : Int) := by rw [IntKind.wrap_i64]; omega
  clear hg ht hk2 hal hop hrec hM0 hno hsO
  go_wp2_with fail
  refine (unhide HOP).mono ?_
  rintro e w3 ⟨S0, B0, own0, lv0, rfl, hs3, b3⟩
  have HS3 := hide hs3
  have HB3 := hide ((unhide HB2).trans (b3.mono (unhide HB2).size))
  clear hs3 b3
  go_wp2_with fail
  refine ((unhide HREC) _ (unhide HB3)).mono ?_
  rintro e w4 ⟨ao, co, rfl, oo, b4⟩
  dsimp only at oo ⊢
  rw [unhide HNO] at oo ⊢
  have HS4 := hide ((unhide HS3).below b4)
  have HB4 := hide ((unhide HB3).trans (b4.mono (unhide HB3).size))
  have HO4 := hide (recs_row oo (unhide HNO))
  clear oo b4
  have hko : (ko : Int) ≤ (c1 : Int) := by omega
  have hko0 : (0 : Int) ≤ (ko : Int) := by omega
  have hneq : ((n1 : Int) - (ko : Int) != (n1 : Int) - (ko : Int)) = false := by simp
  go_wp2_with fail
  refine wp_region_held_drew (S := (fun wx => (SRep w2.heap.size wx S0 B0 own0 lv0 Lo ∧ Below w.heap.size w wx ∧ RecsAt wx ao no Lo))) (by kernel_rfl) ⟨(unhide HS4).below (below_dr w4), (unhide HB4).trans ((below_dr w4).mono (unhide HB4).size), (unhide HO4).below (below_dr w4)⟩ (fun hHeld => ?_)
  refine wpAnyH_take (i := 0) (v := ?_) opn0 (by kernel_rfl) (by kernel_rfl) (by kernel_rfl) (fun _ _ _ h => h) (Or.inl ⟨by rfl, ?_⟩) (by assumption) ?_
  rotate_left 1
  · intro wz hSw
    try dsimp only at hSw
    go_simp
    all_goals with_reducible rfl
  try simp only [Act.put, List.setIfInBounds_toArray, List.set_cons_zero, List.set_cons_succ]
  refine wpAnyH_take (i := 1) (v := ?_) opn1 (by kernel_rfl) (by kernel_rfl) (by kernel_rfl) (fun _ _ _ h => h) (Or.inl ⟨by rfl, ?_⟩) (by assumption) ?_
  rotate_left 1
  · intro wz hSw
    try dsimp only at hSw
    go_simp
    all_goals with_reducible rfl
  try simp only [Act.put, List.setIfInBounds_toArray, List.set_cons_zero, List.set_cons_succ]
  refine wpAnyH_take (i := 2) (v := ?_) opn2 (by kernel_rfl) (by kernel_rfl) (by kernel_rfl) (fun _ _ _ h => h) (Or.inl ⟨by rfl, ?_⟩) (by assumption) ?_
  rotate_left 1
  · intro wz hSw
    try dsimp only at hSw
    go_simp
    all_goals with_reducible rfl
  try simp only [Act.put, List.setIfInBounds_toArray, List.set_cons_zero, List.set_cons_succ]
  refine wpAnyH_take (i := 3) (v := ?_) opn3 (by kernel_rfl) (by kernel_rfl) (by kernel_rfl) (fun _ _ _ h => h) (Or.inl ⟨by rfl, ?_⟩) (by assumption) ?_
  rotate_left 1
  · intro wz hSw
    try dsimp only at hSw
    go_simp
    all_goals with_reducible rfl
  try simp only [Act.put, List.setIfInBounds_toArray, List.set_cons_zero, List.set_cons_succ]
  refine wpAnyH_take (i := 4) (v := ?_) opn4 (by kernel_rfl) (by kernel_rfl) (by kernel_rfl) (fun _ _ _ h => h) (Or.inl ⟨by rfl, ?_⟩) (by assumption) ?_
  rotate_left 1
  · intro wz hSw
    try dsimp only at hSw
    go_simp
    all_goals with_reducible rfl
  try simp only [Act.put, List.setIfInBounds_toArray, List.set_cons_zero, List.set_cons_succ]
  refine wpAnyH_take (i := 5) (v := ?_) opn5 (by kernel_rfl) (by kernel_rfl) (by kernel_rfl) (fun _ _ _ h => h) (Or.inl ⟨by rfl, ?_⟩) (by assumption) ?_
  rotate_left 1
  · intro wz hSw
    try dsimp only at hSw
    go_simp
    all_goals with_reducible rfl
  try simp only [Act.put, List.setIfInBounds_toArray, List.set_cons_zero, List.set_cons_succ]
  refine wpAnyH_take (i := 6) (v := ?_) opn6 (by kernel_rfl) (by kernel_rfl) (by kernel_rfl) (fun _ _ _ h => h) (Or.inl ⟨by rfl, ?_⟩) (by assumption) ?_
  rotate_left 1
  · intro wz hSw
    try dsimp only at hSw
    go_simp
    all_goals with_reducible rfl
  try simp only [Act.put, List.setIfInBounds_toArray, List.set_cons_zero, List.set_cons_succ]
  refine wpAnyH_take (i := 7) (v := ?_) opn7 (by kernel_rfl) (by kernel_rfl) (by kernel_rfl) (fun _ _ _ h => h) (Or.inl ⟨by rfl, ?_⟩) (by assumption) ?_
  rotate_left 1
  · intro wz hSw
    try dsimp only at hSw
    go_simp
    all_goals with_reducible rfl
  try simp only [Act.put, List.setIfInBounds_toArray, List.set_cons_zero, List.set_cons_succ]
  refine wpAnyH_take (i := 8) (v := ?_) opn8 (by kernel_rfl) (by kernel_rfl) (by kernel_rfl) (fun _ _ _ h => h) (Or.inl ⟨by rfl, ?_⟩) (by assumption) ?_
  rotate_left 1
  · intro wz hSw
    try dsimp only at hSw
    go_simp
    all_goals with_reducible rfl
  try simp only [Act.put, List.setIfInBounds_toArray, List.set_cons_zero, List.set_cons_succ]
  refine wpAnyH_take (i := 9) (v := ?_) opn9 (by kernel_rfl) (by kernel_rfl) (by kernel_rfl) (fun _ _ _ h => h) (Or.inl ⟨by rfl, ?_⟩) (by assumption) ?_
  rotate_left 1
  · intro wz hSw
    try dsimp only at hSw
    go_simp
    all_goals with_reducible rfl
  try simp only [Act.put, List.setIfInBounds_toArray, List.set_cons_zero, List.set_cons_succ]
  refine wpAnyH_take (i := 10) (v := ?_) opn10 (by kernel_rfl) (by kernel_rfl) (by kernel_rfl) (fun _ _ _ h => h) (Or.inl ⟨by rfl, ?_⟩) (by assumption) ?_
  rotate_left 1
  · intro wz hSw
    try dsimp only at hSw
    go_simp
    all_goals with_reducible rfl
  try simp only [Act.put, List.setIfInBounds_toArray, List.set_cons_zero, List.set_cons_succ]
  refine wpAnyH_take (i := 11) (v := ?_) opn11 (by kernel_rfl) (by kernel_rfl) (by kernel_rfl) (fun _ _ _ h => h) (Or.inl ⟨by rfl, ?_⟩) (by assumption) ?_
  rotate_left 1
  · intro wz hSw
    try dsimp only at hSw
    go_simp
    all_goals with_reducible rfl
  try simp only [Act.put, List.setIfInBounds_toArray, List.set_cons_zero, List.set_cons_succ]
  refine wpAnyH_take (i := 14) (v := ?_) opn14 (by kernel_rfl) (by kernel_rfl) (by kernel_rfl) (fun _ _ _ h => h) (Or.inl ⟨by rfl, ?_⟩) (by assumption) ?_
  rotate_left 1
  · intro wz hSw
    try dsimp only at hSw
    go_simp
    all_goals with_reducible rfl
  try simp only [Act.put, List.setIfInBounds_toArray, List.set_cons_zero, List.set_cons_succ]
  refine wpAnyH_take (i := 15) (v := ?_) opn15 (by kernel_rfl) (by kernel_rfl) (by kernel_rfl) (fun _ _ _ h => h) (Or.inl ⟨by rfl, ?_⟩) (by assumption) ?_
  rotate_left 1
  · intro wz hSw
    try dsimp only at hSw
    go_simp
    all_goals with_reducible rfl
  try simp only [Act.put, List.setIfInBounds_toArray, List.set_cons_zero, List.set_cons_succ]
  refine wpAnyH_take (i := 16) (v := ?_) opn16 (by kernel_rfl) (by kernel_rfl) (by kernel_rfl) (fun _ _ _ h => h) (Or.inl ⟨by rfl, ?_⟩) (by assumption) ?_
  rotate_left 1
  · intro wz hSw
    try dsimp only at hSw
    go_simp
    all_goals with_reducible rfl
  try simp only [Act.put, List.setIfInBounds_toArray, List.set_cons_zero, List.set_cons_succ]
  refine wpAnyH_take (i := 17) (v := ?_) opn17 (by kernel_rfl) (by kernel_rfl) (by kernel_rfl) (fun _ _ _ h => h) (Or.inl ⟨by rfl, ?_⟩) (by assumption) ?_
  rotate_left 1
  · intro wz hSw
    try dsimp only at hSw
    have hq : ∀ cc, (a1 = none → cc = 0) → (convert 48 9 (.slice a1 ko cc)).run Try.prog wz = .ok (.string sO) wz := fun cc hcc => by rw [unhide HSO, ← unhide HTK]; exact conv_by2 ((unhide HBY).below hSw.2.1) (unhide HBN) hkn hcc
    have hq1 := hq c1 (fun h => ((unhide HNIL) h).2)
    go_simp
    all_goals with_reducible rfl
  try simp only [Act.put, List.setIfInBounds_toArray, List.set_cons_zero, List.set_cons_succ]
  refine wpAnyH_ready (rs := [12]) (by kernel_rfl) (by simp) ?_
  refine AllReadyH.cons opn12 (fun K hK => ?_) AllReadyH.nil
  go_simp
  refine (Log_T3 hHeld.1 hos (unhide HK2).symm).mono ?_
  rintro e w5 ⟨l1, k1, rfl, o1, b5⟩
  have ho1 : BRow w5 0 (.slice l1 ko k1) (logB Lo) := ownsRow_base o1 (Nat.zero_le _)
  refine hK.out _ _ ⟨hHeld.1.below b5, hHeld.2.1.trans (b5.mono hHeld.2.1.size), hHeld.2.2.below b5⟩ (fun hHeldN => ?_)
  clear hHeld hK K
  have hHeld := hHeldN
  clear hHeldN
  try simp only [Act.put, List.setIfInBounds_toArray, List.set_cons_zero, List.set_cons_succ]
  refine wpAnyH_weak (S' := fun wx => (SRep w2.heap.size wx S0 B0 own0 lv0 Lo ∧ Below w.heap.size w wx ∧ RecsAt wx ao no Lo) ∧ BRow wx 0 (.slice l1 ko k1) (logB Lo)) (fun _ h => h.1) _ _ _ _ ?_
  replace hHeld := (show (fun wx => (SRep w2.heap.size wx S0 B0 own0 lv0 Lo ∧ Below w.heap.size w wx ∧ RecsAt wx ao no Lo) ∧ BRow wx 0 (.slice l1 ko k1) (logB Lo)) _ from ⟨hHeld, ho1⟩)
  refine wpAnyH_take (i := 13) (v := ?_) opn13 (by kernel_rfl) (by kernel_rfl) (by kernel_rfl) (fun _ _ _ h => h) (Or.inl ⟨by rfl, ?_⟩) (by assumption) ?_
  rotate_left 1
  · intro wz hSw
    try dsimp only at hSw
    have hq : (convert 48 9 (.slice l1 ko k1)).run Try.prog wz = .ok (.string sO) wz := by rw [unhide HSO]; exact conv_row hSw.2 (unhide HK2).symm
    go_simp
    all_goals with_reducible rfl
  try simp only [Act.put, List.setIfInBounds_toArray, List.set_cons_zero, List.set_cons_succ]
  refine wpAnyH_take (i := 18) (v := ?_) opn18 (by kernel_rfl) (by kernel_rfl) (by kernel_rfl) (fun _ _ _ h => h) (Or.inl ⟨by rfl, ?_⟩) (by assumption) ?_
  rotate_left 1
  · intro wz hSw
    try dsimp only at hSw
    go_simp
    all_goals with_reducible rfl
  try simp only [Act.put, List.setIfInBounds_toArray, List.set_cons_zero, List.set_cons_succ]
  refine wpAnyH_take (i := 19) (v := ?_) opn19 (by kernel_rfl) (by kernel_rfl) (by kernel_rfl) (fun _ _ _ h => h) (Or.inl ⟨by rfl, ?_⟩) (by assumption) ?_
  rotate_left 1
  · intro wz hSw
    try dsimp only at hSw
    go_simp
    all_goals with_reducible rfl
  try simp only [Act.put, List.setIfInBounds_toArray, List.set_cons_zero, List.set_cons_succ]
  refine wpAnyH_take (i := 20) (v := ?_) opn20 (by kernel_rfl) (by kernel_rfl) (by kernel_rfl) (fun _ _ _ h => h) (Or.inl ⟨by rfl, ?_⟩) (by assumption) ?_
  rotate_left 1
  · intro wz hSw
    try dsimp only at hSw
    go_simp
    all_goals with_reducible rfl
  try simp only [Act.put, List.setIfInBounds_toArray, List.set_cons_zero, List.set_cons_succ]
  refine wpAnyH_take (i := 21) (v := ?_) opn21 (by kernel_rfl) (by kernel_rfl) (by kernel_rfl) (fun _ _ _ h => h) (Or.inl ⟨by rfl, ?_⟩) (by assumption) ?_
  rotate_left 1
  · intro wz hSw
    try dsimp only at hSw
    go_simp
    all_goals with_reducible rfl
  try simp only [Act.put, List.setIfInBounds_toArray, List.set_cons_zero, List.set_cons_succ]
  refine wpAnyH_take (i := 22) (v := ?_) opn22 (by kernel_rfl) (by kernel_rfl) (by kernel_rfl) (fun _ _ _ h => h) (Or.inl ⟨by rfl, ?_⟩) (by assumption) ?_
  rotate_left 1
  · intro wz hSw
    try dsimp only at hSw
    go_simp
    all_goals with_reducible rfl
  try simp only [Act.put, List.setIfInBounds_toArray, List.set_cons_zero, List.set_cons_succ]
  refine wpAnyH_take (i := 23) (v := ?_) opn23 (by kernel_rfl) (by kernel_rfl) (by kernel_rfl) (fun _ _ _ h => h) (Or.inl ⟨by rfl, ?_⟩) (by assumption) ?_
  rotate_left 1
  · intro wz hSw
    try dsimp only at hSw
    go_simp
    all_goals with_reducible rfl
  try simp only [Act.put, List.setIfInBounds_toArray, List.set_cons_zero, List.set_cons_succ]
  refine wpAnyH_take (i := 24) (v := ?_) opn24 (by kernel_rfl) (by kernel_rfl) (by kernel_rfl) (fun _ _ _ h => h) (Or.inl ⟨by rfl, ?_⟩) (by assumption) ?_
  rotate_left 1
  · intro wz hSw
    try dsimp only at hSw
    have hq := hSw.1.1.ptr
    go_simp
    all_goals with_reducible rfl
  try simp only [Act.put, List.setIfInBounds_toArray, List.set_cons_zero, List.set_cons_succ]
  refine wpAnyH_take (i := 26) (v := ?_) opn26 (by kernel_rfl) (by kernel_rfl) (by kernel_rfl) (fun _ _ _ h => h) (Or.inl ⟨by rfl, ?_⟩) (by assumption) ?_
  rotate_left 1
  · intro wz hSw
    try dsimp only at hSw
    go_simp
    all_goals with_reducible rfl
  try simp only [Act.put, List.setIfInBounds_toArray, List.set_cons_zero, List.set_cons_succ]
  refine wpAnyH_ready (rs := [25]) (by kernel_rfl) (by simp) ?_
  refine AllReadyH.cons opn25 (fun K hK => ?_) AllReadyH.nil
  go_simp
  refine (Names_M hHeld.1.1.files (unhide HM0)).mono ?_
  rintro e w6 ⟨g1, k3, rfl, o3, b6⟩
  have ho3 : w6.ownsRow 0 9 1 (.slice (some ⟨g1, 0, none⟩) M0 k3) M0 ((sNames (behind Lo)).map .string) := ownsRow_base o3 (Nat.zero_le _)
  refine hK.out _ _ ⟨⟨hHeld.1.1.below b6, hHeld.1.2.1.trans (b6.mono hHeld.1.2.1.size), hHeld.1.2.2.below b6⟩, hHeld.2.below b6⟩ (fun hHeldN => ?_)
  clear hHeld hK K
  have hHeld := hHeldN
  clear hHeldN
  try simp only [Act.put, List.setIfInBounds_toArray, List.set_cons_zero, List.set_cons_succ]
  refine wpAnyH_weak (S' := fun wx => ((SRep w2.heap.size wx S0 B0 own0 lv0 Lo ∧ Below w.heap.size w wx ∧ RecsAt wx ao no Lo) ∧ BRow wx 0 (.slice l1 ko k1) (logB Lo)) ∧ wx.ownsRow 0 9 1 (.slice (some ⟨g1, 0, none⟩) M0 k3) M0 ((sNames (behind Lo)).map .string)) (fun _ h => h.1) _ _ _ _ ?_
  replace hHeld := (show (fun wx => ((SRep w2.heap.size wx S0 B0 own0 lv0 Lo ∧ Below w.heap.size w wx ∧ RecsAt wx ao no Lo) ∧ BRow wx 0 (.slice l1 ko k1) (logB Lo)) ∧ wx.ownsRow 0 9 1 (.slice (some ⟨g1, 0, none⟩) M0 k3) M0 ((sNames (behind Lo)).map .string)) _ from ⟨hHeld, ho3⟩)
  refine wpAnyH_ready (rs := [27]) (by kernel_rfl) (by simp) ?_
  refine AllReadyH.cons opn27 (fun K hK => ?_) AllReadyH.nil
  go_simp
  refine (Behind_any ao no co Lo _ hHeld.1.1.2.2 (unhide HG).small (by omega)).mono ?_
  rintro e w7 ⟨D, dv, rfl, od, b7⟩
  obtain ⟨da, dc, rfl⟩ := od.form2
  rw [unhide HM0] at od
  obtain ⟨_, hdn⟩ := dNames_M od (unhide HM0)
  have HDN := hide hdn
  have hdc := od.cell0
  clear hdn od
  refine hK.out _ _ ⟨⟨⟨hHeld.1.1.1.below b7, hHeld.1.1.2.1.trans (b7.mono hHeld.1.1.2.1.size), hHeld.1.1.2.2.below b7⟩, hHeld.1.2.below b7⟩, ownsRow_same hHeld.2 (fun k h1 => b7.block k (hHeld.2.lt k h1).2)⟩ (fun hHeldN => ?_)
  clear hHeld hK K
  have hHeld := hHeldN
  clear hHeldN
  try simp only [Act.put, List.setIfInBounds_toArray, List.set_cons_zero, List.set_cons_succ]
  refine wpAnyH_weak (S' := fun wx => (((SRep w2.heap.size wx S0 B0 own0 lv0 Lo ∧ Below w.heap.size w wx ∧ RecsAt wx ao no Lo) ∧ BRow wx 0 (.slice l1 ko k1) (logB Lo)) ∧ wx.ownsRow 0 9 1 (.slice (some ⟨g1, 0, none⟩) M0 k3) M0 ((sNames (behind Lo)).map .string)) ∧ wx.cell? ⟨D, 0, none⟩ = some (.slice da M0 dc)) (fun _ h => h.1) _ _ _ _ ?_
  replace hHeld := (show (fun wx => (((SRep w2.heap.size wx S0 B0 own0 lv0 Lo ∧ Below w.heap.size w wx ∧ RecsAt wx ao no Lo) ∧ BRow wx 0 (.slice l1 ko k1) (logB Lo)) ∧ wx.ownsRow 0 9 1 (.slice (some ⟨g1, 0, none⟩) M0 k3) M0 ((sNames (behind Lo)).map .string)) ∧ wx.cell? ⟨D, 0, none⟩ = some (.slice da M0 dc)) _ from ⟨hHeld, hdc⟩)
  clear hdc
  refine wpAnyH_take (i := 28) (v := ?_) opn28 (by kernel_rfl) (by kernel_rfl) (by kernel_rfl) (fun _ _ _ h => h) (Or.inl ⟨by rfl, ?_⟩) (by assumption) ?_
  rotate_left 1
  · intro wz hSw
    try dsimp only at hSw
    go_simp
    all_goals with_reducible rfl
  try simp only [Act.put, List.setIfInBounds_toArray, List.set_cons_zero, List.set_cons_succ]
  refine wpAnyH_take (i := 29) (v := ?_) opn29 (by kernel_rfl) (by kernel_rfl) (by kernel_rfl) (fun _ _ _ h => h) (Or.inl ⟨by rfl, ?_⟩) (by assumption) ?_
  rotate_left 1
  · intro wz hSw
    try dsimp only at hSw
    have hq := hSw.2
    go_simp
    all_goals with_reducible rfl
  try simp only [Act.put, List.setIfInBounds_toArray, List.set_cons_zero, List.set_cons_succ]
  refine wpAnyH_ready (rs := [30]) (by kernel_rfl) (by simp) ?_
  refine AllReadyH.cons opn30 (fun K hK => ?_) AllReadyH.nil
  go_simp
  refine (unhide HDN).mono ?_
  rintro e w8 ⟨g2, k4, rfl, o4, b8⟩
  have ho4 : w8.ownsRow 0 9 1 (.slice g2 M0 k4) M0 ((sNames (behind Lo)).map .string) := ownsRow_base o4 (Nat.zero_le _)
  refine hK.out _ _ ⟨⟨⟨⟨hHeld.1.1.1.1.below b8, hHeld.1.1.1.2.1.trans (b8.mono hHeld.1.1.1.2.1.size), hHeld.1.1.1.2.2.below b8⟩, hHeld.1.1.2.below b8⟩, ownsRow_same hHeld.1.2 (fun k h1 => b8.block k (hHeld.1.2.lt k h1).2)⟩, (b8.cell (p := ⟨D, 0, none⟩) (World.block_lt_of_cell? _ _ hHeld.2)).trans hHeld.2⟩ (fun hHeldN => ?_)
  clear hHeld hK K
  have hHeld := hHeldN
  clear hHeldN
  try simp only [Act.put, List.setIfInBounds_toArray, List.set_cons_zero, List.set_cons_succ]
  refine wpAnyH_ready (rs := [31]) (by kernel_rfl) (by simp) ?_
  refine AllReadyH.cons opn31 (fun K hK => ?_) AllReadyH.nil
  go_simp
  refine (SameTexts_any (some ⟨g1, 0, none⟩) g2 M0 M0 k3 k4 _ _ _ hHeld.1.2 ho4 hM01000 hM01000).mono ?_
  rintro e w9 ⟨rfl, b9⟩
  rw [decide_eq_true (rfl : sNames (behind Lo) = sNames (behind Lo))]
  refine hK.out _ _ ⟨⟨⟨⟨hHeld.1.1.1.1.below b9, hHeld.1.1.1.2.1.trans (b9.mono hHeld.1.1.1.2.1.size), hHeld.1.1.1.2.2.below b9⟩, hHeld.1.1.2.below b9⟩, ownsRow_same hHeld.1.2 (fun k h1 => b9.block k (hHeld.1.2.lt k h1).2)⟩, (b9.cell (p := ⟨D, 0, none⟩) (World.block_lt_of_cell? _ _ hHeld.2)).trans hHeld.2⟩ (fun hHeldN => ?_)
  clear hHeld hK K
  have hHeld := hHeldN
  clear hHeldN
  try simp only [Act.put, List.setIfInBounds_toArray, List.set_cons_zero, List.set_cons_succ]
  refine wpAnyH_take (i := 32) (v := ?_) opn32 (by kernel_rfl) (by kernel_rfl) (by kernel_rfl) (fun _ _ _ h => h) (Or.inl ⟨by rfl, ?_⟩) (by assumption) ?_
  rotate_left 1
  · intro wz hSw
    try dsimp only at hSw
    go_simp
    all_goals with_reducible rfl
  try simp only [Act.put, List.setIfInBounds_toArray, List.set_cons_zero, List.set_cons_succ]
  refine wpAnyH_take (i := 33) (v := ?_) opn33 (by kernel_rfl) (by kernel_rfl) (by kernel_rfl) (fun _ _ _ h => h) (Or.inl ⟨by rfl, ?_⟩) (by assumption) ?_
  rotate_left 1
  · intro wz hSw
    try dsimp only at hSw
    go_simp
    all_goals with_reducible rfl
  try simp only [Act.put, List.setIfInBounds_toArray, List.set_cons_zero, List.set_cons_succ]
  refine wpAnyH_done (by kernel_rfl) ?_ _
  have HB9 := hide hHeld.1.1.1.2.1
  clear hHeld
  go_wp2_with fail
  refine ((unhide HNW) _).mono ?_
  rintro e w11 ⟨S, B6, own6, lv6, rfl, hs6, b6⟩
  have HP6 := hide (Pair.start hs6 b6.size)
  have HB6 : Hid (Below w9.heap.size w9 (w11.alloc (.cells #[.slice none 0 0] 78))) := b6.alloc b6.size _
  have hzw9 : w.heap.size ≤ w9.heap.size := (unhide HB9).size
  clear hs6 b6
  go_wp2_with fail
  go_loopw [13] (fun i wr => ∃ (q B : Nat) (own : List Nat) (lv rv : Value) (L : List ARec), q ≤ n0 ∧ i = .int .i64 (q : Int) ∧ Hid (Pair w9.heap.size wr S B own lv L w11.heap.size rv L) ∧ Hid (Below w9.heap.size w9 wr)) (fun i _ => n0 - (intOf i).toNat)
  case atStart => exact ⟨0, B6, own6, lv6, _, [], Nat.zero_le _, rfl, unhide HP6, unhide HB6⟩
  case round =>
    obtain ⟨q, B, own, lv, rv, L, hq, rfl, HP, HB⟩ := hrel
    have HBw := hide ((unhide HB9).trans ((unhide HB).mono (unhide HB9).size))
    by_cases hlt : (q : Int) < (n0 : Int)
    · obtain ⟨y, hy⟩ : ∃ y, ls[q]? = some y := ⟨_, List.getElem?_eq_getElem (by rw [(unhide HL).1]; omega)⟩
      obtain ⟨b, off, rfl, hc⟩ := (unhide HL).2.2.2 (by omega)
      have HGS := hide (hc q y hy)
      have hsz := (unhide HL).2.2.1 y (List.mem_of_getElem? hy)
      have HST := hide (fun W (h : Pair w9.heap.size W S B own lv L w11.heap.size rv L) (hN : w9.heap.size ≤ W.heap.size) => storeStep_any h y hN hsz.1 hsz.2.1 hsz.2.2)
      obtain ⟨L2, hL2⟩ : ∃ L2, aStep L y = L2 := ⟨_, rfl⟩
      rw [hL2] at HST
      clear hc hy hsz hL2
      obtain ⟨ya, yc, yn, yp, ⟨yk, ys1, ys2, ys3⟩⟩ := y
      dsimp only [AStep.val] at *
      obtain ⟨T2, hT2⟩ : ∃ T, (logB L2).length = T := ⟨_, rfl⟩
      have HT2 := hide hT2
      obtain ⟨M2, hM2⟩ : ∃ M, (behind L2).length = M := ⟨_, rfl⟩
      have HM2 := hide hM2
      have hM21000 := behind_few L2 hM2
      obtain ⟨s2, hs2⟩ : ∃ s : ByteArray, s = ⟨(logB L2).toArray⟩ := ⟨_, rfl⟩
      have HS2 := hide hs2
      obtain ⟨n2, hn2⟩ : ∃ n, L2.length = n := ⟨_, rfl⟩
      have HN2 := hide hn2
      clear hT2 hM2 hs2 hn2
      go_wp2_with fail
      have HPd := hide ((unhide HP).below (below_dr wr))
      have HBd := hide ((unhide HB).trans ((below_dr wr).mono (unhide HB).size))
      refine wp_region_held_drew (S := (fun wx => Below w.heap.size w wx)) (by kernel_rfl) ((unhide HBw).trans ((below_dr wr).mono (unhide HBw).size)) (fun hHeld => ?_)
      refine wpAnyH_take (i := 0) (v := ?_) opn0 (by kernel_rfl) (by kernel_rfl) (by kernel_rfl) (fun _ _ _ h => h) (Or.inl ⟨by rfl, ?_⟩) (by assumption) ?_
      rotate_left 1
      · intro wz hSw
        try dsimp only at hSw
        go_simp
        all_goals with_reducible rfl
      try simp only [Act.put, List.setIfInBounds_toArray, List.set_cons_zero, List.set_cons_succ]
      refine wpAnyH_take (i := 1) (v := ?_) opn1 (by kernel_rfl) (by kernel_rfl) (by kernel_rfl) (fun _ _ _ h => h) (Or.inl ⟨by rfl, ?_⟩) (by assumption) ?_
      rotate_left 1
      · intro wz hSw
        try dsimp only at hSw
        go_simp
        all_goals with_reducible rfl
      try simp only [Act.put, List.setIfInBounds_toArray, List.set_cons_zero, List.set_cons_succ]
      refine wpAnyH_take (i := 2) (v := ?_) opn2 (by kernel_rfl) (by kernel_rfl) (by kernel_rfl) (fun _ _ _ h => h) (Or.inl ⟨by rfl, ?_⟩) (by assumption) ?_
      rotate_left 1
      · intro wz hSw
        try dsimp only at hSw
        go_simp
        all_goals with_reducible rfl
      try simp only [Act.put, List.setIfInBounds_toArray, List.set_cons_zero, List.set_cons_succ]
      refine wpAnyH_take (i := 3) (v := ?_) opn3 (by kernel_rfl) (by kernel_rfl) (by kernel_rfl) (fun _ _ _ h => h) (Or.inl ⟨by rfl, ?_⟩) (by assumption) ?_
      rotate_left 1
      · intro wz hSw
        try dsimp only at hSw
        go_simp
        all_goals with_reducible rfl
      try simp only [Act.put, List.setIfInBounds_toArray, List.set_cons_zero, List.set_cons_succ]
      refine wpAnyH_take (i := 4) (v := ?_) opn4 (by kernel_rfl) (by kernel_rfl) (by kernel_rfl) (fun _ _ _ h => h) (Or.inl ⟨by rfl, ?_⟩) (by assumption) ?_
      rotate_left 1
      · intro wz hSw
        try dsimp only at hSw
        go_simp
        all_goals with_reducible rfl
      try simp only [Act.put, List.setIfInBounds_toArray, List.set_cons_zero, List.set_cons_succ]
      refine wpAnyH_take (i := 5) (v := ?_) opn5 (by kernel_rfl) (by kernel_rfl) (by kernel_rfl) (fun _ _ _ h => h) (Or.inl ⟨by rfl, ?_⟩) (by assumption) ?_
      rotate_left 1
      · intro wz hSw
        try dsimp only at hSw
        obtain ⟨g0, g1, g2, g3, g4, g5, g6, g7⟩ := (unhide HGS).same (hSw.block b (unhide HGS).lt)
        go_simp
        all_goals with_reducible rfl
      try simp only [Act.put, List.setIfInBounds_toArray, List.set_cons_zero, List.set_cons_succ]
      refine wpAnyH_ready (rs := [6]) (by kernel_rfl) (by simp) ?_
      refine AllReadyH.cons opn6 (fun K hK => ?_) AllReadyH.nil
      go_simp
      refine ((unhide HST) _ (unhide HPd) (unhide HBd).size).mono ?_
      rintro e w12 ⟨⟨v, rfl, hv⟩, B7, own7, lv7, rv7, hp7, hn7⟩
      obtain rfl := hv rfl
      obtain ⟨ra, rc, rfl⟩ := row_form hp7.r.row
      rw [unhide HN2] at hp7
      have hpp : (Below w.heap.size w w12 ∧ Below w9.heap.size w9 w12 ∧ Pair w9.heap.size w12 S B7 own7 lv7 L2 w11.heap.size (.slice ra n2 rc) L2) := ⟨hHeld.trans (hn7.below.mono hzw9), (unhide HBd).trans hn7.below, hp7⟩
      have hgood := hide hp7.good
      have hss2 := hp7.ss
      have hsr2 := hp7.sr
      clear hp7 hv
      refine hK.out _ _ (hHeld.trans (hn7.below.mono hzw9)) (fun hHeldN => ?_)
      clear hHeld hK K
      have hHeld := hHeldN
      clear hHeldN
      try simp only [Act.put, List.setIfInBounds_toArray, List.set_cons_zero, List.set_cons_succ]
      refine wpAnyH_weak (S' := fun wx => (Below w.heap.size w wx ∧ Below w9.heap.size w9 wx ∧ Pair w9.heap.size wx S B7 own7 lv7 L2 w11.heap.size (.slice ra n2 rc) L2)) (fun _ h => h.1) _ _ _ _ ?_
      replace hHeld := (show (fun wx => (Below w.heap.size w wx ∧ Below w9.heap.size w9 wx ∧ Pair w9.heap.size wx S B7 own7 lv7 L2 w11.heap.size (.slice ra n2 rc) L2)) _ from hpp)
      clear hpp
      refine wpAnyH_take (i := 7) (v := ?_) opn7 (by kernel_rfl) (by kernel_rfl) (by kernel_rfl) (fun _ _ _ h => h) (Or.inl ⟨by rfl, ?_⟩) (by assumption) ?_
      rotate_left 1
      · intro wz hSw
        try dsimp only at hSw
        go_simp
        all_goals with_reducible rfl
      try simp only [Act.put, List.setIfInBounds_toArray, List.set_cons_zero, List.set_cons_succ]
      refine wpAnyH_take (i := 8) (v := ?_) opn8 (by kernel_rfl) (by kernel_rfl) (by kernel_rfl) (fun _ _ _ h => h) (Or.inl ⟨by rfl, ?_⟩) (by assumption) ?_
      rotate_left 1
      · intro wz hSw
        try dsimp only at hSw
        go_simp
        all_goals with_reducible rfl
      try simp only [Act.put, List.setIfInBounds_toArray, List.set_cons_zero, List.set_cons_succ]
      refine wpAnyH_take (i := 9) (v := ?_) opn9 (by kernel_rfl) (by kernel_rfl) (by kernel_rfl) (fun _ _ _ h => h) (Or.inl ⟨by rfl, ?_⟩) (by assumption) ?_
      rotate_left 1
      · intro wz hSw
        try dsimp only at hSw
        go_simp
        all_goals with_reducible rfl
      try simp only [Act.put, List.setIfInBounds_toArray, List.set_cons_zero, List.set_cons_succ]
      refine wpAnyH_take (i := 12) (v := ?_) opn12 (by kernel_rfl) (by kernel_rfl) (by kernel_rfl) (fun _ _ _ h => h) (Or.inl ⟨by rfl, ?_⟩) (by assumption) ?_
      rotate_left 1
      · intro wz hSw
        try dsimp only at hSw
        go_simp
        all_goals with_reducible rfl
      try simp only [Act.put, List.setIfInBounds_toArray, List.set_cons_zero, List.set_cons_succ]
      refine wpAnyH_ready (rs := [10]) (by kernel_rfl) (by simp) ?_
      refine AllReadyH.cons opn10 (fun K hK => ?_) AllReadyH.nil
      go_simp
      refine (Log_T hHeld.2.2.s hss2 (unhide HT2)).mono ?_
      rintro e w13 ⟨l1, k1, rfl, o1, b13⟩
      have ho1 : BRow w13 0 (.slice l1 T2 k1) (logB L2) := ownsRow_base o1 (Nat.zero_le _)
      refine hK.out _ _ ⟨hHeld.1.trans (b13.mono hHeld.1.size), hHeld.2.1.trans (b13.mono hHeld.2.1.size), hHeld.2.2.below b13⟩ (fun hHeldN => ?_)
      clear hHeld hK K
      have hHeld := hHeldN
      clear hHeldN
      try simp only [Act.put, List.setIfInBounds_toArray, List.set_cons_zero, List.set_cons_succ]
      refine wpAnyH_weak (S' := fun wx => (Below w.heap.size w wx ∧ Below w9.heap.size w9 wx ∧ Pair w9.heap.size wx S B7 own7 lv7 L2 w11.heap.size (.slice ra n2 rc) L2) ∧ BRow wx 0 (.slice l1 T2 k1) (logB L2)) (fun _ h => h.1) _ _ _ _ ?_
      replace hHeld := (show (fun wx => (Below w.heap.size w wx ∧ Below w9.heap.size w9 wx ∧ Pair w9.heap.size wx S B7 own7 lv7 L2 w11.heap.size (.slice ra n2 rc) L2) ∧ BRow wx 0 (.slice l1 T2 k1) (logB L2)) _ from ⟨hHeld, ho1⟩)
      refine wpAnyH_take (i := 11) (v := ?_) opn11 (by kernel_rfl) (by kernel_rfl) (by kernel_rfl) (fun _ _ _ h => h) (Or.inl ⟨by rfl, ?_⟩) (by assumption) ?_
      rotate_left 1
      · intro wz hSw
        try dsimp only at hSw
        have hq : (convert 48 9 (.slice l1 T2 k1)).run Try.prog wz = .ok (.string s2) wz := by rw [unhide HS2]; exact conv_row hSw.2 (unhide HT2)
        go_simp
        all_goals with_reducible rfl
      try simp only [Act.put, List.setIfInBounds_toArray, List.set_cons_zero, List.set_cons_succ]
      refine wpAnyH_ready (rs := [13]) (by kernel_rfl) (by simp) ?_
      refine AllReadyH.cons opn13 (fun K hK => ?_) AllReadyH.nil
      go_simp
      refine (Bytes_T hHeld.1.2.2.r (unhide hgood) hsr2 (unhide HT2)).mono ?_
      rintro e w14 ⟨l2, k2, rfl, o2, b14⟩
      have ho2 : BRow w14 0 (.slice l2 T2 k2) (logB L2) := ownsRow_base o2 (Nat.zero_le _)
      refine hK.out _ _ ⟨⟨hHeld.1.1.trans (b14.mono hHeld.1.1.size), hHeld.1.2.1.trans (b14.mono hHeld.1.2.1.size), hHeld.1.2.2.below b14⟩, hHeld.2.below b14⟩ (fun hHeldN => ?_)
      clear hHeld hK K
      have hHeld := hHeldN
      clear hHeldN
      try simp only [Act.put, List.setIfInBounds_toArray, List.set_cons_zero, List.set_cons_succ]
      refine wpAnyH_weak (S' := fun wx => ((Below w.heap.size w wx ∧ Below w9.heap.size w9 wx ∧ Pair w9.heap.size wx S B7 own7 lv7 L2 w11.heap.size (.slice ra n2 rc) L2) ∧ BRow wx 0 (.slice l1 T2 k1) (logB L2)) ∧ BRow wx 0 (.slice l2 T2 k2) (logB L2)) (fun _ h => h.1) _ _ _ _ ?_
      replace hHeld := (show (fun wx => ((Below w.heap.size w wx ∧ Below w9.heap.size w9 wx ∧ Pair w9.heap.size wx S B7 own7 lv7 L2 w11.heap.size (.slice ra n2 rc) L2) ∧ BRow wx 0 (.slice l1 T2 k1) (logB L2)) ∧ BRow wx 0 (.slice l2 T2 k2) (logB L2)) _ from ⟨hHeld, ho2⟩)
      refine wpAnyH_take (i := 14) (v := ?_) opn14 (by kernel_rfl) (by kernel_rfl) (by kernel_rfl) (fun _ _ _ h => h) (Or.inl ⟨by rfl, ?_⟩) (by assumption) ?_
      rotate_left 1
      · intro wz hSw
        try dsimp only at hSw
        have hq : (convert 48 9 (.slice l2 T2 k2)).run Try.prog wz = .ok (.string s2) wz := by rw [unhide HS2]; exact conv_row hSw.2 (unhide HT2)
        go_simp
        all_goals with_reducible rfl
      try simp only [Act.put, List.setIfInBounds_toArray, List.set_cons_zero, List.set_cons_succ]
      refine wpAnyH_take (i := 15) (v := ?_) opn15 (by kernel_rfl) (by kernel_rfl) (by kernel_rfl) (fun _ _ _ h => h) (Or.inl ⟨by rfl, ?_⟩) (by assumption) ?_
      rotate_left 1
      · intro wz hSw
        try dsimp only at hSw
        go_simp
        all_goals with_reducible rfl
      try simp only [Act.put, List.setIfInBounds_toArray, List.set_cons_zero, List.set_cons_succ]
      refine wpAnyH_take (i := 16) (v := ?_) opn16 (by kernel_rfl) (by kernel_rfl) (by kernel_rfl) (fun _ _ _ h => h) (Or.inl ⟨by rfl, ?_⟩) (by assumption) ?_
      rotate_left 1
      · intro wz hSw
        try dsimp only at hSw
        go_simp
        all_goals with_reducible rfl
      try simp only [Act.put, List.setIfInBounds_toArray, List.set_cons_zero, List.set_cons_succ]
      refine wpAnyH_take (i := 17) (v := ?_) opn17 (by kernel_rfl) (by kernel_rfl) (by kernel_rfl) (fun _ _ _ h => h) (Or.inl ⟨by rfl, ?_⟩) (by assumption) ?_
      rotate_left 1
      · intro wz hSw
        try dsimp only at hSw
        go_simp
        all_goals with_reducible rfl
      try simp only [Act.put, List.setIfInBounds_toArray, List.set_cons_zero, List.set_cons_succ]
      refine wpAnyH_take (i := 18) (v := ?_) opn18 (by kernel_rfl) (by kernel_rfl) (by kernel_rfl) (fun _ _ _ h => h) (Or.inl ⟨by rfl, ?_⟩) (by assumption) ?_
      rotate_left 1
      · intro wz hSw
        try dsimp only at hSw
        go_simp
        all_goals with_reducible rfl
      try simp only [Act.put, List.setIfInBounds_toArray, List.set_cons_zero, List.set_cons_succ]
      refine wpAnyH_take (i := 19) (v := ?_) opn19 (by kernel_rfl) (by kernel_rfl) (by kernel_rfl) (fun _ _ _ h => h) (Or.inl ⟨by rfl, ?_⟩) (by assumption) ?_
      rotate_left 1
      · intro wz hSw
        try dsimp only at hSw
        go_simp
        all_goals with_reducible rfl
      try simp only [Act.put, List.setIfInBounds_toArray, List.set_cons_zero, List.set_cons_succ]
      refine wpAnyH_take (i := 20) (v := ?_) opn20 (by kernel_rfl) (by kernel_rfl) (by kernel_rfl) (fun _ _ _ h => h) (Or.inl ⟨by rfl, ?_⟩) (by assumption) ?_
      rotate_left 1
      · intro wz hSw
        try dsimp only at hSw
        go_simp
        all_goals with_reducible rfl
      try simp only [Act.put, List.setIfInBounds_toArray, List.set_cons_zero, List.set_cons_succ]
      refine wpAnyH_take (i := 21) (v := ?_) opn21 (by kernel_rfl) (by kernel_rfl) (by kernel_rfl) (fun _ _ _ h => h) (Or.inl ⟨by rfl, ?_⟩) (by assumption) ?_
      rotate_left 1
      · intro wz hSw
        try dsimp only at hSw
        have hq := hSw.1.1.2.2.s.ptr
        go_simp
        all_goals with_reducible rfl
      try simp only [Act.put, List.setIfInBounds_toArray, List.set_cons_zero, List.set_cons_succ]
      refine wpAnyH_take (i := 23) (v := ?_) opn23 (by kernel_rfl) (by kernel_rfl) (by kernel_rfl) (fun _ _ _ h => h) (Or.inl ⟨by rfl, ?_⟩) (by assumption) ?_
      rotate_left 1
      · intro wz hSw
        try dsimp only at hSw
        go_simp
        all_goals with_reducible rfl
      try simp only [Act.put, List.setIfInBounds_toArray, List.set_cons_zero, List.set_cons_succ]
      refine wpAnyH_take (i := 24) (v := ?_) opn24 (by kernel_rfl) (by kernel_rfl) (by kernel_rfl) (fun _ _ _ h => h) (Or.inl ⟨by rfl, ?_⟩) (by assumption) ?_
      rotate_left 1
      · intro wz hSw
        try dsimp only at hSw
        go_simp
        all_goals with_reducible rfl
      try simp only [Act.put, List.setIfInBounds_toArray, List.set_cons_zero, List.set_cons_succ]
      refine wpAnyH_take (i := 25) (v := ?_) opn25 (by kernel_rfl) (by kernel_rfl) (by kernel_rfl) (fun _ _ _ h => h) (Or.inl ⟨by rfl, ?_⟩) (by assumption) ?_
      rotate_left 1
      · intro wz hSw
        try dsimp only at hSw
        go_simp
        all_goals with_reducible rfl
      try simp only [Act.put, List.setIfInBounds_toArray, List.set_cons_zero, List.set_cons_succ]
      refine wpAnyH_take (i := 26) (v := ?_) opn26 (by kernel_rfl) (by kernel_rfl) (by kernel_rfl) (fun _ _ _ h => h) (Or.inl ⟨by rfl, ?_⟩) (by assumption) ?_
      rotate_left 1
      · intro wz hSw
        try dsimp only at hSw
        have hq := hSw.1.1.2.2.r.can.1
        go_simp
        all_goals with_reducible rfl
      try simp only [Act.put, List.setIfInBounds_toArray, List.set_cons_zero, List.set_cons_succ]
      refine wpAnyH_ready (rs := [22]) (by kernel_rfl) (by simp) ?_
      refine AllReadyH.cons opn22 (fun K hK => ?_) AllReadyH.nil
      go_simp
      refine (Names_M hHeld.1.1.2.2.s.files (unhide HM2)).mono ?_
      rintro e w15 ⟨g1, k3, rfl, o3, b15⟩
      have ho3 : w15.ownsRow 0 9 1 (.slice (some ⟨g1, 0, none⟩) M2 k3) M2 ((sNames (behind L2)).map .string) := ownsRow_base o3 (Nat.zero_le _)
      refine hK.out _ _ ⟨⟨⟨hHeld.1.1.1.trans (b15.mono hHeld.1.1.1.size), hHeld.1.1.2.1.trans (b15.mono hHeld.1.1.2.1.size), hHeld.1.1.2.2.below b15⟩, hHeld.1.2.below b15⟩, hHeld.2.below b15⟩ (fun hHeldN => ?_)
      clear hHeld hK K
      have hHeld := hHeldN
      clear hHeldN
      try simp only [Act.put, List.setIfInBounds_toArray, List.set_cons_zero, List.set_cons_succ]
      have hra := (RecsAt.ofC hHeld.1.1.2.2.r).1
      rw [unhide HN2] at hra
      have HRA := hide hra
      have hn2b : n2 ≤ 1000000 := by have := (unhide hgood).few; have := unhide HN2; omega
      clear hra
      refine wpAnyH_ready (rs := [27]) (by kernel_rfl) (by simp) ?_
      refine AllReadyH.cons opn27 (fun K hK => ?_) AllReadyH.nil
      go_simp
      refine (Behind_any ra n2 rc L2 _ (unhide HRA) (unhide hgood).small hn2b).mono ?_
      rintro e w16 ⟨D, dv, rfl, od, b16⟩
      obtain ⟨da, dc, rfl⟩ := od.form2
      rw [unhide HM2] at od
      obtain ⟨_, hdn⟩ := dNames_M od (unhide HM2)
      have HDN := hide hdn
      have hdc := od.cell0
      have ho4 : w16.ownsRow 0 9 1 (.slice (some ⟨g1, 0, none⟩) M2 k3) M2 ((sNames (behind L2)).map .string) := ownsRow_same ho3 (fun k h1 => b16.block k (ho3.lt k h1).2)
      clear hdn od
      refine hK.out _ _ ⟨⟨⟨hHeld.1.1.1.trans (b16.mono hHeld.1.1.1.size), hHeld.1.1.2.1.trans (b16.mono hHeld.1.1.2.1.size), hHeld.1.1.2.2.below b16⟩, hHeld.1.2.below b16⟩, hHeld.2.below b16⟩ (fun hHeldN => ?_)
      clear hHeld hK K
      have hHeld := hHeldN
      clear hHeldN
      try simp only [Act.put, List.setIfInBounds_toArray, List.set_cons_zero, List.set_cons_succ]
      refine wpAnyH_weak (S' := fun wx => (((Below w.heap.size w wx ∧ Below w9.heap.size w9 wx ∧ Pair w9.heap.size wx S B7 own7 lv7 L2 w11.heap.size (.slice ra n2 rc) L2) ∧ BRow wx 0 (.slice l1 T2 k1) (logB L2)) ∧ BRow wx 0 (.slice l2 T2 k2) (logB L2)) ∧ wx.cell? ⟨D, 0, none⟩ = some (.slice da M2 dc)) (fun _ h => h.1) _ _ _ _ ?_
      replace hHeld := (show (fun wx => (((Below w.heap.size w wx ∧ Below w9.heap.size w9 wx ∧ Pair w9.heap.size wx S B7 own7 lv7 L2 w11.heap.size (.slice ra n2 rc) L2) ∧ BRow wx 0 (.slice l1 T2 k1) (logB L2)) ∧ BRow wx 0 (.slice l2 T2 k2) (logB L2)) ∧ wx.cell? ⟨D, 0, none⟩ = some (.slice da M2 dc)) _ from ⟨hHeld, hdc⟩)
      clear hdc
      refine wpAnyH_take (i := 28) (v := ?_) opn28 (by kernel_rfl) (by kernel_rfl) (by kernel_rfl) (fun _ _ _ h => h) (Or.inl ⟨by rfl, ?_⟩) (by assumption) ?_
      rotate_left 1
      · intro wz hSw
        try dsimp only at hSw
        go_simp
        all_goals with_reducible rfl
      try simp only [Act.put, List.setIfInBounds_toArray, List.set_cons_zero, List.set_cons_succ]
      refine wpAnyH_take (i := 29) (v := ?_) opn29 (by kernel_rfl) (by kernel_rfl) (by kernel_rfl) (fun _ _ _ h => h) (Or.inl ⟨by rfl, ?_⟩) (by assumption) ?_
      rotate_left 1
      · intro wz hSw
        try dsimp only at hSw
        have hq := hSw.2
        go_simp
        all_goals with_reducible rfl
      try simp only [Act.put, List.setIfInBounds_toArray, List.set_cons_zero, List.set_cons_succ]
      refine wpAnyH_ready (rs := [30]) (by kernel_rfl) (by simp) ?_
      refine AllReadyH.cons opn30 (fun K hK => ?_) AllReadyH.nil
      go_simp
      refine (unhide HDN).mono ?_
      rintro e w17 ⟨g2, k4, rfl, o4, b17⟩
      have ho5 : w17.ownsRow 0 9 1 (.slice g2 M2 k4) M2 ((sNames (behind L2)).map .string) := ownsRow_base o4 (Nat.zero_le _)
      have ho6 : w17.ownsRow 0 9 1 (.slice (some ⟨g1, 0, none⟩) M2 k3) M2 ((sNames (behind L2)).map .string) := ownsRow_same ho4 (fun k h1 => b17.block k (ho4.lt k h1).2)
      refine hK.out _ _ ⟨⟨⟨⟨hHeld.1.1.1.1.trans (b17.mono hHeld.1.1.1.1.size), hHeld.1.1.1.2.1.trans (b17.mono hHeld.1.1.1.2.1.size), hHeld.1.1.1.2.2.below b17⟩, hHeld.1.1.2.below b17⟩, hHeld.1.2.below b17⟩, (b17.cell (p := ⟨D, 0, none⟩) (World.block_lt_of_cell? _ _ hHeld.2)).trans hHeld.2⟩ (fun hHeldN => ?_)
      clear hHeld hK K
      have hHeld := hHeldN
      clear hHeldN
      try simp only [Act.put, List.setIfInBounds_toArray, List.set_cons_zero, List.set_cons_succ]
      refine wpAnyH_ready (rs := [31]) (by kernel_rfl) (by simp) ?_
      refine AllReadyH.cons opn31 (fun K hK => ?_) AllReadyH.nil
      go_simp
      refine (SameTexts_any (some ⟨g1, 0, none⟩) g2 M2 M2 k3 k4 _ _ _ ho6 ho5 hM21000 hM21000).mono ?_
      rintro e w18 ⟨rfl, b18⟩
      rw [decide_eq_true (rfl : sNames (behind L2) = sNames (behind L2))]
      refine hK.out _ _ ⟨⟨⟨⟨hHeld.1.1.1.1.trans (b18.mono hHeld.1.1.1.1.size), hHeld.1.1.1.2.1.trans (b18.mono hHeld.1.1.1.2.1.size), hHeld.1.1.1.2.2.below b18⟩, hHeld.1.1.2.below b18⟩, hHeld.1.2.below b18⟩, (b18.cell (p := ⟨D, 0, none⟩) (World.block_lt_of_cell? _ _ hHeld.2)).trans hHeld.2⟩ (fun hHeldN => ?_)
      clear hHeld hK K
      have hHeld := hHeldN
      clear hHeldN
      try simp only [Act.put, List.setIfInBounds_toArray, List.set_cons_zero, List.set_cons_succ]
      refine wpAnyH_take (i := 32) (v := ?_) opn32 (by kernel_rfl) (by kernel_rfl) (by kernel_rfl) (fun _ _ _ h => h) (Or.inl ⟨by rfl, ?_⟩) (by assumption) ?_
      rotate_left 1
      · intro wz hSw
        try dsimp only at hSw
        go_simp
        all_goals with_reducible rfl
      try simp only [Act.put, List.setIfInBounds_toArray, List.set_cons_zero, List.set_cons_succ]
      refine wpAnyH_take (i := 33) (v := ?_) opn33 (by kernel_rfl) (by kernel_rfl) (by kernel_rfl) (fun _ _ _ h => h) (Or.inl ⟨by rfl, ?_⟩) (by assumption) ?_
      rotate_left 1
      · intro wz hSw
        try dsimp only at hSw
        go_simp
        all_goals with_reducible rfl
      try simp only [Act.put, List.setIfInBounds_toArray, List.set_cons_zero, List.set_cons_succ]
      refine wpAnyH_done (by kernel_rfl) ?_ _
      have HP18 := hide hHeld.1.1.1.2.2
      have HB18 := hide hHeld.1.1.1.2.1
      clear hHeld
      go_wp2
      go_roundw
      case rel => exact ⟨q + 1, B7, own7, lv7, _, L2, by omega, by go_num, unhide HP18, unhide HB18⟩
      case measure => simp [intOf]; omega
    · have hpp := unhide HP
      have hfew := hpp.good.few
      have hcl := CLast_any w9.heap.size w11.heap.size rv L client wr hpp.r (by have := hpp.sr; omega)
      have hln := last_no hpp.good client
      have hsl := fun W (h : Below wr.heap.size wr W) => SLast_any (hpp.s.below h) client
      rw [hln] at hsl
      obtain ⟨lr, hlr⟩ : ∃ r, lastR L client = r := ⟨_, rfl⟩
      obtain ⟨hr, hhr⟩ : ∃ r, hasR L client = r := ⟨_, rfl⟩
      rw [hlr, hhr] at hcl hsl
      have HCL := hide hcl
      have HSLL := hide hsl
      obtain ⟨rc', rn', ⟨rk', rs1, rs2, rs3⟩, rd', ru'⟩ := lr
      dsimp only [ARec.val] at HCL HSLL
      clear hpp hcl hln hsl hlr hhr hfew
      go_wp2_with fail
      refine (unhide HCL).mono ?_
      rintro e w12 ⟨rfl, b12⟩
      obtain ⟨V, hV⟩ : ∃ V, V = w12.alloc (.cells #[.int .i64 rc', .int .i64 rn', .int .i64 rk', .string rs1, .string rs2, .string rs3, .int .i64 rd', .string ru'] 47) := ⟨_, rfl⟩
      have hbV : Below w12.heap.size w12 V := by rw [hV]; exact (Below.refl _ _).alloc (Nat.le_refl _) _
      have hYV : V.heap[w12.heap.size]? = some (.cells #[.int .i64 rc', .int .i64 rn', .int .i64 rk', .string rs1, .string rs2, .string rs3, .int .i64 rd', .string ru'] 47 (0, 0)) := by rw [hV]; exact heap_alloc_new _ _
      have hbW : Below wr.heap.size wr V := b12.trans (hbV.mono b12.size)
      have HSL2 := hide ((unhide HSLL) V hbW)
      have HBV := hide ((unhide HBw).trans (hbW.mono (unhide HBw).size))
      obtain ⟨⟨x0, x1, x2, x3⟩, ⟨x4, x5, x6, x7⟩, _⟩ := eight hYV
      have HV := hide hV
      clear b12 hbV hYV hbW hV
      cases hr
      · go_wp2_with fail
        rw [← unhide HV]
        refine (unhide HSL2).mono ?_
        rintro e w13 ⟨rfl, rfl⟩
        try rw [if_neg (by simp)]
        clear x0 x1 x2 x3 x4 x5 x6 x7
        go_wp2
        go_ret
        exact ⟨rfl, unhide HBV⟩
      · go_wp2_with fail
        rw [← unhide HV]
        refine (unhide HSL2).mono ?_
        rintro e w13 ⟨rfl, rfl⟩
        try rw [if_pos rfl]
        clear x0 x1 x2 x3 x4 x5 x6 x7
        go_wp2
        go_ret
        exact ⟨rfl, unhide HBV⟩

end Go.Proofs.Ytlndphpidkacgaa

namespace Go.Proofs.Ytlndphpidkacgaa
open Go.ChangeShapes Go.WideShapes Go.ChangeAt Go.RowKit Go.Deep Go.Joins
set_option linter.unusedSimpArgs false
set_option linter.unusedVariables false

set_option maxRecDepth 100000 in
theorem storeDoes_lifted (os : Os) (started : os.Started) (H : Type) (enc : TypeId × Value → H) :
    ReturnsInHanded {} Try.checked os 10 .any (Rows.storeDoesSpec.pre6 enc Try.prog Try.f10 Rows.storeDoesRow.domain false) (Rows.storeDoesSpec.post enc Try.prog Try.f10 false true false false) := by
  refine returnsInHanded_of_change (C := Try.checked) own0 started (by kernel_rfl) Try.func10
    (ChangeSpec.witness6 (enc := enc) (C := Try.checked) false ⟨#[], #[.slice none 0 0, .slice none 0 0, .int .i64 0], []⟩ 8 (by kernel_rfl) (by kernel_rfl) (by kernel_rfl) (by kernel_rfl)) ?_
  intro W base args ds gs before hval0 hW hcnd _
  have hval : ∀ (j : Nat) t v, Try.f10.params[j]? = some t → args[j]? = some v → Value.okWide Try.prog W .any base t v := hval0
  have hW' := hW
  obtain ⟨p, q, hA0, hV, rfl, hfz, hnd⟩ := hW
  have hA : DataW.TrodAll enc Try.prog W 0 (fun _ => true) true Try.f10.params.toList args.toList ds p := hA0
  rw [Try.params10] at hA hval
  obtain ⟨v0, vs0, d0, ds0, p0, q0, hargs, rfl, rfl, h0, r0⟩ := trodAll_cons hA
  obtain ⟨v1, vs1, d1, ds1, p1, q1, rfl, rfl, rfl, h1, r1⟩ := trodAll_cons r0
  obtain ⟨v2, vs2, d2, ds2, p2, q2, rfl, rfl, rfl, h2, r2⟩ := trodAll_cons r1
  obtain ⟨rfl, rfl, rfl⟩ := trodAll_nil r2
  obtain rfl : args = #[v0, v1, v2] := by cases args; simp_all
  obtain ⟨rfl, rfl⟩ := trodVars_none hV
  have k0 := h0
  have lt0 : ∀ x ∈ p0, x.block < W.heap.size := by obtain ⟨m, hm⟩ := k0; exact DataW.trod_lt m _ _ _ hm
  have k1 := h1
  have lt1 : ∀ x ∈ p1, x.block < W.heap.size := by obtain ⟨m, hm⟩ := k1; exact DataW.trod_lt m _ _ _ hm
  have k2 := h2
  have lt2 : ∀ x ∈ p2, x.block < W.heap.size := by obtain ⟨m, hm⟩ := k2; exact DataW.trod_lt m _ _ _ hm
  obtain ⟨a0, len0, cap0, rfl⟩ := okWide_slice Try.underlying65 (hval 0 65 v0 rfl rfl)
  obtain ⟨ss0, c01⟩ : ∃ ss : List AStep, StepsAt W a0 len0 ss := by
    obtain ⟨fuel, hf⟩ := h0
    exact open_steps hf
  obtain ⟨a1, len1, cap1, rfl⟩ := okWide_slice Try.underlying48 (hval 1 48 v1 rfl rfl)
  obtain ⟨bs1, c11, c12, c13, c14, c15⟩ : ∃ bs : List UInt8, ByAt W a1 bs ∧ bs.length = len1 ∧ len1 ≤ cap1 ∧ len1 ≤ maxLen ∧ (a1 = none → len1 = 0 ∧ cap1 = 0) := by
    obtain ⟨fuel, hf⟩ := h1
    exact open_bytes hf
  obtain ⟨n2, rfl⟩ := okWide_int Try.underlying3 (hval 2 3 v2 rfl rfl)
  clear hA0 hval0
  refine (sdoes_walk a0 len0 cap0 ss0 a1 len1 cap1 bs1 n2 W c01 c11 c12 c13 c14 c15).mono fun e W' ⟨he, bel⟩ => ?_
  subst he
  exact ⟨_, rfl, _, _, _, [], _, [], hW', trodAll_mk1 (shut_bool Try.underlying4 _), (trodAll_cons_mk (Below.trod laidOut0 (by kernel_rfl) (of_decide_eq_true (by kernel_rfl)) k0 bel lt0) (trodAll_cons_mk (Below.trod laidOut0 (by kernel_rfl) (of_decide_eq_true (by kernel_rfl)) k1 bel lt1) (trodAll_cons_mk (Below.trod laidOut0 (by kernel_rfl) (of_decide_eq_true (by kernel_rfl)) k2 bel lt2) trodAll_mk0))), rfl, bel.frame _, fun h => by cases h⟩

theorem storeDoes_over : Rows.storeDoesRow.holds Try.pinned (OpenSpec.ofChange Rows.storeDoesSpec) :=
  OpenClaim.holds_of_wide 10 Try.f10 rfl rfl rfl rfl rfl rfl rfl ⟨rfl, rfl, rfl, rfl, rfl⟩ rfl rfl rfl rfl rfl (by kernel_rfl) Try.func10 (by kernel_rfl)
    (of_decide_eq_true (by kernel_rfl)) (by unfold Func.isWrapper; first | (rw [if_pos (by decide +kernel)]; kernel_rfl) | (rw [if_neg (by decide +kernel)]; exact ⟨rfl, rfl⟩))
    (fun os started H enc _ => storeDoes_lifted os started H enc)

theorem storeDoes_holds : Rows.StoreDoesSaid := storeDoes_over
#print axioms storeDoes_holds

end Go.Proofs.Ytlndphpidkacgaa

