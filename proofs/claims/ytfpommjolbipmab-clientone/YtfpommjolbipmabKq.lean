/- clientBegun. -/
import Derived.Test.YtfpommjolbipmabKp
namespace Go.Proofs.Ytfpommjolbipmab
open Go.RowKit
set_option linter.unusedSimpArgs false
set_option linter.unusedVariables false

def bx0 : ACall := ⟨5, ⟨#[97]⟩, ⟨#[]⟩, ⟨#[]⟩⟩
def bc0 : ACli := ⟨1, [], zeroCall, false⟩
def bc1 : ACli := ⟨1, [], bx0, true⟩
def bm0 : APkt := ⟨false, 1, 1, bx0, 0, ⟨#[]⟩⟩
def bm1 : APkt := ⟨true, 1, 1, bx0, 0, ⟨#[121]⟩⟩
def bc2 : ACli := ⟨1, [⟨1, 1, bx0, 0, ⟨#[121]⟩⟩], zeroCall, false⟩
theorem bx_small : SmallC bx0 := by unfold SmallC bx0; decide
theorem bm_small : SmallP bm0 ∧ SmallP bm1 := by unfold SmallP bm0 bm1 bx0; decide
theorem bchk : checkI bx0 = 0 := by kernel_rfl
theorem bask0 : bc0.ask bx0 = 0 := by unfold ACli.ask; rw [if_neg (by simp [bchk])]; rfl
theorem basked0 : bc0.asked bx0 = bc1 := by unfold ACli.asked; rw [bask0, if_pos rfl]; rfl
theorem bask1 : bc1.ask bx0 = 11 := by unfold ACli.ask; rw [if_neg (by simp [bchk])]; rfl
theorem basked1 : bc1.asked bx0 = bc1 := by unfold ACli.asked; rw [bask1, if_neg (by decide)]
theorem bpkt1 : bc1.pkt = bm0 := rfl
theorem bhears0 : bc1.hears bm0 = false := rfl
theorem bheard0 : bc1.heard bm0 = bc1 := rfl
theorem bhears1 : bc1.hears bm1 = true := by unfold ACli.hears; rw [show bm1.call = bc1.call from rfl, callB_self]; rfl
theorem bheard1 : bc1.heard bm1 = bc2 := by unfold ACli.heard; rw [if_pos bhears1]; rfl
theorem bhears2 : bc2.hears bm1 = false := rfl
theorem bheard2 : bc2.heard bm1 = bc2 := rfl
theorem COk.bc1 : COk bc1 := by have := (COk.start 1).asked bx_small; rwa [show (⟨1, [], zeroCall, false⟩ : ACli) = bc0 from rfl, basked0] at this
theorem COk.bc2 : COk bc2 := by have := COk.bc1.heard bm_small.2; rwa [bheard1] at this
theorem KTurn.rep {N : Nat} {w w' : World} {X : Nat} {v : Value} {c : ACli} (h : KTurn N w X v w' c) (hc : COk c) : ∃ v', KRep N w' X v' c ∧ ∀ k, k ∈ powns X v' → k ∈ powns X v ∨ w.heap.size ≤ k := by
  obtain ⟨v', h1, h2, h3⟩ := h
  exact ⟨v', ⟨h1, hc⟩, h3⟩

set_option maxRecDepth 100000 in
set_option maxHeartbeats 8000000 in
theorem clientBegun_any (w : World) : Calls Try.prog 20 #[] w fun e w' => e = .returned (.bool true) ∧ Below w.heap.size w w' := by
  have HN1 := hide (New_some 1 w (by omega))
  have HN3 := hide (fun W => New_none 3 W (by omega))
  have hr0 := KRep.start 1 w
  obtain ⟨w1, hw1⟩ : ∃ W, W = w.alloc (.cells #[.int .i64 1, .slice none 0 0, .int .i64 0, .string ⟨#[]⟩, .string ⟨#[]⟩, .string ⟨#[]⟩, .bool false] 73) := ⟨_, rfl⟩
  have hb1 : Below w.heap.size w w1 := by rw [hw1]; exact (Below.refl _ _).alloc (Nat.le_refl _) _
  rw [← hw1] at hr0 HN1
  obtain ⟨V, hV⟩ : ∃ W, W = w1.alloc (.cells #[.int .i64 5, .string ⟨#[97]⟩, .string ⟨#[]⟩, .string ⟨#[]⟩] 29) := ⟨_, rfl⟩
  have hbV : Below w1.heap.size w1 V := by rw [hV]; exact (Below.refl _ _).alloc (Nat.le_refl _) _
  have hxV : V.heap[w1.heap.size]? = some (.cells #[.int .i64 5, .string ⟨#[97]⟩, .string ⟨#[]⟩, .string ⟨#[]⟩] 29 (0, 0)) := by rw [hV]; exact heap_alloc_new _ _
  have hzV : V.heap.size = w1.heap.size + 1 := by rw [hV]; simp
  have hrV := hr0.below hbV.drew
  have HC1 := hide (Call_any hrV bx0 bx_small)
  rw [show (⟨1, [], zeroCall, false⟩ : ACli) = bc0 from rfl, bask0, basked0] at HC1
  have HNX : Hid (w1.heap.size ∉ powns w.heap.size (.slice none 0 0)) := fun hm => by have := (hr0.o.ge _ hm).2; omega
  have HRV := hide hrV
  have HXV := hide hxV
  have HBV := hide (hb1.trans (hbV.mono hb1.size))
  have HV := hide hV
  have hz0 := hb1.size
  dsimp only [bx0] at HC1
  clear hr0 hw1 hb1 hbV hxV hrV hV
  go_enter Try.func20, Try.ntmps20
  go_wp2_with fail
  refine (unhide HN1).mono ?_
  rintro e w1' ⟨rfl, hw1'⟩
  obtain rfl := hw1'.symm
  clear hw1'
  go_wp2_with fail
  refine ((unhide HN3) _).mono ?_
  rintro e w1' ⟨rfl, hw1'⟩
  obtain rfl := hw1'.symm
  clear hw1'
  go_wp2_with fail
  rw [← unhide HV]
  refine wp_region_held_drew (S := (fun wx => wx.heap[w1.heap.size]? = some (.cells #[.int .i64 5, .string ⟨#[97]⟩, .string ⟨#[]⟩, .string ⟨#[]⟩] 29 (0, 0)))) (by kernel_rfl) (unhide HXV) (fun hHeld => ?_)
  refine wpAnyH_take (i := 0) (v := ?_) opn0 (by kernel_rfl) (by kernel_rfl) (by kernel_rfl) (fun _ _ _ h => h) (Or.inl ⟨by rfl, ?_⟩) (by assumption) ?_
  rotate_left 1
  · intro wz hSw
    try dsimp only at hSw
    go_simp
    all_goals with_reducible rfl
  try simp only [Act.put, List.setIfInBounds_toArray, List.set_cons_zero, List.set_cons_succ]
  refine wpAnyH_take (i := 1) (v := ?_) opn1 (by kernel_rfl) (by kernel_rfl) (by kernel_rfl) (fun _ _ _ h => h) (Or.inl ⟨by rfl, ?_⟩) (by assumption) ?_
  rotate_left 1
  · intro wz hSw
    try dsimp only at hSw
    obtain ⟨e0, e1, e2, e3, _⟩ := four hSw
    go_simp
    all_goals with_reducible rfl
  try simp only [Act.put, List.setIfInBounds_toArray, List.set_cons_zero, List.set_cons_succ]
  refine wpAnyH_take (i := 3) (v := ?_) opn3 (by kernel_rfl) (by kernel_rfl) (by kernel_rfl) (fun _ _ _ h => h) (Or.inl ⟨by rfl, ?_⟩) (by assumption) ?_
  rotate_left 1
  · intro wz hSw
    try dsimp only at hSw
    go_simp
    all_goals with_reducible rfl
  try simp only [Act.put, List.setIfInBounds_toArray, List.set_cons_zero, List.set_cons_succ]
  refine wpAnyH_take (i := 4) (v := ?_) opn4 (by kernel_rfl) (by kernel_rfl) (by kernel_rfl) (fun _ _ _ h => h) (Or.inl ⟨by rfl, ?_⟩) (by assumption) ?_
  rotate_left 1
  · intro wz hSw
    try dsimp only at hSw
    obtain ⟨e0, e1, e2, e3, _⟩ := four hSw
    go_simp
    all_goals with_reducible rfl
  try simp only [Act.put, List.setIfInBounds_toArray, List.set_cons_zero, List.set_cons_succ]
  refine wpAnyH_ready (rs := [2]) (by kernel_rfl) (by simp) ?_
  refine AllReadyH.cons opn2 (fun K hK => ?_) AllReadyH.nil
  go_simp
  refine (unhide HC1).mono ?_
  rintro e w2 ⟨rfl, hT1⟩
  have hx1 := (hT1.blk (by show w1.heap.size < V.heap.size; omega) (unhide HNX)).trans (unhide HXV)
  have hb2 := hT1.below (unhide HRV).o
  obtain ⟨v2, hr2, hn2⟩ := hT1.rep COk.bc1
  have hnn2 : w1.heap.size ∉ powns w.heap.size v2 := fun hm => by
    rcases hn2 _ hm with h | h
    · exact (unhide HNX) h
    · have h' : V.heap.size ≤ w1.heap.size := h
      omega
  have hC2 := Call_any hr2 bx0 bx_small
  rw [bask1, basked1] at hC2
  dsimp only [bx0] at hC2
  have HC2 := hide hC2
  have HX1 := hide hx1
  have HNN2 := hide hnn2
  have HR2 := hide hr2
  have hl2 : w1.heap.size < w2.heap.size := (Array.getElem?_eq_some_iff.1 hx1).1
  clear hT1 hr2 hn2 hnn2 hC2
  refine hK.out _ _ hx1 (fun hHeldN => ?_)
  clear hHeld hK K
  have hHeld := hHeldN
  clear hHeldN
  try simp only [Act.put, List.setIfInBounds_toArray, List.set_cons_zero, List.set_cons_succ]
  refine wpAnyH_ready (rs := [5]) (by kernel_rfl) (by simp) ?_
  refine AllReadyH.cons opn5 (fun K hK => ?_) AllReadyH.nil
  go_simp
  refine (unhide HC2).mono ?_
  rintro e w3 ⟨rfl, hT2⟩
  have hx2 := (hT2.blk hl2 (unhide HNN2)).trans (unhide HX1)
  have HB23 := hide (hb2.trans (hT2.below (unhide HR2).o))
  have HT3 := hide hT2
  clear hT2
  refine hK.out _ _ hx2 (fun hHeldN => ?_)
  clear hHeld hK K
  have hHeld := hHeldN
  clear hHeldN
  try simp only [Act.put, List.setIfInBounds_toArray, List.set_cons_zero, List.set_cons_succ]
  refine wpAnyH_take (i := 6) (v := ?_) opn6 (by kernel_rfl) (by kernel_rfl) (by kernel_rfl) (fun _ _ _ h => h) (Or.inl ⟨by rfl, ?_⟩) (by assumption) ?_
  rotate_left 1
  · intro wz hSw
    try dsimp only at hSw
    go_simp
    all_goals with_reducible rfl
  try simp only [Act.put, List.setIfInBounds_toArray, List.set_cons_zero, List.set_cons_succ]
  refine wpAnyH_take (i := 7) (v := ?_) opn7 (by kernel_rfl) (by kernel_rfl) (by kernel_rfl) (fun _ _ _ h => h) (Or.inl ⟨by rfl, ?_⟩) (by assumption) ?_
  rotate_left 1
  · intro wz hSw
    try dsimp only at hSw
    go_simp
    all_goals with_reducible rfl
  try simp only [Act.put, List.setIfInBounds_toArray, List.set_cons_zero, List.set_cons_succ]
  refine wpAnyH_done (by kernel_rfl) ?_ _
  clear hHeld hx1 hx2 hb2
  obtain ⟨v3, hr3, _⟩ := (unhide HT3).rep COk.bc1
  have HB3 := hide ((unhide HBV).trans (((below_drew V).mono (unhide HBV).size).trans (unhide HB23)))
  have hS := Send_any hr3
  rw [bpkt1] at hS
  have HS := hide hS
  have HR3 := hide hr3
  dsimp only [bm0, bx0, APkt.val, bc1] at HS
  clear hr3 hS
  go_wp2_with fail
  refine (unhide HS).mono ?_
  rintro e w4 ⟨rfl, b4⟩
  obtain ⟨W4, hW4⟩ : ∃ W, W = w4.alloc (.cells #[.bool false, .int .i64 1, .int .i64 1, .int .i64 5, .string ⟨#[97]⟩, .string ⟨#[]⟩, .string ⟨#[]⟩, .int .i64 0, .string ⟨#[]⟩] 33) := ⟨_, rfl⟩
  have hB4 : Below w3.heap.size w3 W4 := by rw [hW4]; exact b4.alloc b4.size _
  have hP4 : W4.heap[w4.heap.size]? = some (.cells #[.bool false, .int .i64 1, .int .i64 1, .int .i64 5, .string ⟨#[97]⟩, .string ⟨#[]⟩, .string ⟨#[]⟩, .int .i64 0, .string ⟨#[]⟩] 33 (0, 0)) := by rw [hW4]; exact heap_alloc_new _ _
  have hr4 := (unhide HR3).below hB4
  have hn4 : w4.heap.size ∉ powns w.heap.size v3 := fun hm => by have h1 := ((unhide HR3).o.ge _ hm).2; have h2 := b4.size; omega
  have hl4 : w4.heap.size < W4.heap.size := (Array.getElem?_eq_some_iff.1 hP4).1
  have hH := Hear_any hr4 bm0 bm_small.1
  rw [bhears0, bheard0] at hH
  have HH4 := hide hH
  have HR4 := hide hr4
  have HP4 := hide hP4
  have HN4 := hide hn4
  have HB4 := hide ((unhide HB3).trans (hB4.mono (unhide HB3).size))
  have HW4 := hide hW4
  have hw4z : w.heap.size ≤ w4.heap.size := by have h1 := b4.size; have h2 := (unhide HB3).size; omega
  dsimp only [bm0, bx0, APkt.val] at HH4
  clear b4 hB4 hP4 hr4 hn4 hH hW4
  go_wp2_with fail
  rw [← unhide HW4]
  refine (unhide HH4).mono ?_
  rintro e w5 ⟨rfl, hT5⟩
  have hP5 := (hT5.blk hl4 (unhide HN4)).trans (unhide HP4)
  have hb5 := hT5.below (unhide HR4).o
  obtain ⟨v5, hr5, hn5⟩ := hT5.rep COk.bc1
  have hnn5 : w4.heap.size ∉ powns w.heap.size v5 := fun hm => by
    rcases hn5 _ hm with h | h
    · exact (unhide HN4) h
    · omega
  have hs1 : (w5.setCell ⟨w4.heap.size, 0, none⟩ (.bool true)).heap[w4.heap.size]? = some (.cells #[.bool true, .int .i64 1, .int .i64 1, .int .i64 5, .string ⟨#[97]⟩, .string ⟨#[]⟩, .string ⟨#[]⟩, .int .i64 0, .string ⟨#[]⟩] 33 (0, 0)) := heap_setCell_same hP5 _
  have hs2 : ((w5.setCell ⟨w4.heap.size, 0, none⟩ (.bool true)).setCell ⟨w4.heap.size, 7, none⟩ (.int .i64 0)).heap[w4.heap.size]? = some (.cells #[.bool true, .int .i64 1, .int .i64 1, .int .i64 5, .string ⟨#[97]⟩, .string ⟨#[]⟩, .string ⟨#[]⟩, .int .i64 0, .string ⟨#[]⟩] 33 (0, 0)) := heap_setCell_same hs1 _
  have hs3 : (((w5.setCell ⟨w4.heap.size, 0, none⟩ (.bool true)).setCell ⟨w4.heap.size, 7, none⟩ (.int .i64 0)).setCell ⟨w4.heap.size, 8, none⟩ (.string ⟨#[121]⟩)).heap[w4.heap.size]? = some (.cells #[.bool true, .int .i64 1, .int .i64 1, .int .i64 5, .string ⟨#[97]⟩, .string ⟨#[]⟩, .string ⟨#[]⟩, .int .i64 0, .string ⟨#[121]⟩] 33 (0, 0)) := heap_setCell_same hs2 _
  obtain ⟨W6, hW6⟩ : ∃ W, W = ((w5.setCell ⟨w4.heap.size, 0, none⟩ (.bool true)).setCell ⟨w4.heap.size, 7, none⟩ (.int .i64 0)).setCell ⟨w4.heap.size, 8, none⟩ (.string ⟨#[121]⟩) := ⟨_, rfl⟩
  rw [← hW6] at hs3
  have hK6 : Kept [w4.heap.size] w5 W6 := by
    rw [hW6]
    exact ((kept_setCell [w4.heap.size] _ _ _ _ (by simp)).trans (kept_setCell [w4.heap.size] _ _ _ _ (by simp)) (fun x hx => .inl hx)).trans (kept_setCell [w4.heap.size] _ _ _ _ (by simp)) (fun x hx => .inl hx)
  have hr6 : KRep w.heap.size W6 w.heap.size v5 bc1 := ⟨hr5.o.kept hK6 (fun k hk hm => by simp at hm; subst hm; exact hnn5 hk), hr5.ok⟩
  have hb6 : Below w.heap.size w W6 := ((unhide HB4).trans hb5).trans (hK6.below (((unhide HB4).trans hb5).size) (by simp; exact hw4z))
  have hH := Hear_any hr6 bm1 bm_small.2
  rw [bhears1, bheard1] at hH
  have HH6 := hide hH
  have HR6 := hide hr6
  have HP6 := hide hs3
  have HN6 := hide hnn5
  have HB6 := hide hb6
  have HW6 := hide hW6
  obtain ⟨⟨p0, p1, p2, p3⟩, ⟨p4, p5, p6, p7, p8⟩, pf⟩ := nine hP5
  have hl6 : w4.heap.size < W6.heap.size := (Array.getElem?_eq_some_iff.1 hs3).1
  dsimp only [bm1, bx0, APkt.val] at HH6
  clear hP5 hb5 hr5 hn5 hnn5 hs1 hs2 hs3 hW6 hK6 hr6 hb6 hH hT5
  go_wp2_with fail
  rw [← unhide HW6]
  clear p0 p1 p2 p3 p4 p5 p6 p7 p8 pf
  obtain ⟨⟨p0, p1, p2, p3⟩, ⟨p4, p5, p6, p7, p8⟩, pf⟩ := nine (unhide HP6)
  go_wp2_with fail
  refine (unhide HH6).mono ?_
  rintro e w7 ⟨rfl, hT7⟩
  have hP7 := (hT7.blk hl6 (unhide HN6)).trans (unhide HP6)
  have hb7 := hT7.below (unhide HR6).o
  obtain ⟨v7, hr7, hn7⟩ := hT7.rep COk.bc2
  have hnn7 : w4.heap.size ∉ powns w.heap.size v7 := fun hm => by
    rcases hn7 _ hm with h | h
    · exact (unhide HN6) h
    · omega
  have hH := Hear_any hr7 bm1 bm_small.2
  rw [bhears2, bheard2] at hH
  have HH7 := hide hH
  have HR7 := hide hr7
  have HP7 := hide hP7
  have HN7 := hide hnn7
  have HB7 := hide ((unhide HB6).trans hb7)
  have hl7 : w4.heap.size < w7.heap.size := (Array.getElem?_eq_some_iff.1 hP7).1
  clear p0 p1 p2 p3 p4 p5 p6 p7 p8 pf
  obtain ⟨⟨p0, p1, p2, p3⟩, ⟨p4, p5, p6, p7, p8⟩, pf⟩ := nine hP7
  dsimp only [bm1, bx0, APkt.val] at HH7
  clear hP7 hb7 hr7 hn7 hnn7 hH hT7
  go_wp2_with fail
  refine (unhide HH7).mono ?_
  rintro e w8 ⟨rfl, hT8⟩
  have hP8 := (hT8.blk hl7 (unhide HN7)).trans (unhide HP7)
  have hb8 := hT8.below (unhide HR7).o
  obtain ⟨v8, hr8, hn8⟩ := hT8.rep COk.bc2
  have HD8 := hide (Done_any hr8 (n := 1) rfl)
  have HR8 := hide hr8
  have HP8 := hide hP8
  have hl8 : w4.heap.size < w8.heap.size := (Array.getElem?_eq_some_iff.1 hP8).1
  have HB8 := hide ((unhide HB7).trans hb8)
  clear p0 p1 p2 p3 p4 p5 p6 p7 p8 pf hP8 hb8 hr8 hn8 hT8
  go_wp2_with fail
  refine (unhide HD8).mono ?_
  rintro e w9 ⟨g, cap, rfl, ho9, b9⟩
  obtain ⟨g', off, hg', hrec⟩ := (recs_row ho9 rfl).2 (by omega)
  obtain ⟨_, _, _, _, _, _, _, q7⟩ := hrec 0 _ rfl
  obtain ⟨⟨_, p1, p2, _⟩, _, _⟩ := nine ((b9.block _ hl8).trans (unhide HP8))
  cases hg'
  have HO9 := hide (Open_any ((unhide HR8).below b9))
  have HB9 := hide ((unhide HB8).trans (b9.mono (unhide HB8).size))
  simp only [Nat.zero_mul, Nat.zero_add, Nat.add_zero] at q7
  clear hrec ho9 b9
  go_wp2_with (go_at_call 24; refine (unhide HO9).mono ?_; rintro e w10 ⟨rfl, hw10⟩; obtain rfl := hw10.symm; clear hw10)
  go_ret
  exact ⟨rfl, unhide HB9⟩

end Go.Proofs.Ytfpommjolbipmab
