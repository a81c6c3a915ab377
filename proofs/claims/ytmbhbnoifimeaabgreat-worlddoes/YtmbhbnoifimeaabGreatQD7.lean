/- Texts joined, what is needed of them: VHSh VHPd VHPh Kk VHGk VHGl VHd Ve Vg Vf. -/
import Derived.Test.YtmbhbnoifimeaabGreatQD6
namespace Go.Proofs.YtmbhbnoifimeaabGreat
open Go.RowKit
set_option linter.unusedSimpArgs false
set_option linter.unusedVariables false
variable {F : Value → Array Value} {tyH : TypeId}
theorem CCall_anyH (N K : Nat) (rv : Value) (L : List ARec) (client no : Int) (c : ACall) (w : World) (h : CRepH F tyH w N K rv L) (hg : Good L) (hs : (logB L).length ≤ 2000) (ha : c.name.size ≤ maxLen) (hb : c.dst.size ≤ maxLen) (ht : c.text.size ≤ maxLen) :
    Calls Tryz.prog 78 #[.pointer (some ⟨K, 0, none⟩), .int .i64 client, .int .i64 no, .agg #[.int .i64 c.kind, .string c.name, .string c.dst, .string c.text]] w (CCResH F tyH w N K rv L (aCall L client no c)) := by
  obtain ⟨k, a, b, t⟩ := c
  dsimp only at ha hb ht ⊢
  by_cases hr : client < 0 ∨ 2 < client ∨ no < 1 ∨ 200 < no
  · exact CCall_rangeH N K rv L client no k a b t w h hr
  by_cases hc : checkI ⟨k, a, b, t⟩ = 0
  · by_cases hch : changesB k = false
    · exact CCall_askH N K rv L client no k a b t w h hg hs hr hc hch ha hb ht
    have hch : changesB k = true := by simpa using hch
    cases hh : hasR L client
    · exact CCall_newH N K rv L client no k a b t w h hg hs hr hc hch ha hb ht (.inl hh)
    by_cases hlt : (lastR L client).no < no
    · exact CCall_newH N K rv L client no k a b t w h hg hs hr hc hch ha hb ht (.inr ⟨hh, hlt⟩)
    by_cases hcb : no = (lastR L client).no ∧ callB ⟨k, a, b, t⟩ (lastR L client).call = true
    · exact CCall_againH N K rv L client no k a b t w h hg hs hr hc hch ha hb ht hh hcb.1 hcb.2
    · exact CCall_oldH N K rv L client no k a b t w h hg hs hr hc hch ha hb ht hh (by omega) hcb
  · exact CCall_codeH N K rv L client no k a b t w h hr hc ha hb ht
theorem CTurnedH.before {w W w' : World} {N K : Nat} {rv : Value} {L' : List ARec} (h : CTurnedH F tyH W N K rv w' L') (hb : Below w.heap.size w W) : CTurnedH F tyH w N K rv w' L' := by
  obtain ⟨v', hr, hk, hn⟩ := h
  refine ⟨v', hr, (Kept.of_below hb).trans hk (fun x hx => .inl hx), fun k e => ?_⟩
  rcases hn k e with h1 | h1
  · exact .inl h1
  · exact .inr (Nat.le_trans hb.size h1)
theorem CTurnedH.after {w W w' : World} {N K : Nat} {rv : Value} {L' : List ARec} (h : CTurnedH F tyH w N K rv W L') (hb : Below W.heap.size W w') : CTurnedH F tyH w N K rv w' L' := by
  obtain ⟨v', hr, hk, hn⟩ := h
  exact ⟨v', hr.below hb, hk.trans (Kept.of_below (own := []) hb) (by simp), hn⟩
set_option maxRecDepth 100000 in
set_option maxHeartbeats 4000000 in
theorem CTear_anyH (N K : Nat) (rv : Value) (L : List ARec) (client no keep : Int) (c : ACall) (w : World) (h : CRepH F tyH w N K rv L) (hg : Good L) (hs : (logB L).length ≤ 2000) (ha : c.name.size ≤ maxLen) (hb : c.dst.size ≤ maxLen) (ht : c.text.size ≤ maxLen) :
    Calls Tryz.prog 56 #[.pointer (some ⟨K, 0, none⟩), .int .i64 client, .int .i64 no, .agg #[.int .i64 c.kind, .string c.name, .string c.dst, .string c.text], .int .i64 keep] w fun e w' => e = .returned (.int .i64 (aTear L client no c keep).1) ∧ CTurnedH F tyH w N K rv w' (aTear L client no c keep).2 := by
  have HCC := hide (fun W (hW : Below w.heap.size w W) => CCall_anyH N K rv L client no c W (h.below hW) hg hs ha hb ht)
  have HCM := hide (aCall_came hg client no c)
  have hB : Below w.heap.size w (w.alloc (.cells #[.int .i64 c.kind, .string c.name, .string c.dst, .string c.text] 32)) := (Below.refl _ _).alloc (Nat.le_refl _) _
  have HB := hide hB
  have HH := hide h
  obtain ⟨T, hT⟩ : ∃ T, aTear L client no c keep = T := ⟨_, rfl⟩
  have HT := hide hT
  rw [hT]
  unfold aTear at HT
  have hL5 : L.length ≤ 1000 := by have := hg.few; omega
  generalize aCall L client no c = R at HCC HCM HT
  obtain ⟨code, text, err, log⟩ := R
  obtain ⟨k, a, b, t⟩ := c
  dsimp only at *
  clear hT hB h hg hs ha hb ht
  go_enter Tryz.func56, Tryz.ntmps56
  go_wp2_with fail
  refine ((unhide HCC) _ (unhide HB)).mono ?_
  rintro e w1 ⟨rfl, hT1⟩
  dsimp only at hT1 ⊢
  have HT1 := hide hT1
  clear hT1
  rcases unhide HCM with ⟨h1, h2⟩ | ⟨h1, r, h2, h3, h4, h5⟩
  · rw [h2]
    have HTT : Hid (T = (err, log)) := by
      have h := unhide HT
      rw [if_neg (by rw [h1]; omega)] at h
      exact h.symm
    clear h1 h2 HCM
    cases he : (err == 0)
    · go_wp2
      go_ret
      rw [HTT.out]
      exact ⟨rfl, ((unhide HT1).before (unhide HB)).after ((Below.refl _ _).alloc (Nat.le_refl _) _)⟩
    · go_wp2
      go_ret
      rw [HTT.out]
      exact ⟨rfl, ((unhide HT1).before (unhide HB)).after ((Below.refl _ _).alloc (Nat.le_refl _) _)⟩
  · rw [h4]
    subst h1 h2
    obtain ⟨nE, hnE⟩ : ∃ n, (encL r).length = n := ⟨_, rfl⟩
    have HT2 : Hid (T = if keep < (nE : Int) then (0, L) else (0, L ++ [r])) := by
      have h := (unhide HT).symm
      rw [h4, hnE] at h
      rw [h]
      by_cases hk : keep < (nE : Int)
      · rw [if_pos ⟨rfl, by simp, hk⟩, if_pos hk]; exact rfl
      · rw [if_neg (fun h => hk h.2.2), if_neg hk]; exact rfl
    rw [hnE] at h5 ⊢
    have hn0 : (0 : Int) < (nE : Int) := by omega
    clear h4 h3 HT HCM hnE
    by_cases hk : keep < (nE : Int)
    · obtain ⟨rv', hr1, hk1, hn1⟩ := (unhide HT1).before (unhide HB)
      obtain ⟨n, hn⟩ : ∃ n, L.length = n := ⟨_, rfl⟩
      have hlen : (L ++ [r]).length = n + 1 := by simp [hn]
      obtain ⟨a', c', rfl⟩ := row_form hr1.row
      rw [hlen] at hr1 hn1
      have hrow := hr1.row
      rw [hlen] at hrow
      have hrow2 := ownsRow_take hrow (m := n) (by omega)
      rw [← hn, flat_take] at hrow2
      have hcan := (hr1.can.alloc (.cells #[.int .i64 code, .string text] 59))
      have hc1 := hcan.1
      have hc2 := hcan.2
      have hcap := row_cap hrow
      have hb1 : (n : Int) ≤ (c' : Int) := by omega
      have HR1 := hide hr1
      have HK1 := hide hk1
      have HN1 := hide hn1
      have HRW := hide hrow2
      have HTT : Hid (T = (0, L)) := by rw [unhide HT2, if_pos hk]; exact rfl
      have HNL := hide hn
      have hKl : K < w1.heap.size := hr1.ltK
      clear hr1 hk1 hn1 hrow hrow2 hcan hlen hn HT2
      have hwn : IntKind.i64.wrap (n : Int) = (n : Int) := by rw [IntKind.wrap_i64]; rw [unhide HNL] at hL5; omega
      go_wp2_with fail
      go_region
      go_wp2
      go_ret
      rw [HTT.out]
      refine ⟨rfl, ?_⟩
      have ho : (Value.slice a' n c').ownBlock = (Value.slice a' (n + 1) c').ownBlock := by rcases a' with _ | ⟨_, _, _⟩ <;> rfl
      have hs := heap_setCell_same (unhide HR1).blk (o := 0) (.slice a' n c')
      rw [((unhide HR1).hold _ _).2] at hs
      have hkA := kept_setCell [K] w1 K 0 (.slice a' n c') (by simp)
      have hrw := unhide HRW
      have hnl := unhide HNL
      have hT : CTurnedH F tyH w N K rv (w1.setCell ⟨K, 0, none⟩ (.slice a' n c')) L := by
        refine ⟨.slice a' n c', ⟨(unhide HR1).new, hs, ?_, by rw [ho]; exact (unhide HR1).nd, (unhide HR1).hold⟩, ?_, by rw [ho]; exact unhide HN1⟩
        · rw [hnl] at hrw ⊢
          exact ownsRow_same hrw (fun j hj => hkA.block j (hrw.lt j hj).2 (fun hm => (unhide HR1).nd (by rw [List.mem_singleton.1 hm, ho] at hj; exact hj)))
        · exact (unhide HK1).trans hkA (fun x hx => .inl (by rw [List.mem_singleton.1 hx]; exact List.mem_cons_self))
      exact hT.after (((Below.refl _ _).alloc (Nat.le_refl _) _).drew)
    · have HTT : Hid (T = (0, L ++ [r])) := by rw [unhide HT2, if_neg hk]; exact rfl
      clear HT2
      go_wp2
      go_ret
      rw [HTT.out]
      exact ⟨rfl, ((unhide HT1).before (unhide HB)).after ((Below.refl _ _).alloc (Nat.le_refl _) _)⟩
variable {F : Value → Array Value} {tyH : TypeId}
structure PRepH (F : Value → Array Value) (tyH : TypeId) (N : Nat) (w : World) (P : Nat) (v : Value) (ms : List APkt) : Prop where
  new : N ≤ P
  blk : w.heap[P]? = some (.cells (F v) tyH (0, 0))
  row : w.ownsRow N 92 9 v ms.length (ms.flatMap pcells)
  nd : v.ownBlock ≠ some P
  few : ms.length ≤ 40
  small : ∀ m, m ∈ ms → SmallP m
  hold : ∀ v u, (F v)[25]? = some v ∧ (F v).setIfInBounds 25 u = F u
theorem PRepH.lt {N : Nat} {w : World} {P : Nat} {v : Value} {ms : List APkt} (h : PRepH F tyH N w P v ms) : P < w.heap.size := (Array.getElem?_eq_some_iff.1 h.blk).1
theorem PRepH.can {N : Nat} {w : World} {P : Nat} {v : Value} {ms : List APkt} (h : PRepH F tyH N w P v ms) : w.cell? ⟨P, 25, none⟩ = some v ∧ w.frozen? ⟨P, 25, none⟩ = false := ⟨by simp [World.cell?, h.blk, (h.hold v v).1], by simp [World.frozen?, h.blk]⟩
theorem PRepH.ge {N : Nat} {w : World} {P : Nat} {v : Value} {ms : List APkt} (h : PRepH F tyH N w P v ms) : ∀ k, k ∈ powns P v → N ≤ k ∧ k < w.heap.size := fun k hk => by
  rcases List.mem_cons.1 hk with rfl | hk
  · exact ⟨h.new, h.lt⟩
  · exact h.row.lt k (by simpa using hk)
theorem PRepH.same {N : Nat} {w w' : World} {P : Nat} {v : Value} {ms : List APkt} (h : PRepH F tyH N w P v ms) (hs : ∀ k, k ∈ powns P v → w'.heap[k]? = w.heap[k]?) : PRepH F tyH N w' P v ms :=
  ⟨h.new, (hs P List.mem_cons_self).trans h.blk, ownsRow_same h.row (fun k hk => hs k (List.mem_cons_of_mem _ (by simpa using hk))), h.nd, h.few, h.small, h.hold⟩
theorem PRepH.below {N : Nat} {w w' : World} {P : Nat} {v : Value} {ms : List APkt} (h : PRepH F tyH N w P v ms) (hb : Below w.heap.size w w') : PRepH F tyH N w' P v ms := h.same fun k hk => hb.block k (h.ge k hk).2
theorem PRepH.kept {N : Nat} {w w' : World} {P : Nat} {v : Value} {ms : List APkt} {o : List Nat} (h : PRepH F tyH N w P v ms) (hk : Kept o w w') (hd : ∀ k, k ∈ powns P v → k ∉ o) : PRepH F tyH N w' P v ms := h.same fun k h1 => hk.block k (h.ge k h1).2 (hd k h1)
theorem PRepH.form {N : Nat} {w : World} {P : Nat} {v : Value} {ms : List APkt} (h : PRepH F tyH N w P v ms) : ∃ a cap, v = .slice a ms.length cap := row_form h.row
def PTurnH (F : Value → Array Value) (tyH : TypeId) (N : Nat) (w : World) (P : Nat) (v : Value) (w' : World) (ms' : List APkt) : Prop :=
  ∃ v', PRepH F tyH N w' P v' ms' ∧ Kept (powns P v) w w' ∧ ∀ k, k ∈ powns P v' → k ∈ powns P v ∨ w.heap.size ≤ k
theorem PTurnH.of_below {N : Nat} {w w' : World} {P : Nat} {v : Value} {ms : List APkt} (h : PRepH F tyH N w P v ms) (hb : Below w.heap.size w w') : PTurnH F tyH N w P v w' ms := ⟨v, h.below hb, Kept.of_below hb, fun k hk => .inl hk⟩
theorem PTurnH.before {N : Nat} {w w0 w' : World} {P : Nat} {v : Value} {ms : List APkt} (hb : Below w.heap.size w w0) (h : PTurnH F tyH N w0 P v w' ms) : PTurnH F tyH N w P v w' ms := by
  obtain ⟨v', h1, h2, h3⟩ := h
  refine ⟨v', h1, (Kept.of_below hb).trans h2 (fun x hx => .inl hx), fun k hk => ?_⟩
  rcases h3 k hk with h | h
  · exact .inl h
  · right; have := hb.size; omega
set_option maxHeartbeats 1000000 in
theorem at_BH {N : Nat} {w : World} {P : Nat} {v : Value} {ms : List APkt} (h : PRepH F tyH N w P v ms) (n : Int) {k : Nat} (hk : ms.length = k) (h0 : 0 < k) : Calls Tryz.prog 76 #[.pointer (some ⟨P, 25, none⟩), .int .i64 n] w fun e w' => e = .returned (.int .i64 (rnd n k : Int)) ∧ w' = w := by
  obtain ⟨a, c, rfl⟩ := h.form
  have hc := h.can.1
  have hv := rnd_val n h0 (by rw [← hk]; exact h.few)
  have hne : ¬ (IntKind.u64.wrap (k : Int) = 0) := by rw [wrap_u]; have := h.few; omega
  rw [hk] at hc
  clear h
  go_enter Tryz.func76, Tryz.ntmps76
  go_wp2
  go_ret
  exact ⟨congrArg (fun b => Ending.returned (.int .i64 b)) hv, rfl⟩
theorem PTurnH.store {N : Nat} {w V W3 W4 : World} {P : Nat} {v : Value} {ms ms' : List APkt} {R : Nat} (h0 : PRepH F tyH N w P v ms) (hb : Below w.heap.size w V) (hT : PTurnH F tyH N V P v W3 ms') (hR1 : w.heap.size ≤ R) (hR2 : R < V.heap.size) (hk : Kept [R] W3 W4) : PTurnH F tyH N w P v W4 ms' := by
  obtain ⟨v', hr, hk1, hn⟩ := hT
  refine ⟨v', hr.kept hk (fun k h1 h2 => ?_), ((Kept.of_below hb).trans hk1 (fun x hx => .inl hx)).trans hk (fun x hx => ?_), fun k hk2 => ?_⟩
  · simp at h2
    subst h2
    rcases hn _ h1 with h3 | h3
    · have := (h0.ge _ h3).2; omega
    · omega
  · simp at hx; subst hx; exact .inr hR1
  · rcases hn k hk2 with h | h
    · exact .inl h
    · right; have := hb.size; omega
theorem PRepH.push {N : Nat} {w w3 : World} {P : Nat} {v : Value} {ms : List APkt} (hr : PRepH F tyH N w P v ms) {g cap n : Nat} {m : APkt} (hg : w.grownBy w3 v.ownBlock) (hn : n = ms.length + 1) (hl : ms.length < 40) (hm : SmallP m)
    (hown : w3.ownsRow N 92 9 (.slice (some ⟨g, 0, none⟩) n cap) n (ms.flatMap pcells ++ pcells m)) (hat : v.ownBlock = some g ∨ g = w.heap.size) :
    PTurnH F tyH N w P v (w3.setCell ⟨P, 25, none⟩ (.slice (some ⟨g, 0, none⟩) n cap)) (ms ++ [m]) := by
  have hP := hr.lt
  have hgP : g ≠ P := by
    rcases hat with h | h
    · intro e; subst e; exact hr.nd h
    · omega
  have hold : ∀ k, k < w.heap.size → v.ownBlock ≠ some k → w3.heap[k]? = w.heap[k]? := fun k hk hne => hg.block k hk (fun e => hne e.symm)
  refine ⟨.slice (some ⟨g, 0, none⟩) n cap, ⟨hr.new, ?_, ?_, ?_, ?_, ?_, hr.hold⟩, ?_, ?_⟩
  · rw [heap_setCell_same (c := F v) (e := tyH) (fr := (0, 0))]
    · rw [(hr.hold v _).2]
    · rw [hold P hP hr.nd]; exact hr.blk
  · have : w3.ownsRow N 92 9 (.slice (some ⟨g, 0, none⟩) n cap) (ms ++ [m]).length ((ms ++ [m]).flatMap pcells) := by
      have e1 : (ms ++ [m]).length = n := by simp [hn]
      have e2 : (ms ++ [m]).flatMap pcells = ms.flatMap pcells ++ pcells m := by simp
      rw [e1, e2]; exact hown
    exact ownsRow_same this fun k hk => by
      have : k = g := by simpa [Value.ownBlock] using hk.symm
      rw [this]
      exact Below.heap_setCell _ _ _ _ hgP
  · intro e
    simp [Value.ownBlock] at e
    exact hgP e
  · simp; omega
  · intro x hx
    rcases List.mem_append.1 hx with hx | hx
    · exact hr.small x hx
    · simp at hx; subst hx; exact hm
  · have k1 : Kept (powns P v) w w3 := ⟨hg.os, hg.tape, hg.output, hg.size, fun k hk hn => hold k hk (fun e => hn (List.mem_cons_of_mem _ (by simp [e])))⟩
    exact k1.trans (kept_setCell (powns P v) _ _ _ _ List.mem_cons_self) (fun x hx => .inl hx)
  · intro k hk
    rcases List.mem_cons.1 hk with rfl | hk
    · exact .inl List.mem_cons_self
    · have : k = g := by simpa [Value.ownBlock] using hk
      rcases hat with h1 | h1
      · exact .inl (List.mem_cons_of_mem _ (by rw [this]; simp [h1]))
      · right; omega
set_option maxRecDepth 100000 in
set_option maxHeartbeats 4000000 in
theorem Send_BfullH {N : Nat} {w : World} {P : Nat} {v : Value} {ms : List APkt} (h : PRepH F tyH N w P v ms) (m : APkt) (hl : ¬ ms.length < 40) :
    Calls Tryz.prog 52 #[.pointer (some ⟨P, 25, none⟩), m.val] w fun e w' => e = .returned (.bool false) ∧ PTurnH F tyH N w P v w' ms := by
  obtain ⟨V, hV⟩ : ∃ V, V = w.alloc (.cells (pArr m) 92) := ⟨_, rfl⟩
  have hBV : Below w.heap.size w V := by rw [hV]; exact (Below.refl _ _).alloc (Nat.le_refl _) _
  obtain ⟨k, hk⟩ : ∃ k, ms.length = k := ⟨_, rfl⟩
  obtain ⟨a, cap, rfl⟩ := h.form
  have hc1 := h.can.1
  have hPl := h.lt
  have HT := hide (PTurnH.of_below h hBV)
  rw [hk] at hc1 HT ⊢
  have hk40 : (40 : Int) ≤ (k : Int) := by omega
  rw [hV] at HT
  obtain ⟨y, c, n, ⟨kk, s1, s2, s3⟩, d, u⟩ := m
  dsimp only [APkt.val, pArr] at *
  clear h hl hBV hV hk
  go_enter Tryz.func52, Tryz.ntmps52
  go_wp2
  go_ret
  exact ⟨rfl, unhide HT⟩
set_option maxRecDepth 100000 in
set_option maxHeartbeats 4000000 in
theorem Send_BH {N : Nat} {w : World} {P : Nat} {v : Value} {ms : List APkt} (h : PRepH F tyH N w P v ms) (m : APkt) (hm : SmallP m) (hl : ms.length < 40) :
    Calls Tryz.prog 52 #[.pointer (some ⟨P, 25, none⟩), m.val] w fun e w' => e = .returned (.bool true) ∧ PTurnH F tyH N w P v w' (ms ++ [m]) := by
  obtain ⟨i0, hi0, hz0, hz1, hz2⟩ := info_parts infoPP
  obtain ⟨k, hk⟩ : ∃ k, ms.length = k := ⟨_, rfl⟩
  have HK := hide hk
  obtain ⟨a, cap, rfl⟩ := h.form
  have nB := h.nd
  have HR := hide h
  have HSM := hide hm
  rw [hk] at HR nB
  have hk40 : k < 40 := by omega
  have hki : (k : Int) < 40 := by omega
  obtain ⟨V, hV⟩ : ∃ V, V = w.alloc (.cells (pArr m) 92) := ⟨_, rfl⟩
  have hBV : Below w.heap.size w V := by rw [hV]; exact (Below.refl _ _).alloc (Nat.le_refl _) _
  have hXV : V.heap[w.heap.size]? = some (.cells (pArr m) 92 (0, 0)) := by rw [hV]; exact heap_alloc_new _ _
  have hrV := (unhide HR).below hBV
  have HRV := hide hrV
  have HBV := hide hBV
  have HV := hide hV
  have HN : Hid (N ≤ w.heap.size) := Nat.le_trans h.new (Nat.le_of_lt h.lt)
  obtain ⟨y, c, n, ⟨kk, s1, s2, s3⟩, d, u⟩ := m
  dsimp only [APkt.val, pArr] at *
  obtain ⟨⟨x0, x1, x2, x3⟩, ⟨x4, x5, x6, x7, x8⟩, xf⟩ := nine hXV
  have hcw := (unhide HR).can.1
  have hc1 := hrV.can.1
  have hf1 := hrV.can.2
  have hPw : P < w.heap.size := (unhide HR).lt
  have hPV : P < V.heap.size := hrV.lt
  clear h hm hk hl hBV hXV hrV hV
  go_enter Tryz.func52, Tryz.ntmps52
  go_wp2_with fail
  rw [← unhide HV]
  clear hcw
  have HO : Hid (∀ wx, Below V.heap.size V wx → wx.ownsRow N 92 9 (.slice a k cap) k (ms.flatMap pcells)) := fun wx hb => by have := ((unhide HRV).below (w' := wx) hb).row; rw [unhide HK] at this; exact this
  have HF : Hid (∀ wx, Below V.heap.size V wx → Can wx P 25 (.slice a k cap)) := fun wx hb => Can.below (w := V) ⟨hc1, hf1⟩ hb hPV
  go_region_law (first
      | (refine step_append_lies _ (by rfl) _ _ _ (by rfl) N 92 i0 _ 9 104 Tryz.underlying40 hi0 hz0 hz1 hz2 rfl (by omega) (.slice a k cap) k (ms.flatMap pcells) (by rfl) (HO.out _ (below_alloc_drew V _))
          ⟨V.heap.size, 0, none⟩ 1 1 [.bool y, .int .i64 c, .int .i64 n, .int .i64 kk, .string s1, .string s2, .string s3, .int .i64 d, .string u] (by rfl) (by rfl) (World.news_of_block (cs := #[.bool y, .int .i64 c, .int .i64 n, .int .i64 kk, .string s1, .string s2, .string s3, .int .i64 d, .string u]) (t := 92) (fr := (0, 0)) (alloc_drew_new V _)) (by simp [Value.oneCell'])
          (by omega) (by unfold maxLen; omega) (by omega) (by have h3 := (unhide HBV).size; have h4 := unhide HN; simp; omega) (V.heap.size + 1) (by simp) ?_; intro g cap' w2 hown2 hgrow hat hlt; have hc2 := (HF.out _ (below_alloc_drew V _)).grown hgrow nB; have hc3 := hc2.1; have hf3 := hc2.2))
  all_goals
    have hbw : Below w.heap.size w (V.alloc (Obj.cells #[.bool y, .int .i64 c, .int .i64 n, .int .i64 kk, .string s1, .string s2, .string s3, .int .i64 d, .string u] 92)).drew := (unhide HBV).trans ((below_alloc_drew V _).mono (unhide HBV).size)
    have hT := ((unhide HR).below hbw).push hgrow (by rw [unhide HK]) (by rw [unhide HK]; exact hk40) (unhide HSM) hown2 (by simpa using hat)
    have HT := hide (hT.before hbw)
    clear hT hbw hown2 hgrow hat hlt hc2 hc3 hf3
    go_wp2
    go_ret
    exact ⟨rfl, by rw [unhide HK]; exact unhide HT⟩
variable {F : Value → Array Value} {tyH : TypeId}
theorem PRepH.lay {N : Nat} {w w4 : World} {P : Nat} {v v' : Value} {ms ms' : List APkt} (h : PRepH F tyH N w P v ms) (hk : Below w.heap.size w w4) (hrow : w4.ownsRow N 92 9 v' ms'.length (ms'.flatMap pcells))
    (hat : ∀ k, v'.ownBlock = some k → w.heap.size ≤ k) (hf : ms'.length ≤ 40) (hs : ∀ m, m ∈ ms' → SmallP m) : PTurnH F tyH N w P v (w4.setCell ⟨P, 25, none⟩ v') ms' := by
  have hnD : v'.ownBlock ≠ some P := fun e => by have h1 := hat P e; have := h.lt; omega
  have hD4 : w4.heap[P]? = some (.cells (F v) tyH (0, 0)) := (hk.block P h.lt).trans h.blk
  refine ⟨v', ⟨h.new, ?_, ?_, hnD, hf, hs, h.hold⟩, ?_, fun k hk2 => ?_⟩
  · rw [heap_setCell_same hD4 v', (h.hold v v').2]
  · exact ownsRow_same hrow (fun k hk2 => Below.heap_setCell _ _ _ _ (fun e => hnD (by rw [hk2]; simp at e; rw [e])))
  · exact (Kept.of_below hk).trans (kept_setCell [P] w4 P 25 v' (by simp)) (fun x hx => .inl (by rw [List.mem_singleton.1 hx]; exact List.mem_cons_self))
  · rcases List.mem_cons.1 hk2 with rfl | h1
    · exact .inl List.mem_cons_self
    · exact .inr (hat k (by simpa using h1))
set_option maxRecDepth 100000 in
set_option maxHeartbeats 4000000 in
theorem Take_BnoneH {N : Nat} {w : World} {P : Nat} {v : Value} (h : PRepH F tyH N w P v []) (n : Int) :
    Calls Tryz.prog 54 #[.pointer (some ⟨P, 25, none⟩), .int .i64 n] w fun e w' => e = .returned (.tuple #[zeroPkt.val, .bool false]) ∧ PTurnH F tyH N w P v w' [] := by
  obtain ⟨V, hV⟩ : ∃ V, V = w.alloc (.cells zArr 92) := ⟨_, rfl⟩
  have hBV : Below w.heap.size w V := by rw [hV]; exact (Below.refl _ _).alloc (Nat.le_refl _) _
  have hXV : V.heap[w.heap.size]? = some (.cells zArr 92 (0, 0)) := by rw [hV]; exact heap_alloc_new _ _
  obtain ⟨V5, hV5⟩ : ∃ W, W = V.setRow w.heap.size zArr := ⟨_, rfl⟩
  have hZ : V5.heap[w.heap.size]? = some (.cells zArr 92 (0, 0)) := by rw [hV5]; exact setRow_heap V w.heap.size _ _ 92 (0, 0) hXV
  have hB5 : Below w.heap.size w V5 := by
    rw [hV5]
    exact ⟨hBV.os, hBV.tape, hBV.output, by simp [World.setRow]; exact hBV.size, fun k hk => (setRow_other V w.heap.size k _ (by omega)).trans (hBV.block k hk)⟩
  have HT := hide (PTurnH.of_below h hB5)
  obtain ⟨⟨z0, z1, z2, z3⟩, ⟨z4, z5, z6, z7, z8⟩, _⟩ := nine hZ
  have hc := h.can.1
  have hPl := h.lt
  obtain ⟨a, cap, rfl⟩ := h.form
  have HV := hide hV
  dsimp only [zeroPkt, APkt.val, zArr, List.length_nil] at *
  clear h hBV hZ hB5 hV
  rw [unhide HV] at hXV hV5
  go_enter Tryz.func54, Tryz.ntmps54
  go_wp2_with (refine wpList_store_row rfl 92 _ _ rfl w.heap.size #[.bool false, .int .i64 0, .int .i64 0, .int .i64 0, .string ⟨#[]⟩, .string ⟨#[]⟩, .string ⟨#[]⟩, .int .i64 0, .string ⟨#[]⟩] rfl rfl 92 _ hXV infoP rfl (by simp [Value.oneCell']) ?_)
  rw [← hV5]
  refine bodyPost_ret (v := .tuple #[.agg #[.bool false, .int .i64 0, .int .i64 0, .int .i64 0, .string ⟨#[]⟩, .string ⟨#[]⟩, .string ⟨#[]⟩, .int .i64 0, .string ⟨#[]⟩], .bool false]) (by simp [results, Tryz.results54, go_sem, z0, z1, z2, z3, z4, z5, z6, z7, z8]) rfl ⟨rfl, unhide HT⟩
set_option maxRecDepth 100000 in
set_option maxHeartbeats 8000000 in
theorem Take_BH {N : Nat} {w : World} {P : Nat} {v : Value} {l1 l2 : List APkt} {m : APkt} (h : PRepH F tyH N w P v (l1 ++ m :: l2)) (n : Int) (hr : rnd n (l1 ++ m :: l2).length = l1.length) :
    Calls Tryz.prog 54 #[.pointer (some ⟨P, 25, none⟩), .int .i64 n] w fun e w' => e = .returned (.tuple #[m.val, .bool true]) ∧ PTurnH F tyH N w P v w' (l1 ++ l2) := by
  obtain ⟨i0, hi0, hz0, hz1, hz2⟩ := info_parts infoPP
  obtain ⟨k, hk⟩ : ∃ k, (l1 ++ m :: l2).length = k := ⟨_, rfl⟩
  obtain ⟨r, hrr⟩ : ∃ r, l1.length = r := ⟨_, rfl⟩
  have hrk : r < k := by rw [← hk, ← hrr]; simp
  have hk40 : k ≤ 40 := by rw [← hk]; exact h.few
  have hkl : l2.length = k - (r + 1) := by rw [← hk, ← hrr]; simp; omega
  obtain ⟨V, hV⟩ : ∃ V, V = w.alloc (.cells zArr 92) := ⟨_, rfl⟩
  have hBV : Below w.heap.size w V := by rw [hV]; exact (Below.refl _ _).alloc (Nat.le_refl _) _
  have hRV : V.heap[w.heap.size]? = some (.cells zArr 92 (0, 0)) := by rw [hV]; exact heap_alloc_new _ _
  have hrV := h.below hBV
  have HRD := hide (at_BH hrV n hk (by omega))
  rw [hk, hrr] at hr
  rw [hr] at HRD
  have HSM := hide h.small
  obtain ⟨a, cap, rfl⟩ := h.form
  obtain ⟨g0, hg0, hc⟩ := (pkts_row hrV.row rfl).2 (by rw [hk]; omega)
  have hat := hc r m (by rw [← hrr]; simp)
  cases hg0
  have hcapn : k ≤ cap := by have := row_cap h.row; omega
  have hcapm : cap ≤ maxLen := by
    rcases h.row.2 with ⟨he, _⟩ | ⟨g', cap', cur, he, _, _, hnc, hcm, _⟩
    · cases he
    · obtain ⟨_, rfl⟩ : g0 = g' ∧ cap = cap' := by simpa using he
      exact hcm
  unfold maxLen at hcapm
  have HN : Hid (N ≤ w.heap.size) := Nat.le_trans h.new (Nat.le_of_lt h.lt)
  have HH := hide h
  have HRV := hide hrV
  have hcV := hrV.can.1
  have hcw := h.can.1
  have hPl := h.lt
  have hgl : g0 < w.heap.size := (h.row.lt g0 rfl).2
  rw [hk] at hcV hcw
  have hzV : V.heap.size = w.heap.size + 1 := by rw [hV]; simp
  have hri : (r : Int) < (k : Int) := by omega
  have hr0 : (0 : Int) ≤ (r : Int) := by omega
  have ix2 : (r : Int) + 1 ≤ (k : Int) := by omega
  have ix3 : (0 : Int) ≤ (r : Int) + 1 := by omega
  have ic1 : r ≤ cap := by omega
  have ic2 : r + 1 ≤ cap := by omega
  have htn : ((r : Int) + 1).toNat = r + 1 := by omega
  have h0i : ((k : Int) == 0) = false := by simp; omega
  have hwr : IntKind.i64.wrap ((r : Int) + 1) = (r : Int) + 1 := by rw [IntKind.wrap_i64]; omega
  obtain ⟨x0, x1, x2, x3, x4, x5, x6, x7, x8⟩ := hat
  have HHK := hide hk
  have HRR := hide hrr
  have HKL := hide hkl
  have HBV := hide hBV
  have HRB := hide hRV
  have HV := hide hV
  rw [hk] at HH HRV
  have hgV : g0 < V.heap.size := by omega
  have hlie := fun W (hW : Below V.heap.size V W) => lies_prow (by rw [← hk]; rw [hk]; have := (unhide HRV).row; rw [hk] at this; exact this) hk W (hW.block g0 hgV)
  rw [hrr] at hlie
  obtain ⟨A, hA, HL2⟩ : ∃ A : Addr, (if cap = r + 1 then some (⟨g0, 0, none⟩ : Addr) else some ⟨g0, (r + 1) * 9, none⟩) = some A ∧ Hid (∀ W, Below V.heap.size V W → Lies W (.slice (some A) (k - (r + 1)) (cap - (r + 1))) (k - (r + 1)) (l2.flatMap pcells)) := by
    by_cases h : cap = r + 1
    · exact ⟨⟨g0, 0, none⟩, by simp [h], fun W hW => by have := (hlie W hW).2; rwa [if_pos h] at this⟩
    · exact ⟨⟨g0, (r + 1) * 9, none⟩, by simp [h], fun W hW => by have := (hlie W hW).2; rwa [if_neg h] at this⟩
  have HL1 : Hid (∀ W, Below V.heap.size V W → Lies W (.slice (some ⟨g0, 0, none⟩) r cap) r (l1.flatMap pcells)) := fun W hW => (hlie W hW).1
  have HE1 : Hid ((l1.flatMap pcells).length = r * 9) := by rw [Hid, pflat_len, hrr]
  have HE3 : Hid ((l2.flatMap pcells).length = (k - (r + 1)) * 9) := by rw [Hid, pflat_len, hkl]
  have HE2 : Hid (∀ u ∈ l1.flatMap pcells, u.oneCell' = true) := pflat_one l1
  have HE4 : Hid (∀ u ∈ l2.flatMap pcells, u.oneCell' = true) := pflat_one l2
  clear h hc hBV hRV hrV hV hk hrr hr hlie hkl
  obtain ⟨y, c, nn, ⟨kk, s1, s2, s3⟩, d, u⟩ := m
  dsimp only [APkt.val, zArr] at *
  go_enter Tryz.func54, Tryz.ntmps54
  go_wp2_with fail
  rw [← unhide HV]
  clear hcw
  refine (unhide HRD).mono ?_
  rintro e w0 ⟨rfl, hw0⟩
  obtain rfl := hw0.symm
  clear hw0
  obtain ⟨V1, hV1⟩ : ∃ V1, V1 = V.alloc (.cells #[.bool y, .int .i64 c, .int .i64 nn, .int .i64 kk, .string s1, .string s2, .string s3, .int .i64 d, .string u] 92) := ⟨_, rfl⟩
  have hb1 : Below V.heap.size V V1 := by rw [hV1]; exact (Below.refl _ _).alloc (Nat.le_refl _) _
  have HbV1 := hide ((unhide HBV).trans (hb1.mono (unhide HBV).size))
  have HB1 := hide hb1
  have HMV1 : Hid (V1.heap[V.heap.size]? = some (.cells #[.bool y, .int .i64 c, .int .i64 nn, .int .i64 kk, .string s1, .string s2, .string s3, .int .i64 d, .string u] 92 (0, 0))) := by rw [hV1]; exact heap_alloc_new _ _
  have HRV1 := hide ((hb1.block w.heap.size (by omega)).trans (unhide HRB))
  have hrV1 := (unhide HRV).below hb1
  have HRW := hide hrV1
  have hPV1 : P < V1.heap.size := hrV1.lt
  have cD2 := hrV1.can.1
  have cD2f := hrV1.can.2
  have HV1 := hide hV1
  have hzV1 : V1.heap.size = V.heap.size + 1 := by rw [hV1]; simp
  have HL1' : Hid (∀ W, Below V1.heap.size V1 W → Lies W (.slice (some ⟨g0, 0, none⟩) r cap) r (l1.flatMap pcells)) := fun W hW => (unhide HL1) W (hb1.trans (hW.mono hb1.size))
  have HL2' : Hid (∀ W, Below V1.heap.size V1 W → Lies W (.slice (some A) (k - (r + 1)) (cap - (r + 1))) (k - (r + 1)) (l2.flatMap pcells)) := fun W hW => (unhide HL2) W (hb1.trans (hW.mono hb1.size))
  clear hb1 hrV1 hV1
  have hPV : P < V.heap.size := by omega
  go_wp2_with fail
  rw [← unhide HV1]
  clear x0 x1 x2 x3 x4 x5 x6 x7 x8 hcV
  go_region_law (first | (refine step_new (wx := V1) (by rfl) (.tmp 25) (.tmp 30) 40 (by rfl) (below_drew V1) 92 i0 _ 9 104 Tryz.underlying40 hi0 hz0 hz1 hz2 rfl (by omega) (.slice none 0 0) 0 [] (by simp [Act.eval, Act.put]) (World.ownsRow_nil _ _ _ _) (.slice (some ⟨g0, 0, none⟩) r cap) r (l1.flatMap pcells) (by simp [Act.eval, Act.put]) ((unhide HL1') _ (below_drew V1)) (unhide HE1) (unhide HE2) (by unfold maxLen; omega) (by omega) ?_; intro aA cA wA hownA bA hgrowA; rw [Nat.zero_add, List.nil_append] at hownA; rw [Nat.zero_add]; have hcA := (bA.cell (p := ⟨P, 25, none⟩) hPV1).trans cD2; clear hgrowA) | (refine step_new (wx := V1) (by rfl) (.tmp 31) (.tmp 37) 40 (by rfl) bA 92 i0 _ 9 104 Tryz.underlying40 hi0 hz0 hz1 hz2 rfl (by omega) (.slice aA r cA) r (l1.flatMap pcells) (by simp [Act.eval, Act.put]) hownA (.slice (some A) (k - (r + 1)) (cap - (r + 1))) (k - (r + 1)) (l2.flatMap pcells) (by simp [Act.eval, Act.put]) ((unhide HL2') _ bA) (unhide HE3) (unhide HE4) (by unfold maxLen; omega) (by omega) ?_; intro aB cB wB hownB bB hgrowB; have hcB := (bB.cell (p := ⟨P, 25, none⟩) hPV1).trans cD2; have hcBf := (bB.frozen (p := ⟨P, 25, none⟩) hPV1).trans cD2f; clear hgrowB) | fail)
  all_goals
    obtain ⟨W3, hW3⟩ : ∃ W3, W3 = wB.setCell ⟨P, 25, none⟩ (.slice aB (r + (k - (r + 1))) cB) := ⟨_, rfl⟩
    have hT2 : PTurnH F tyH N V1 P (.slice (some ⟨g0, 0, none⟩) k cap) W3 (l1 ++ l2) := by
      rw [hW3]
      have e1 : (l1 ++ l2).length = r + (k - (r + 1)) := by rw [List.length_append, unhide HRR, unhide HKL]
      refine (unhide HRW).lay bB ?_ (fun k e => (hownB.lt k e).1) (by rw [e1]; omega) (fun m hm => (unhide HSM) m (by simp at hm ⊢; rcases hm with h | h; exact .inl h; exact .inr (.inr h)))
      rw [e1, List.flatMap_append]
      exact ownsRow_base hownB (by have := unhide HN; have := (unhide HBV).size; omega)
    have hR2 := (bB.block w.heap.size (by omega)).trans (unhide HRV1)
    have hM2 := (bB.block V.heap.size (by omega)).trans (unhide HMV1)
    have hR3 := (Below.heap_setCell wB ⟨P, 25, none⟩ (.slice aB (r + (k - (r + 1))) cB) w.heap.size (by simp; omega)).trans hR2
    rw [← hW3] at hR3
    rw [hzV] at hM2
    have hM3 := (Below.heap_setCell wB ⟨P, 25, none⟩ (.slice aB (r + (k - (r + 1))) cB) (w.heap.size + 1) (by simp; omega)).trans hM2
    obtain ⟨⟨m0, m1, m2, m3⟩, ⟨m4, m5, m6, m7, m8⟩, _⟩ := nine hM3
    obtain ⟨W4, hW4⟩ : ∃ W4, W4 = W3.setRow w.heap.size #[.bool y, .int .i64 c, .int .i64 nn, .int .i64 kk, .string s1, .string s2, .string s3, .int .i64 d, .string u] := ⟨_, rfl⟩
    have hZ : W4.heap[w.heap.size]? = some (.cells #[.bool y, .int .i64 c, .int .i64 nn, .int .i64 kk, .string s1, .string s2, .string s3, .int .i64 d, .string u] 92 (0, 0)) := by rw [hW4]; exact setRow_heap W3 w.heap.size _ _ 92 (0, 0) hR3
    have hT4 := PTurnH.store (W4 := W4) (R := w.heap.size) (unhide HH) (unhide HbV1) hT2 (Nat.le_refl _) (by omega) (by rw [hW4]; exact kept_setRow W3 _ _)
    have HT4 := hide hT4
    obtain ⟨⟨z0, z1, z2, z3⟩, ⟨z4, z5, z6, z7, z8⟩, _⟩ := nine hZ
    rw [hW3] at hR3 hW4
    clear hT2 hM2 hM3 hR2 hT4 hZ hW3 hownA hownB bA bB hcA hcB hcBf cD2 cD2f
    go_wp2_with (refine wpList_store_row rfl 92 _ _ rfl w.heap.size #[.bool y, .int .i64 c, .int .i64 nn, .int .i64 kk, .string s1, .string s2, .string s3, .int .i64 d, .string u] rfl rfl 92 _ hR3 infoP rfl (by simp [Value.oneCell']) ?_)
    rw [← hW4]
    refine bodyPost_ret (v := .tuple #[.agg #[.bool y, .int .i64 c, .int .i64 nn, .int .i64 kk, .string s1, .string s2, .string s3, .int .i64 d, .string u], .bool true]) (by simp [results, Tryz.results54, go_sem, z0, z1, z2, z3, z4, z5, z6, z7, z8]) rfl ⟨rfl, by rw [unhide HHK]; exact unhide HT4⟩
set_option maxRecDepth 100000 in
set_option maxHeartbeats 4000000 in
theorem Double_BnotH {N : Nat} {w : World} {P : Nat} {v : Value} (h : PRepH F tyH N w P v []) (n : Int) :
    Calls Tryz.prog 53 #[.pointer (some ⟨P, 25, none⟩), .int .i64 n] w fun e w' => e = .returned (.bool false) ∧ w' = w := by
  have hc := h.can.1
  obtain ⟨a, cap, rfl⟩ := h.form
  dsimp only [List.length_nil] at *
  clear h
  go_enter Tryz.func53, Tryz.ntmps53
  go_wp2
  go_ret
  exact ⟨rfl, rfl⟩
set_option maxRecDepth 100000 in
set_option maxHeartbeats 8000000 in
theorem Double_BH {N : Nat} {w : World} {P : Nat} {v : Value} {ms : List APkt} (h : PRepH F tyH N w P v ms) (n : Int) (h0 : 0 < ms.length) {m : APkt} (hm : ms[rnd n ms.length]? = some m) :
    Calls Tryz.prog 53 #[.pointer (some ⟨P, 25, none⟩), .int .i64 n] w fun e w' => e = .returned (.bool (decide (ms.length < 40))) ∧ PTurnH F tyH N w P v w' (if ms.length < 40 then ms ++ [m] else ms) := by
  obtain ⟨k, hk⟩ : ∃ k, ms.length = k := ⟨_, rfl⟩
  have hsend : Calls Tryz.prog 52 #[.pointer (some ⟨P, 25, none⟩), m.val] w.drew fun e w' => e = .returned (.bool (decide (ms.length < 40))) ∧ PTurnH F tyH N w P v w' (if ms.length < 40 then ms ++ [m] else ms) := by
    have hb := below_drew w
    by_cases hl : ms.length < 40
    · refine (Send_BH (h.below hb) m (h.small m (List.mem_of_getElem? hm)) hl).mono ?_
      rintro e w' ⟨rfl, hT⟩
      rw [if_pos hl, decide_eq_true hl]
      exact ⟨rfl, hT.before hb⟩
    · refine (Send_BfullH (h.below hb) m hl).mono ?_
      rintro e w' ⟨rfl, hT⟩
      rw [if_neg hl, decide_eq_false hl]
      exact ⟨rfl, hT.before hb⟩
  obtain ⟨res, hres⟩ : ∃ b, decide (ms.length < 40) = b := ⟨_, rfl⟩
  obtain ⟨ms', hms'⟩ : ∃ l, (if ms.length < 40 then ms ++ [m] else ms) = l := ⟨_, rfl⟩
  rw [hres, hms'] at hsend ⊢
  have HSD := hide hsend
  have HRD := hide (at_BH (h.below (below_drew w)) n hk (by omega))
  rw [hk] at h0 hm
  obtain ⟨r, hr⟩ : ∃ r, rnd n k = r := ⟨_, rfl⟩
  have hrk := rnd_lt n h0
  rw [hr] at hm hrk
  rw [hr] at HRD
  have hri : (r : Int) < (k : Int) := by omega
  have hr0 : (0 : Int) ≤ (r : Int) := by omega
  obtain ⟨a, cap, rfl⟩ := h.form
  obtain ⟨g0, hg0, hc⟩ := (pkts_row h.row rfl).2 (by omega)
  have hat0 := hc r m hm
  cases hg0
  have h0i : ((k : Int) == 0) = false := by simp; omega
  obtain ⟨x0, x1, x2, x3, x4, x5, x6, x7, x8⟩ := hat0
  have hc1 := h.can.1
  rw [hk] at hc1
  clear h hc hm hr hres hms' hsend
  obtain ⟨y, c, nn, ⟨kk, s1, s2, s3⟩, d, u⟩ := m
  dsimp only [APkt.val] at *
  go_enter Tryz.func53, Tryz.ntmps53
  go_wp2_with fail
  go_region_law (first
      | (go_simp; go_at_call 76; refine (unhide HRD).mono ?_; rintro e w1 ⟨rfl, hw1⟩; obtain rfl := hw1.symm; clear hw1)
      | (go_simp; go_at_call 52; refine (unhide HSD).mono ?_; rintro e w2 ⟨rfl, hT⟩; have HT := hide hT; clear hT))
  all_goals
    go_wp2
    go_ret
    exact ⟨rfl, unhide HT⟩
theorem BSend_anyH {N : Nat} {w : World} {P : Nat} {v : Value} {ms : List APkt} (h : PRepH F tyH N w P v ms) (m : APkt) (hm : SmallP m) :
    Calls Tryz.prog 52 #[.pointer (some ⟨P, 25, none⟩), m.val] w fun e w' => e = .returned (.bool (decide (ms.length < 40))) ∧ PTurnH F tyH N w P v w' (aSend ms m) := by
  unfold aSend
  by_cases hl : ms.length < 40
  · rw [if_pos hl, decide_eq_true hl]; exact Send_BH h m hm hl
  · rw [if_neg hl, decide_eq_false hl]; exact Send_BfullH h m hl
theorem BTake_anyH {N : Nat} {w : World} {P : Nat} {v : Value} {ms : List APkt} (h : PRepH F tyH N w P v ms) (n : Int) :
    Calls Tryz.prog 54 #[.pointer (some ⟨P, 25, none⟩), .int .i64 n] w fun e w' => e = .returned (.tuple #[(aTakeM ms n).val, .bool (aTakeB ms)]) ∧ PTurnH F tyH N w P v w' (aTakeL ms n) := by
  by_cases h0 : 0 < ms.length
  · obtain ⟨l1, l2, e1, e2, e3⟩ := psplit (take_some n h0)
    unfold aTakeB aTakeL
    rw [decide_eq_true h0, e3]
    obtain ⟨q, hq⟩ : ∃ q, aTakeM ms n = q := ⟨_, rfl⟩
    rw [hq] at e1 ⊢
    subst e1
    exact Take_BH h n e2.symm
  · obtain rfl : ms = [] := List.length_eq_zero_iff.1 (by omega)
    exact Take_BnoneH h n
theorem BDbl_anyH {N : Nat} {w : World} {P : Nat} {v : Value} {ms : List APkt} (h : PRepH F tyH N w P v ms) (n : Int) :
    Calls Tryz.prog 53 #[.pointer (some ⟨P, 25, none⟩), .int .i64 n] w fun e w' => e = .returned (.bool (aDblB ms)) ∧ PTurnH F tyH N w P v w' (aDblL ms n) := by
  unfold aDblB aDblL aSend
  by_cases h0 : 0 < ms.length
  · rw [if_pos h0, decide_eq_true h0, Bool.true_and]
    exact Double_BH h n h0 (take_some n h0)
  · obtain rfl : ms = [] := List.length_eq_zero_iff.1 (by omega)
    rw [if_neg h0, decide_eq_false h0]
    refine (Double_BnotH h n).mono ?_
    rintro e w' ⟨rfl, rfl⟩
    exact ⟨rfl, PTurnH.of_below h (Below.refl _ _)⟩
def ACli.keepsA (c : ACli) (y x : ACall) : ACall := if c.ask x = 0 then x else y
theorem keepsA_ok {c : ACli} {y x : ACall} (h : c.op = true → y = c.call) : (c.asked x).op = true → c.keepsA y x = (c.asked x).call := by
  unfold ACli.asked ACli.keepsA
  by_cases h0 : c.ask x = 0
  · rw [if_pos h0, if_pos h0]; intro _; rfl
  · rw [if_neg h0, if_neg h0]; exact h
def GHold (O : Nat) (F : List Value → Array Value) : Prop := ∀ (l : List Value), l.length = 8 → ∀ i, i < 8 → (F l)[O + i]? = l[i]? ∧ ∀ u, (F l).setIfInBounds (O + i) u = F (l.set i u)
def gcellsH (F : List Value → Array Value) (c : ACli) (x : ACall) (v : Value) : Array Value := F [.int .i64 c.me, .int .i64 (gno c), .int .i64 x.kind, .string x.name, .string x.dst, .string x.text, .bool c.op, v]
structure GRepH (F : List Value → Array Value) (tyH : TypeId) (O : Nat) (N : Nat) (w : World) (X : Nat) (v : Value) (c : ACli) (x : ACall) : Prop where
  o : ORep tyH N w X (gcellsH F c x) v c.done
  ok : COk c
  keeps : c.op = true → x = c.call
  hold : GHold O F
abbrev GTurnH (F : List Value → Array Value) (tyH : TypeId) (N : Nat) (w : World) (X : Nat) (v : Value) (w' : World) (c : ACli) (x : ACall) : Prop := OTurn tyH N w X v w' (gcellsH F c x) c.done
variable {F : List Value → Array Value} {tyH : TypeId} {O : Nat}
theorem GRepH.below {N : Nat} {w w' : World} {X : Nat} {v : Value} {c : ACli} {y : ACall} (h : GRepH F tyH O N w X v c y) (hb : Below w.heap.size w w') : GRepH F tyH O N w' X v c y := ⟨h.o.below hb, h.ok, h.keeps, h.hold⟩
theorem setH (hG : GHold O F) {w : World} {X : Nat} {e : TypeId} {l : List Value} (h : w.heap[X]? = some (.cells (F l) e (0, 0))) {i : Nat} (hi : i < 8) (u : Value) (hl : l.length = 8 := by rfl) : (w.setCell ⟨X, O + i, none⟩ u).heap[X]? = some (.cells (F (l.set i u)) e (0, 0)) := by
  rw [heap_setCell_same h u]
  rw [(hG l hl i hi).2]
theorem cellH (hG : GHold O F) {w : World} {X : Nat} {e : TypeId} {l : List Value} (h : w.heap[X]? = some (.cells (F l) e (0, 0))) {i : Nat} (hi : i < 8) (hl : l.length = 8) : w.cell? ⟨X, O + i, none⟩ = l[i]? := by
  rw [cell_of_row w X _ _ _ _ h]
  exact (hG l hl i hi).1
theorem eightH (hG : GHold O F) {w : World} {b : Nat} {x0 x1 x2 x3 x4 x5 x6 x7 : Value} {e : TypeId} (h : w.heap[b]? = some (.cells (F [x0, x1, x2, x3, x4, x5, x6, x7]) e (0, 0))) :
    (w.cell? ⟨b, O, none⟩ = some x0 ∧ w.cell? ⟨b, O + 1, none⟩ = some x1 ∧ w.cell? ⟨b, O + 2, none⟩ = some x2 ∧ w.cell? ⟨b, O + 3, none⟩ = some x3) ∧ (w.cell? ⟨b, O + 4, none⟩ = some x4 ∧ w.cell? ⟨b, O + 5, none⟩ = some x5 ∧ w.cell? ⟨b, O + 6, none⟩ = some x6 ∧ w.cell? ⟨b, O + 7, none⟩ = some x7) ∧ ∀ j, w.frozen? ⟨b, j, none⟩ = false :=
  ⟨⟨cellH hG h (i := 0) (by decide) rfl, cellH hG h (i := 1) (by decide) rfl, cellH hG h (i := 2) (by decide) rfl, cellH hG h (i := 3) (by decide) rfl⟩, ⟨cellH hG h (i := 4) (by decide) rfl, cellH hG h (i := 5) (by decide) rfl, cellH hG h (i := 6) (by decide) rfl, cellH hG h (i := 7) (by decide) rfl⟩, fun j => frozen_of_row w b j _ _ h⟩
theorem set6h (hG : GHold O F) {w : World} {X : Nat} {t : TypeId} {y0 y1 y2 y3 y4 y5 y6 y7 a1 a2 a3 a4 a5 a6 : Value} (h : w.heap[X]? = some (.cells (F [y0, y1, y2, y3, y4, y5, y6, y7]) t (0, 0))) :
    ((((((w.setCell ⟨X, O + 1, none⟩ a1).setCell ⟨X, O + 2, none⟩ a2).setCell ⟨X, O + 3, none⟩ a3).setCell ⟨X, O + 4, none⟩ a4).setCell ⟨X, O + 5, none⟩ a5).setCell ⟨X, O + 6, none⟩ a6).heap[X]? = some (.cells (F [y0, a1, a2, a3, a4, a5, a6, y7]) t (0, 0)) ∧
    Kept [X] w ((((((w.setCell ⟨X, O + 1, none⟩ a1).setCell ⟨X, O + 2, none⟩ a2).setCell ⟨X, O + 3, none⟩ a3).setCell ⟨X, O + 4, none⟩ a4).setCell ⟨X, O + 5, none⟩ a5).setCell ⟨X, O + 6, none⟩ a6) := by
  have k : ∀ (W : World) (o : Nat) (u : Value), Kept [X] W (W.setCell ⟨X, o, none⟩ u) := fun W o u => kept_setCell [X] W X o u (by simp)
  have k0 := Kept.refl [X] w
  have h1 : (w.setCell ⟨X, O + 1, none⟩ a1).heap[X]? = some (.cells (F [y0, a1, y2, y3, y4, y5, y6, y7]) t (0, 0)) := setH hG h (i := 1) (by decide) a1
  have k1 := k0.trans (k w (O + 1) a1) (fun x hx => .inl hx)
  generalize w.setCell ⟨X, O + 1, none⟩ a1 = w1 at *
  have h2 : (w1.setCell ⟨X, O + 2, none⟩ a2).heap[X]? = some (.cells (F [y0, a1, a2, y3, y4, y5, y6, y7]) t (0, 0)) := setH hG h1 (i := 2) (by decide) a2
  have k2 := k1.trans (k w1 (O + 2) a2) (fun x hx => .inl hx)
  generalize w1.setCell ⟨X, O + 2, none⟩ a2 = w2 at *
  have h3 : (w2.setCell ⟨X, O + 3, none⟩ a3).heap[X]? = some (.cells (F [y0, a1, a2, a3, y4, y5, y6, y7]) t (0, 0)) := setH hG h2 (i := 3) (by decide) a3
  have k3 := k2.trans (k w2 (O + 3) a3) (fun x hx => .inl hx)
  generalize w2.setCell ⟨X, O + 3, none⟩ a3 = w3 at *
  have h4 : (w3.setCell ⟨X, O + 4, none⟩ a4).heap[X]? = some (.cells (F [y0, a1, a2, a3, a4, y5, y6, y7]) t (0, 0)) := setH hG h3 (i := 4) (by decide) a4
  have k4 := k3.trans (k w3 (O + 4) a4) (fun x hx => .inl hx)
  generalize w3.setCell ⟨X, O + 4, none⟩ a4 = w4 at *
  have h5 : (w4.setCell ⟨X, O + 5, none⟩ a5).heap[X]? = some (.cells (F [y0, a1, a2, a3, a4, a5, y6, y7]) t (0, 0)) := setH hG h4 (i := 5) (by decide) a5
  have k5 := k4.trans (k w4 (O + 5) a5) (fun x hx => .inl hx)
  generalize w4.setCell ⟨X, O + 5, none⟩ a5 = w5 at *
  have h6 : (w5.setCell ⟨X, O + 6, none⟩ a6).heap[X]? = some (.cells (F [y0, a1, a2, a3, a4, a5, a6, y7]) t (0, 0)) := setH hG h5 (i := 6) (by decide) a6
  have k6 := k5.trans (k w5 (O + 6) a6) (fun x hx => .inl hx)
  generalize w5.setCell ⟨X, O + 6, none⟩ a6 = w6 at *
  exact ⟨h6, k6⟩
set_option maxRecDepth 100000 in
set_option maxHeartbeats 4000000 in
theorem Ask_anyH {N : Nat} {w : World} {X : Nat} {v : Value} {c : ACli} {y : ACall} (h : GRepH F tyH O N w X v c y) (x : ACall) (hx : SmallC x) :
    Calls Tryz.prog 50 #[.pointer (some ⟨X, O, none⟩), .agg #[.int .i64 x.kind, .string x.name, .string x.dst, .string x.text]] w fun e w' => e = .returned (.int .i64 (c.ask x)) ∧ GTurnH F tyH N w X v w' (c.asked x) (c.keepsA y x) := by
  have hGH := h.hold
  obtain ⟨V, hV⟩ : ∃ V, V = w.alloc (.cells #[.int .i64 x.kind, .string x.name, .string x.dst, .string x.text] 32) := ⟨_, rfl⟩
  have hBV : Below w.heap.size w V := by rw [hV]; exact (Below.refl _ _).alloc (Nat.le_refl _) _
  have hXV : V.heap[w.heap.size]? = some (.cells #[.int .i64 x.kind, .string x.name, .string x.dst, .string x.text] 32 (0, 0)) := by rw [hV]; exact heap_alloc_new _ _
  have hrV := h.below hBV
  have HCK := hide (CallFault_any x.kind x.name x.dst x.text V (small_max hx.1) (small_max hx.2.1) (small_max hx.2.2))
  have hce : checkI ⟨x.kind, x.name, x.dst, x.text⟩ = checkI x := rfl
  rw [hce] at HCK
  have hlV : w.heap.size < V.heap.size := (Array.getElem?_eq_some_iff.1 hXV).1
  have hXn : w.heap.size ≠ X := by have := h.o.lt; omega
  have HRV := hide hrV
  have HXV := hide hXV
  have HBV := hide hBV
  have HV := hide hV
  by_cases hck : checkI x = 0
  · cases hop : c.op
    · have hgno : gno c = (c.done.length : Int) := by unfold gno; rw [hop]; rfl
      by_cases hfull : 200 ≤ c.done.length
      · have e1 : c.ask x = 7 := by unfold ACli.ask; rw [if_neg (by simp [hck]), if_neg (by simp [hop]), if_pos hfull]
        have e2 : c.asked x = c := by unfold ACli.asked; rw [e1, if_neg (by omega)]
        have e3 : c.keepsA y x = y := by unfold ACli.keepsA; rw [e1, if_neg (by omega)]
        rw [e1, e2, e3]
        rw [hck] at HCK
        have HT : Hid (∀ w', Below V.heap.size V w' → GTurnH F tyH N w X v w' c y) := fun w' hb => OTurn.of_below h.o (hBV.trans (hb.mono hBV.size))
        obtain ⟨x0, x1, x2, x3, xf⟩ := fourK hXV
        have HK : Hid (∀ w', Below V.heap.size V w' → w'.cell? ⟨X, O + 6, none⟩ = some (.bool false) ∧ w'.cell? ⟨X, O + 1, none⟩ = some (.int .i64 (c.done.length : Int))) := fun w' hb => by
          obtain ⟨⟨k0, k1, k2, k3⟩, ⟨k4, k5, k6, k7⟩, kf⟩ := eightH hGH ((hrV.below hb).o.blk)
          exact ⟨by rw [← hop]; exact k6, by rw [← hgno]; exact k1⟩
        have hfi : (200 : Int) ≤ (c.done.length : Int) := by omega
        generalize c.done.length = n at HK hfi
        clear h hBV hXV hrV hV hck hop hfull e1 e2 e3 hce hgno
        go_enter Tryz.func50, Tryz.ntmps50
        go_wp2_with fail
        rw [← unhide HV]
        refine (unhide HCK).mono ?_
        rintro e w1 ⟨rfl, b1⟩
        obtain ⟨k6, k1⟩ := (unhide HK) w1 b1
        go_wp2
        go_ret
        exact ⟨rfl, (unhide HT) _ b1⟩
      · have e1 : c.ask x = 0 := by unfold ACli.ask; rw [if_neg (by simp [hck]), if_neg (by simp [hop]), if_neg hfull]
        have e2 : c.asked x = ⟨c.me, c.done, x, true⟩ := by unfold ACli.asked; rw [e1, if_pos rfl]
        have e3 : c.keepsA y x = x := by unfold ACli.keepsA; rw [e1, if_pos rfl]
        rw [e1, e2, e3]
        rw [hck] at HCK
        have HK : Hid (∀ w', Below V.heap.size V w' → w'.heap[X]? = some (.cells (F [.int .i64 c.me, .int .i64 (c.done.length : Int), .int .i64 y.kind, .string y.name, .string y.dst, .string y.text, .bool false, v]) tyH (0, 0))) := fun w' hb => by
          have := (hrV.below hb).o.blk
          unfold gcellsH at this
          rw [hop, hgno] at this
          exact this
        have HXK : Hid (∀ w', Below V.heap.size V w' → w'.heap[w.heap.size]? = some (.cells #[.int .i64 x.kind, .string x.name, .string x.dst, .string x.text] 32 (0, 0))) := fun w' hb => (hb.block _ hlV).trans hXV
        obtain ⟨x0, x1, x2, x3, xf⟩ := fourK hXV
        have hXl : X < V.heap.size := hrV.o.lt
        have hfi : ¬ (200 : Int) ≤ (c.done.length : Int) := by omega
        clear hBV hXV hrV hV hck hop hfull e1 e2 e3 hce hgno
        have HH := hide h
        clear h
        obtain ⟨me, done, cl, op⟩ := c
        obtain ⟨xk, xa, xb, xt⟩ := x
        obtain ⟨yk, ya, yb, yt⟩ := y
        dsimp only at *
        obtain ⟨n, hn⟩ : ∃ n, done.length = n := ⟨_, rfl⟩
        rw [hn] at HK hfi
        have hwr : IntKind.i64.wrap ((n : Int) + 1) = (n : Int) + 1 := by rw [IntKind.wrap_i64]; omega
        go_enter Tryz.func50, Tryz.ntmps50
        go_wp2_with fail
        rw [← unhide HV]
        refine (unhide HCK).mono ?_
        rintro e w1 ⟨rfl, b1⟩
        clear x0 x1 x2 x3 xf
        have HX1 := hide ((unhide HXK) w1 b1)
        have hk1 := (unhide HK) w1 b1
        obtain ⟨⟨k0, k1, k2, k3⟩, ⟨k4, k5, k6, k7⟩, kf⟩ := eightH hGH hk1
        obtain ⟨x0, x1, x2, x3, xf⟩ := fourK (unhide HX1)
        have kf1 := kf (O + 1)
        have kf2 := kf (O + 2)
        have kf3 := kf (O + 3)
        have kf4 := kf (O + 4)
        have kf5 := kf (O + 5)
        have kf6 := kf (O + 6)
        clear kf xf
        obtain ⟨hs1, hs2⟩ := set6h hGH (w := w1) (a1 := .int .i64 ((n : Int) + 1)) (a2 := .int .i64 xk) (a3 := .string xa) (a4 := .string xb) (a5 := .string xt) (a6 := .bool true) hk1
        have hb1 : Below w.heap.size w w1 := (unhide HBV).trans (b1.mono (unhide HBV).size)
        obtain ⟨W9, hW9⟩ : ∃ W, W = ((((((w1.setCell ⟨X, O + 1, none⟩ (.int .i64 ((n : Int) + 1))).setCell ⟨X, O + 2, none⟩ (.int .i64 xk)).setCell ⟨X, O + 3, none⟩ (.string xa)).setCell ⟨X, O + 4, none⟩ (.string xb)).setCell ⟨X, O + 5, none⟩ (.string xt)).setCell ⟨X, O + 6, none⟩ (.bool true)) := ⟨_, rfl⟩
        rw [← hW9] at hs1 hs2
        have hT : GTurnH F tyH N w X v _ ⟨me, done, ⟨xk, xa, xb, xt⟩, true⟩ ⟨xk, xa, xb, xt⟩ := ((((unhide HH).below hb1).o).reblk (f' := gcellsH F ⟨me, done, ⟨xk, xa, xb, xt⟩, true⟩ ⟨xk, xa, xb, xt⟩) (by unfold gcellsH gno ACli.no; rw [hn]; exact hs1) hs2).before hb1
        have HT := hide (hT.after (below_drew W9))
        have HW9 := hide hW9
        clear hs1 hs2 hT hk1 hW9
        go_wp2_with fail
        go_region_law (fail)
        all_goals
          rw [← unhide HW9]
          clear k0 k1 k2 k3 k4 k5 k6 k7 kf1 kf2 kf3 kf4 kf5 kf6 x0 x1 x2 x3
          go_wp2
          go_ret
          exact ⟨rfl, unhide HT⟩
    · have e1 : c.ask x = 11 := by unfold ACli.ask; rw [if_neg (by simp [hck]), if_pos hop]
      have e2 : c.asked x = c := by unfold ACli.asked; rw [e1, if_neg (by omega)]
      have e3 : c.keepsA y x = y := by unfold ACli.keepsA; rw [e1, if_neg (by omega)]
      rw [e1, e2, e3]
      rw [hck] at HCK
      have HT : Hid (∀ w', Below V.heap.size V w' → GTurnH F tyH N w X v w' c y) := fun w' hb => OTurn.of_below h.o (hBV.trans (hb.mono hBV.size))
      obtain ⟨x0, x1, x2, x3, xf⟩ := fourK hXV
      have HK : Hid (∀ w', Below V.heap.size V w' → w'.cell? ⟨X, O + 6, none⟩ = some (.bool true)) := fun w' hb => by
        obtain ⟨⟨k0, k1, k2, k3⟩, ⟨k4, k5, k6, k7⟩, kf⟩ := eightH hGH ((hrV.below hb).o.blk)
        rw [← hop]; exact k6
      clear h hBV hXV hrV hV hck hop e1 e2 e3 hce
      go_enter Tryz.func50, Tryz.ntmps50
      go_wp2_with fail
      rw [← unhide HV]
      refine (unhide HCK).mono ?_
      rintro e w1 ⟨rfl, b1⟩
      have k6 := (unhide HK) w1 b1
      go_wp2
      go_ret
      exact ⟨rfl, (unhide HT) _ b1⟩
  · have e1 : c.ask x = checkI x := by unfold ACli.ask; rw [if_pos hck]
    have e2 : c.asked x = c := by unfold ACli.asked; rw [e1, if_neg hck]
    have e3 : c.keepsA y x = y := by unfold ACli.keepsA; rw [e1, if_neg hck]
    rw [e1, e2, e3]
    have HT : Hid (∀ w', Below V.heap.size V w' → GTurnH F tyH N w X v w' c y) := fun w' hb => OTurn.of_below h.o (hBV.trans (hb.mono hBV.size))
    obtain ⟨x0, x1, x2, x3, xf⟩ := fourK hXV
    generalize checkI x = ci at *
    have hcb : (ci != 0) = true := by simpa using hck
    clear h hBV hXV hrV hV hce hck e1 e2 e3
    go_enter Tryz.func50, Tryz.ntmps50
    go_wp2_with fail
    rw [← unhide HV]
    refine (unhide HCK).mono ?_
    rintro e w1 ⟨rfl, b1⟩
    go_wp2
    go_ret
    exact ⟨rfl, (unhide HT) _ b1⟩
set_option maxRecDepth 100000 in
set_option maxHeartbeats 4000000 in
theorem GSend_noneH {N : Nat} {w : World} {X : Nat} {v : Value} {c : ACli} {y : ACall} (h : GRepH F tyH O N w X v c y) (hop : c.op = false) :
    Calls Tryz.prog 51 #[.pointer (some ⟨X, O, none⟩)] w fun e w' => e = .returned (.tuple #[zeroPkt.val, .bool false]) ∧ Below w.heap.size w w' := by
  have hGH := h.hold
  obtain ⟨V, hV⟩ : ∃ V, V = w.alloc (.cells zeroP 92) := ⟨_, rfl⟩
  have hBV : Below w.heap.size w V := by rw [hV]; exact (Below.refl _ _).alloc (Nat.le_refl _) _
  have hYV : V.heap[w.heap.size]? = some (.cells zeroP 92 (0, 0)) := by rw [hV]; exact heap_alloc_new _ _
  obtain ⟨⟨k0, k1, k2, k3⟩, ⟨k4, k5, k6, k7⟩, kf⟩ := eightH hGH h.o.blk
  have hXl := h.o.lt
  rw [hop] at k6
  obtain ⟨V5, hV5⟩ : ∃ W, W = V.setRow w.heap.size zeroP := ⟨_, rfl⟩
  have hZ : V5.heap[w.heap.size]? = some (.cells zeroP 92 (0, 0)) := by rw [hV5]; exact setRow_heap V w.heap.size _ _ 92 (0, 0) hYV
  have HB5 : Hid (Below w.heap.size w V5) := by
    rw [hV5]
    exact ⟨hBV.os, hBV.tape, hBV.output, by simp [World.setRow]; exact hBV.size, fun k hk => (setRow_other V w.heap.size k _ (by omega)).trans (hBV.block k hk)⟩
  rw [hV] at hV5 hYV
  dsimp only [zeroP, zeroPkt, APkt.val] at *
  obtain ⟨⟨z0, z1, z2, z3⟩, ⟨z4, z5, z6, z7, z8⟩, _⟩ := nine hZ
  clear h hop hBV hZ hV k0 k1 k2 k3 k4 k5 k7 kf
  go_enter Tryz.func51, Tryz.ntmps51
  go_wp2_with (refine wpList_store_row rfl 92 _ _ rfl w.heap.size #[.bool false, .int .i64 0, .int .i64 0, .int .i64 0, .string ⟨#[]⟩, .string ⟨#[]⟩, .string ⟨#[]⟩, .int .i64 0, .string ⟨#[]⟩] rfl rfl 92 _ hYV infoP rfl (by simp [Value.oneCell']) ?_)
  rw [← hV5]
  refine bodyPost_ret (v := .tuple #[.agg #[.bool false, .int .i64 0, .int .i64 0, .int .i64 0, .string ⟨#[]⟩, .string ⟨#[]⟩, .string ⟨#[]⟩, .int .i64 0, .string ⟨#[]⟩], .bool false]) (by simp [results, Tryz.results51, go_sem, z0, z1, z2, z3, z4, z5, z6, z7, z8]) rfl ⟨rfl, unhide HB5⟩
set_option maxRecDepth 100000 in
set_option maxHeartbeats 4000000 in
theorem GSend_someH {N : Nat} {w : World} {X : Nat} {v : Value} {c : ACli} {y : ACall} (h : GRepH F tyH O N w X v c y) (hop : c.op = true) :
    Calls Tryz.prog 51 #[.pointer (some ⟨X, O, none⟩)] w fun e w' => e = .returned (.tuple #[(⟨false, c.me, c.no, c.call, 0, ⟨#[]⟩⟩ : APkt).val, .bool true]) ∧ Below w.heap.size w w' := by
  have hGH := h.hold
  obtain ⟨V, hV⟩ : ∃ V, V = w.alloc (.cells zeroP 92) := ⟨_, rfl⟩
  have hBV : Below w.heap.size w V := by rw [hV]; exact (Below.refl _ _).alloc (Nat.le_refl _) _
  have hYV : V.heap[w.heap.size]? = some (.cells zeroP 92 (0, 0)) := by rw [hV]; exact heap_alloc_new _ _
  have hrV := h.below hBV
  have hgno : gno c = c.no := by unfold gno; rw [hop]; rfl
  have hyc := h.keeps hop
  subst hyc
  obtain ⟨⟨k0, k1, k2, k3⟩, ⟨k4, k5, k6, k7⟩, kf⟩ := eightH hGH h.o.blk
  obtain ⟨⟨j0, j1, j2, j3⟩, ⟨j4, j5, j6, j7⟩, jf⟩ := eightH hGH hrV.o.blk
  have hXl := h.o.lt
  have hXV : X < V.heap.size := hrV.o.lt
  have hzV : V.heap.size = w.heap.size + 1 := by rw [hV]; simp
  rw [hop] at k6
  rw [hgno] at j1
  obtain ⟨⟨r0, r1, r2, r3⟩, ⟨r4, r5, r6, r7, r8⟩, rf⟩ := nine hYV
  obtain ⟨hs1, hs2⟩ := set9 (w := V) (a0 := .bool false) (a1 := .int .i64 c.me) (a2 := .int .i64 c.no) (a3 := .int .i64 c.call.kind) (a4 := .string c.call.name) (a5 := .string c.call.dst) (a6 := .string c.call.text) (a7 := .int .i64 0) (a8 := .string ⟨#[]⟩) hYV
  have hB5 := hBV.trans (hs2.below (by omega) (by simp))
  obtain ⟨W9, hW9⟩ : ∃ W, W = (((((((((V.setCell ⟨w.heap.size, 0, none⟩ (.bool false)).setCell ⟨w.heap.size, 1, none⟩ (.int .i64 c.me)).setCell ⟨w.heap.size, 2, none⟩ (.int .i64 c.no)).setCell ⟨w.heap.size, 3, none⟩ (.int .i64 c.call.kind)).setCell ⟨w.heap.size, 4, none⟩ (.string c.call.name)).setCell ⟨w.heap.size, 5, none⟩ (.string c.call.dst)).setCell ⟨w.heap.size, 6, none⟩ (.string c.call.text)).setCell ⟨w.heap.size, 7, none⟩ (.int .i64 0)).setCell ⟨w.heap.size, 8, none⟩ (.string ⟨#[]⟩)) := ⟨_, rfl⟩
  rw [← hW9] at hs1 hs2 hB5
  have HB5 := hide hB5.drew
  obtain ⟨⟨z0, z1, z2, z3⟩, ⟨z4, z5, z6, z7, z8⟩, _⟩ := nine hs1
  have hXne : w.heap.size ≠ X := by omega
  have HV := hide hV
  generalize c.no = cno at *
  obtain ⟨me, done, ⟨ck, ca, cb, ct⟩, op⟩ := c
  dsimp only [zeroP, zeroPkt, APkt.val] at *
  have HW9 := hide hW9
  clear h hBV hYV hrV hV hop k0 k1 k2 k3 k4 k5 k7 kf j6 j7 hgno hs1 hs2 hB5 hW9
  go_enter Tryz.func51, Tryz.ntmps51
  go_wp2_with fail
  rw [← unhide HV]
  clear k6
  go_region_held3 (fun W => W.cell? ⟨X, O, none⟩ = some (.int .i64 me) ∧ W.cell? ⟨X, O + 1, none⟩ = some (.int .i64 cno) ∧ W.cell? ⟨X, O + 2, none⟩ = some (.int .i64 ck) ∧ W.cell? ⟨X, O + 3, none⟩ = some (.string ca) ∧ W.cell? ⟨X, O + 4, none⟩ = some (.string cb) ∧ W.cell? ⟨X, O + 5, none⟩ = some (.string ct)) (first | (go_keep; done) | (simp [World.cell?_setCell_far, hXne, j0, j1, j2, j3, j4, j5]; done)) (fail)
  all_goals
    rw [← unhide HW9]
    clear r0 r1 r2 r3 r4 r5 r6 r7 r8 rf j0 j1 j2 j3 j4 j5 jf
    go_wp2
    refine bodyPost_ret (v := .tuple #[.agg #[.bool false, .int .i64 me, .int .i64 cno, .int .i64 ck, .string ca, .string cb, .string ct, .int .i64 0, .string ⟨#[]⟩], .bool true]) (by simp [results, Tryz.results51, go_sem, z0, z1, z2, z3, z4, z5, z6, z7, z8]) rfl ⟨rfl, unhide HB5⟩
theorem GSend_anyH {N : Nat} {w : World} {X : Nat} {v : Value} {c : ACli} {y : ACall} (h : GRepH F tyH O N w X v c y) :
    Calls Tryz.prog 51 #[.pointer (some ⟨X, O, none⟩)] w fun e w' => e = .returned (.tuple #[c.pkt.val, .bool c.op]) ∧ Below w.heap.size w w' := by
  unfold ACli.pkt
  cases hop : c.op
  · exact GSend_noneH h hop
  · exact GSend_someH h hop
variable {F : List Value → Array Value} {tyH : TypeId} {O : Nat}
set_option maxRecDepth 100000 in
set_option maxHeartbeats 4000000 in
theorem GHear_noneH {N : Nat} {w : World} {X : Nat} {v : Value} {c : ACli} {y : ACall} (h : GRepH F tyH O N w X v c y) (p : APkt) (hp : c.hears p = false) :
    Calls Tryz.prog 77 #[.pointer (some ⟨X, O, none⟩), p.val] w fun e w' => e = .returned (.bool false) ∧ GTurnH F tyH N w X v w' c y := by
  have hGH := h.hold
  obtain ⟨V, hV⟩ : ∃ V, V = w.alloc (.cells (pArr p) 92) := ⟨_, rfl⟩
  have hBV : Below w.heap.size w V := by rw [hV]; exact (Below.refl _ _).alloc (Nat.le_refl _) _
  have hXV : V.heap[w.heap.size]? = some (.cells (pArr p) 92 (0, 0)) := by rw [hV]; exact heap_alloc_new _ _
  have hrV := h.below hBV
  have HT : Hid (∀ n, GTurnH F tyH N w X v (V.drewN n) c y) := fun n => OTurn.of_below h.o (hBV.trans ⟨rfl, rfl, rfl, Nat.le_refl _, fun _ _ => rfl⟩)
  have hE := fun W => eql32 p.call y W
  have hgno : c.op = true → gno c = c.no := fun e => by unfold gno; rw [if_pos e]
  have hky := h.keeps
  obtain ⟨⟨k0, k1, k2, k3⟩, ⟨k4, k5, k6, k7⟩, kf⟩ := eightH hGH hrV.o.blk
  unfold ACli.hears at hp
  generalize c.no = cno at *
  generalize gno c = gn at *
  obtain ⟨me, done, cl, op⟩ := c
  obtain ⟨r, pc, pn, ⟨pk, s1, s2, s3⟩, d, u⟩ := p
  dsimp only [APkt.val, pArr, callCells] at *
  obtain ⟨⟨x0, x1, x2, x3⟩, ⟨x4, x5, x6, x7, x8⟩, xf⟩ := nine hXV
  have HV := hide hV
  clear h hBV hXV hrV hV xf kf k7
  cases op
  · clear hp hgno hky hE
    skip
    go_enter Tryz.func77, Tryz.ntmps77
    go_wp2_with fail
    rw [← unhide HV]
    go_quiet (fail)
    go_wp2
    go_ret
    exact ⟨rfl, (unhide HT) _⟩
  have hgn := hgno rfl
  have hyc := hky rfl
  subst hgn hyc
  cases r
  · clear hp hgno hky hE
    go_enter Tryz.func77, Tryz.ntmps77
    go_wp2_with fail
    rw [← unhide HV]
    go_quiet (fail)
    go_wp2
    go_ret
    exact ⟨rfl, (unhide HT) _⟩
  cases hc : (pc == me)
  · clear hp hgno hky hE
    go_enter Tryz.func77, Tryz.ntmps77
    go_wp2_with fail
    rw [← unhide HV]
    go_quiet (fail)
    go_wp2
    go_ret
    exact ⟨rfl, (unhide HT) _⟩
  cases hn : (pn == gn)
  · clear hp hgno hky hE
    go_enter Tryz.func77, Tryz.ntmps77
    go_wp2_with fail
    rw [← unhide HV]
    go_quiet (fail)
    go_wp2
    go_ret
    exact ⟨rfl, (unhide HT) _⟩
  have hcb : callB ⟨pk, s1, s2, s3⟩ y = false := by
    rw [hc, hn] at hp
    simpa using hp
  rw [hcb] at hE
  clear hp hgno hky hcb
  go_enter Tryz.func77, Tryz.ntmps77
  go_wp2_with fail
  rw [← unhide HV]
  go_quiet (fail)
  go_wp2
  go_ret
  exact ⟨rfl, (unhide HT) _⟩
set_option maxRecDepth 100000 in
set_option maxHeartbeats 4000000 in
theorem GHear_someH {N : Nat} {w : World} {X : Nat} {v : Value} {c : ACli} {y : ACall} (h : GRepH F tyH O N w X v c y) (p : APkt) (hsm : SmallP p) (hp : c.hears p = true) :
    Calls Tryz.prog 77 #[.pointer (some ⟨X, O, none⟩), p.val] w fun e w' => e = .returned (.bool true) ∧ GTurnH F tyH N w X v w' (c.heard p) y := by
  have hGH := h.hold
  have e2 : c.heard p = ⟨c.me, c.done ++ [c.rcd p], zeroCall, false⟩ := by unfold ACli.heard; rw [if_pos hp]
  rw [e2]
  clear e2
  obtain ⟨hop, hr, hcm, hpn, hpc⟩ : c.op = true ∧ p.reply = true ∧ p.client = c.me ∧ p.no = c.no ∧ p.call = c.call := by
    unfold ACli.hears at hp
    simp only [Bool.and_eq_true] at hp
    exact ⟨hp.1.1.1.1, hp.1.1.1.2, by simpa using hp.1.1.2, by simpa using hp.1.2, (callB_iff _ _).1 hp.2⟩
  have hyc := h.keeps hop
  rw [← hyc] at hpc
  have hgno : gno c = c.no := by unfold gno; rw [if_pos hop]
  obtain ⟨V, hV⟩ : ∃ V, V = w.alloc (.cells (pArr p) 92) := ⟨_, rfl⟩
  have hBV : Below w.heap.size w V := by rw [hV]; exact (Below.refl _ _).alloc (Nat.le_refl _) _
  have hXV : V.heap[w.heap.size]? = some (.cells (pArr p) 92 (0, 0)) := by rw [hV]; exact heap_alloc_new _ _
  have hrV := h.below hBV
  have hE := fun W => eql32 p.call y W
  rw [← hpc] at hE
  rw [callB_self] at hE
  have hXl : X < V.heap.size := hrV.o.lt
  have hzV : V.heap.size = w.heap.size + 1 := by rw [hV]; simp
  have hroom := h.ok.room hop
  obtain ⟨k, hk⟩ : ∃ k, c.done.length = k := ⟨_, rfl⟩
  rw [hk] at hroom
  obtain ⟨a, cap, hv⟩ := h.o.form
  rw [hk] at hv
  subst hv
  have HF : Hid (∀ W, Below V.heap.size V W → W.heap[X]? = some (.cells (F [.int .i64 c.me, .int .i64 c.no, .int .i64 p.call.kind, .string p.call.name, .string p.call.dst, .string p.call.text, .bool true, .slice a k cap]) tyH (0, 0)) ∧ W.heap[w.heap.size]? = some (.cells (pArr p) 92 (0, 0))) := fun W hW => by
    have := (hrV.below hW).o.blk
    unfold gcellsH at this
    rw [hop, hgno, ← hpc] at this
    exact ⟨this, (hW.block _ (by omega)).trans hXV⟩
  have HOR : Hid (∀ wx, Below V.heap.size V wx → wx.ownsRow N 61 8 (.slice a k cap) k (c.done.flatMap rcells)) := fun wx hb => by have := (hrV.below hb).o.row; rw [hk] at this; exact this
  have HH := hide h
  have nB := h.o.nd
  have hXw : X < w.heap.size := h.o.lt
  have nP : (Value.slice a k cap).ownBlock ≠ some w.heap.size := fun e => by have := (h.o.row.lt _ e).2; omega
  have HNN : Hid (N ≤ V.heap.size) := hrV.o.size
  have HBV := hide hBV
  have HV := hide hV
  have HK := hide hk
  have hrc : c.rcd p = ⟨c.me, c.no, y, p.code, p.ans⟩ := by unfold ACli.rcd; rw [hyc]
  rw [hrc]
  have HGN : Hid (c.no = ((c.done.length + 1 : Nat) : Int)) := by unfold ACli.no; simp [Hid]
  obtain ⟨i0, hi0, hz0, hz1, hz2⟩ := info_parts info61
  generalize c.no = cno at *
  obtain ⟨me, done, cl, op⟩ := c
  obtain ⟨r, pc, pn, ⟨pk, s1, s2, s3⟩, d, u⟩ := p
  dsimp only [APkt.val, pArr, callCells] at *
  subst hr hcm hpn hop hpc
  clear h hBV hrV hV hp hsm hyc hgno hk hrc hXV
  obtain ⟨hX0, hP0⟩ := (unhide HF) V (Below.refl _ _)
  obtain ⟨⟨k0, k1, k2, k3⟩, ⟨k4, k5, k6, k7⟩, kf⟩ := eightH hGH hX0
  obtain ⟨⟨x0, x1, x2, x3⟩, ⟨x4, x5, x6, x7, x8⟩, xf⟩ := nine hP0
  clear hX0 hP0
  go_enter Tryz.func77, Tryz.ntmps77
  go_wp2_with fail
  rw [← unhide HV]
  go_quiet (fail)
  clear k0 k1 k2 k3 k4 k5 k6 k7 kf x0 x1 x2 x3 x4 x5 x6 x7 x8 xf
  go_wp2_with fail
  generalize hg : World.drewN V _ = V2
  have hb2 : Below V.heap.size V V2 := by rw [← hg]; exact ⟨rfl, rfl, rfl, Nat.le_refl _, fun _ _ => rfl⟩
  clear hg
  have hz2V := hb2.size
  obtain ⟨hX0, hP0⟩ := (unhide HF) V2 hb2
  obtain ⟨⟨k0, k1, k2, k3⟩, ⟨k4, k5, k6, k7⟩, kf⟩ := eightH hGH hX0
  obtain ⟨⟨x0, x1, x2, x3⟩, ⟨x4, x5, x6, x7, x8⟩, xf⟩ := nine hP0
  have hXl2 : X < V2.heap.size := by omega
  have hPl2 : w.heap.size < V2.heap.size := by omega
  refine wp_region_held_drew (S := (fun wx => wx.cell? ⟨X, O, none⟩ = some (.int .i64 pc) ∧ wx.cell? ⟨X, O + 1, none⟩ = some (.int .i64 pn) ∧ wx.cell? ⟨X, O + 2, none⟩ = some (.int .i64 pk) ∧ wx.cell? ⟨X, O + 3, none⟩ = some (.string s1) ∧ wx.cell? ⟨X, O + 4, none⟩ = some (.string s2) ∧ wx.cell? ⟨X, O + 5, none⟩ = some (.string s3) ∧ wx.cell? ⟨w.heap.size, 7, none⟩ = some (.int .i64 d) ∧ wx.cell? ⟨w.heap.size, 8, none⟩ = some (.string u))) (by kernel_rfl) ⟨k0, k1, k2, k3, k4, k5, x7, x8⟩ (fun hHeld => ?_)
  refine tkH ?_ opn0 (fun _ _ _ h => h) hHeld ?_ ?_
  rotate_left 1
  · intro wz hSw; (try dsimp only at hSw); go_simp; all_goals with_reducible rfl
  try simp only [pS]
  refine tkH ?_ opn1 (fun _ _ _ h => h) hHeld ?_ ?_
  rotate_left 1
  · intro wz hSw; (try dsimp only at hSw); go_simp; all_goals with_reducible rfl
  try simp only [pS]
  refine tkH ?_ opn2 (fun _ _ _ h => h) hHeld ?_ ?_
  rotate_left 1
  · intro wz hSw; (try dsimp only at hSw); go_simp; all_goals with_reducible rfl
  try simp only [pS]
  refine tkH ?_ opn3 (fun _ _ _ h => h) hHeld ?_ ?_
  rotate_left 1
  · intro wz hSw; (try dsimp only at hSw); go_simp; all_goals with_reducible rfl
  try simp only [pS]
  refine tkH ?_ opn5 (fun _ _ _ h => h) hHeld ?_ ?_
  rotate_left 1
  · intro wz hSw; (try dsimp only at hSw); go_simp; all_goals with_reducible rfl
  try simp only [pS]
  refine tkH ?_ opn6 (fun _ _ _ h => h) hHeld ?_ ?_
  rotate_left 1
  · intro wz hSw; (try dsimp only at hSw); go_simp; all_goals with_reducible rfl
  try simp only [pS]
  refine tkH ?_ opn7 (fun _ _ _ h => h) hHeld ?_ ?_
  rotate_left 1
  · intro wz hSw; (try dsimp only at hSw); go_simp; all_goals with_reducible rfl
  try simp only [pS]
  refine tkH ?_ opn8 (fun _ _ _ h => h) hHeld ?_ ?_
  rotate_left 1
  · intro wz hSw; (try dsimp only at hSw)
    obtain ⟨e0, e1, e2, e3, e4, e5, e7, e8⟩ := hSw
    go_simp; all_goals with_reducible rfl
  try simp only [pS]
  refine tkH ?_ opn9 (fun _ _ _ h => h) hHeld ?_ ?_
  rotate_left 1
  · intro wz hSw; (try dsimp only at hSw); go_simp; all_goals with_reducible rfl
  try simp only [pS]
  refine tkH ?_ opn10 (fun _ _ _ h => h) hHeld ?_ ?_
  rotate_left 1
  · intro wz hSw; (try dsimp only at hSw); go_simp; all_goals with_reducible rfl
  try simp only [pS]
  refine tkH ?_ opn11 (fun _ _ _ h => h) hHeld ?_ ?_
  rotate_left 1
  · intro wz hSw; (try dsimp only at hSw); go_simp; all_goals with_reducible rfl
  try simp only [pS]
  refine tkH ?_ opn12 (fun _ _ _ h => h) hHeld ?_ ?_
  rotate_left 1
  · intro wz hSw; (try dsimp only at hSw)
    obtain ⟨e0, e1, e2, e3, e4, e5, e7, e8⟩ := hSw
    go_simp; all_goals with_reducible rfl
  try simp only [pS]
  refine tkH ?_ opn13 (fun _ _ _ h => h) hHeld ?_ ?_
  rotate_left 1
  · intro wz hSw; (try dsimp only at hSw); go_simp; all_goals with_reducible rfl
  try simp only [pS]
  refine tkH ?_ opn14 (fun _ _ _ h => h) hHeld ?_ ?_
  rotate_left 1
  · intro wz hSw; (try dsimp only at hSw); go_simp; all_goals with_reducible rfl
  try simp only [pS]
  refine tkH ?_ opn15 (fun _ _ _ h => h) hHeld ?_ ?_
  rotate_left 1
  · intro wz hSw; (try dsimp only at hSw); go_simp; all_goals with_reducible rfl
  try simp only [pS]
  refine tkH ?_ opn16 (fun _ _ _ h => h) hHeld ?_ ?_
  rotate_left 1
  · intro wz hSw; (try dsimp only at hSw)
    obtain ⟨e0, e1, e2, e3, e4, e5, e7, e8⟩ := hSw
    go_simp; all_goals with_reducible rfl
  try simp only [pS]
  refine tkH ?_ opn17 (fun _ _ _ h => h) hHeld ?_ ?_
  rotate_left 1
  · intro wz hSw; (try dsimp only at hSw); go_simp; all_goals with_reducible rfl
  try simp only [pS]
  refine tkH ?_ opn18 (fun _ _ _ h => h) hHeld ?_ ?_
  rotate_left 1
  · intro wz hSw; (try dsimp only at hSw)
    obtain ⟨e0, e1, e2, e3, e4, e5, e7, e8⟩ := hSw
    go_simp; all_goals with_reducible rfl
  try simp only [pS]
  refine tkH ?_ opn19 (fun _ _ _ h => h) hHeld ?_ ?_
  rotate_left 1
  · intro wz hSw; (try dsimp only at hSw); go_simp; all_goals with_reducible rfl
  try simp only [pS]
  refine wpAnyH_ready (rs := [4, 20]) (by kernel_rfl) (by simp) ?_
  refine AllReadyH.cons opn4 (fun K hK => ?_) (AllReadyH.cons opn20 (fun K hK => ?_) AllReadyH.nil)
  · go_simp
    refine hK.out _ _ hHeld (fun hHeldN => ?_)
    clear hHeld hK K; have hHeld := hHeldN; clear hHeldN
    try simp only [pS]
    refine wpAnyH_ready (rs := [20]) (by kernel_rfl) (by simp) ?_
    refine AllReadyH.cons opn20 (fun K hK => ?_) AllReadyH.nil
    go_simp
    have hba : Below V2.heap.size V2 (V2.alloc (.cells #[.int .i64 pc, .int .i64 pn, .int .i64 pk, .string s1, .string s2, .string s3, .int .i64 d, .string u] 61)).drew := below_alloc_drew V2 _
    have c7 := (hba.cell (p := ⟨X, O + 7, none⟩) hXl2).trans k7
    refine hK.out _ _ ⟨(hba.cell (p := ⟨X, O, none⟩) hXl2).trans k0, (hba.cell (p := ⟨X, O + 1, none⟩) hXl2).trans k1, (hba.cell (p := ⟨X, O + 2, none⟩) hXl2).trans k2, (hba.cell (p := ⟨X, O + 3, none⟩) hXl2).trans k3, (hba.cell (p := ⟨X, O + 4, none⟩) hXl2).trans k4, (hba.cell (p := ⟨X, O + 5, none⟩) hXl2).trans k5, (hba.cell (p := ⟨w.heap.size, 7, none⟩) hPl2).trans x7, (hba.cell (p := ⟨w.heap.size, 8, none⟩) hPl2).trans x8⟩ (fun hHeldN => ?_)
    clear hHeld hK K; have hHeld := hHeldN; clear hHeldN
    try simp only [pS]
    have hVW := hb2.trans (hba.mono hz2V)
    have HLs := hide (alloc_drew_new V2 (.cells #[.int .i64 pc, .int .i64 pn, .int .i64 pk, .string s1, .string s2, .string s3, .int .i64 d, .string u] 61))
    obtain ⟨hXW, hPW⟩ := (unhide HF) _ hVW
    have HOW := hide ((unhide HOR) _ hVW)
    have hzW : (V2.alloc (.cells #[.int .i64 pc, .int .i64 pn, .int .i64 pk, .string s1, .string s2, .string s3, .int .i64 d, .string u] 61)).drew.heap.size = V2.heap.size + 1 := by show (V2.alloc (.cells #[.int .i64 pc, .int .i64 pn, .int .i64 pk, .string s1, .string s2, .string s3, .int .i64 d, .string u] 61)).heap.size = _; simp
    have HVW := hide hVW
    have HWX := hide hXW
    have HWP := hide hPW
    clear hba c7 hVW hXW hPW k0 k1 k2 k3 k4 k5 k6 k7 kf x0 x1 x2 x3 x4 x5 x6 x7 x8 xf
    generalize (V2.alloc (.cells #[.int .i64 pc, .int .i64 pn, .int .i64 pk, .string s1, .string s2, .string s3, .int .i64 d, .string u] 61)).drew = W at *
    refine wpAnyH_ready (rs := [21]) (by kernel_rfl) (by simp) ?_
    refine AllReadyH.cons opn21 (fun K hK => ?_) AllReadyH.nil
    refine step_append_lies _ (by rfl) _ _ _ (by rfl) N 61 i0 _ 8 96 Tryz.underlying33 hi0 hz0 hz1 hz2 rfl (by omega) (.slice a k cap) k (done.flatMap rcells) (by rfl) (unhide HOW) ⟨V2.heap.size, 0, none⟩ 1 1 [.int .i64 pc, .int .i64 pn, .int .i64 pk, .string s1, .string s2, .string s3, .int .i64 d, .string u] (by rfl) (by rfl) (World.news_of_block (cs := #[.int .i64 pc, .int .i64 pn, .int .i64 pk, .string s1, .string s2, .string s3, .int .i64 d, .string u]) (t := 61) (fr := (0, 0)) (unhide HLs)) (by simp [Value.oneCell']) (by omega) (by unfold maxLen; omega) (by omega) (by have h4 := unhide HNN; omega) (V2.heap.size + 1) (by omega) ?_
    intro g cap' w5 hown2 hgrow hat hlt
    have hX5 := (hgrow.block X (by omega) (fun e => nB e.symm)).trans (unhide HWX)
    have hP5 := (hgrow.block w.heap.size (by omega) (fun e => nP e.symm)).trans (unhide HWP)
    obtain ⟨⟨k0, k1, k2, k3⟩, ⟨k4, k5, k6, k7⟩, kf⟩ := eightH hGH hX5
    obtain ⟨⟨x0, x1, x2, x3⟩, ⟨x4, x5, x6, x7, x8⟩, xf⟩ := nine hP5
    have kf7 := kf (O + 7)
    clear kf xf
    refine hK.out _ _ ⟨k0, k1, k2, k3, k4, k5, x7, x8⟩ (fun hHeldN => ?_)
    clear hHeld hK K; have hHeld := hHeldN; clear hHeldN
    try simp only [pS]
    refine tkH ?_ opn22 (fun _ _ _ h => h) hHeld ?_ ?_
    rotate_left 1
    · intro wz hSw; (try dsimp only at hSw); go_simp; all_goals with_reducible rfl
    try simp only [pS]
    refine tkH ?_ opn23 (fun _ _ _ h => h) hHeld ?_ ?_
    rotate_left 1
    · intro wz hSw; (try dsimp only at hSw); go_simp; all_goals with_reducible rfl
    try simp only [pS]
    refine wpAnyH_ready (rs := [24]) (by kernel_rfl) (by simp) ?_
    refine AllReadyH.cons opn24 (fun K hK => ?_) AllReadyH.nil
    go_simp
    have hX6 : (w5.setCell ⟨X, O + 7, none⟩ (.slice (some ⟨g, 0, none⟩) (k + 1) cap')).heap[X]? = some (.cells (F [.int .i64 pc, .int .i64 pn, .int .i64 pk, .string s1, .string s2, .string s3, .bool true, .slice (some ⟨g, 0, none⟩) (k + 1) cap']) tyH (0, 0)) := setH hGH hX5 (i := 7) (by decide) _
    have hP6 := (Below.heap_setCell w5 ⟨X, O + 7, none⟩ (.slice (some ⟨g, 0, none⟩) (k + 1) cap') w.heap.size (by simp; omega)).trans hP5
    have hk6 := kept_setCell [X] w5 X (O + 7) (.slice (some ⟨g, 0, none⟩) (k + 1) cap') (by simp)
    clear k0 k1 k2 k3 k4 k5 k6 k7 kf7 x0 x1 x2 x3 x4 x5 x6 x7 x8
    obtain ⟨⟨k0, k1, k2, k3⟩, ⟨k4, k5, k6, k7⟩, kf⟩ := eightH hGH hX6
    obtain ⟨⟨x0, x1, x2, x3⟩, ⟨x4, x5, x6, x7, x8⟩, xf⟩ := nine hP6
    refine hK.out _ _ ⟨k0, k1, k2, k3, k4, k5, x7, x8⟩ (fun hHeldN => ?_)
    clear hHeld hK K; have hHeld := hHeldN; clear hHeldN
    try simp only [pS]
    refine wpAnyH_done (by kernel_rfl) ?_ _
    clear hHeld
    obtain ⟨W6, hW6⟩ : ∃ W6, W6 = w5.setCell ⟨X, O + 7, none⟩ (.slice (some ⟨g, 0, none⟩) (k + 1) cap') := ⟨_, rfl⟩
    rw [← hW6] at hX6 hk6 k0 k1 k2 k3 k4 k5 k6 k7
    rw [← hW6]
    have kf6 : W6.frozen? ⟨X, O + 6, none⟩ = false := by rw [hW6]; exact kf (O + 6)
    have hX7 : (W6.setCell ⟨X, O + 6, none⟩ (.bool false)).heap[X]? = some (.cells (F [.int .i64 pc, .int .i64 pn, .int .i64 pk, .string s1, .string s2, .string s3, .bool false, .slice (some ⟨g, 0, none⟩) (k + 1) cap']) tyH (0, 0)) := setH hGH hX6 (i := 6) (by decide) _
    have hk7 := hk6.trans (kept_setCell [X] W6 X (O + 6) (.bool false) (by simp)) (fun x hx => .inl hx)
    have hbw := (unhide HBV).trans ((unhide HVW).mono (unhide HBV).size)
    have hrW := (unhide HH).below hbw
    have e2 : gno ⟨pc, done ++ [⟨pc, pn, ⟨pk, s1, s2, s3⟩, d, u⟩], zeroCall, false⟩ = pn := by unfold gno; rw [if_neg (by simp)]; rw [unhide HGN]; simp
    have hX8 : (W6.setCell ⟨X, O + 6, none⟩ (.bool false)).heap[X]? = some (.cells (gcellsH F ⟨pc, done ++ [⟨pc, pn, ⟨pk, s1, s2, s3⟩, d, u⟩], zeroCall, false⟩ ⟨pk, s1, s2, s3⟩ (.slice (some ⟨g, 0, none⟩) (k + 1) cap')) tyH (0, 0)) := by unfold gcellsH; rw [e2]; exact hX7
    have hT : GTurnH F tyH N W X (.slice a k cap) _ ⟨pc, done ++ [⟨pc, pn, ⟨pk, s1, s2, s3⟩, d, u⟩], zeroCall, false⟩ ⟨pk, s1, s2, s3⟩ := hrW.o.push (f' := gcellsH F ⟨pc, done ++ [⟨pc, pn, ⟨pk, s1, s2, s3⟩, d, u⟩], zeroCall, false⟩ ⟨pk, s1, s2, s3⟩) (n := k + 1) (r := ⟨pc, pn, ⟨pk, s1, s2, s3⟩, d, u⟩) hgrow (by rw [unhide HK]) hown2 (by rw [hzW]; exact hat) hk7 hX8
    have HT := hide (hT.before hbw)
    clear hT hX7 hX8 e2 hk7 hbw hrW hX6 hk6 hW6 hP6 hP5 hX5 hown2 hgrow hat hlt x0 x1 x2 x3 x4 x5 x6 x7 x8 xf kf k0 k1 k2 k3 k4 k5 k7
    go_wp2
    go_ret
    exact ⟨rfl, unhide HT⟩
  · go_simp
    have hba : Below V2.heap.size V2 (V2.alloc (.cells #[.int .i64 pc, .int .i64 pn, .int .i64 pk, .string s1, .string s2, .string s3, .int .i64 d, .string u] 61)).drew := below_alloc_drew V2 _
    have c7 := (hba.cell (p := ⟨X, O + 7, none⟩) hXl2).trans k7
    refine hK.out _ _ ⟨(hba.cell (p := ⟨X, O, none⟩) hXl2).trans k0, (hba.cell (p := ⟨X, O + 1, none⟩) hXl2).trans k1, (hba.cell (p := ⟨X, O + 2, none⟩) hXl2).trans k2, (hba.cell (p := ⟨X, O + 3, none⟩) hXl2).trans k3, (hba.cell (p := ⟨X, O + 4, none⟩) hXl2).trans k4, (hba.cell (p := ⟨X, O + 5, none⟩) hXl2).trans k5, (hba.cell (p := ⟨w.heap.size, 7, none⟩) hPl2).trans x7, (hba.cell (p := ⟨w.heap.size, 8, none⟩) hPl2).trans x8⟩ (fun hHeldN => ?_)
    clear hHeld hK K; have hHeld := hHeldN; clear hHeldN
    try simp only [pS]
    refine wpAnyH_ready (rs := [4]) (by kernel_rfl) (by simp) ?_
    refine AllReadyH.cons opn4 (fun K hK => ?_) AllReadyH.nil
    go_simp
    refine hK.out _ _ hHeld (fun hHeldN => ?_)
    clear hHeld hK K; have hHeld := hHeldN; clear hHeldN
    try simp only [pS]
    have hVW := hb2.trans (hba.mono hz2V)
    have HLs := hide (alloc_drew_new V2 (.cells #[.int .i64 pc, .int .i64 pn, .int .i64 pk, .string s1, .string s2, .string s3, .int .i64 d, .string u] 61))
    obtain ⟨hXW, hPW⟩ := (unhide HF) _ hVW
    have HOW := hide ((unhide HOR) _ hVW)
    have hzW : (V2.alloc (.cells #[.int .i64 pc, .int .i64 pn, .int .i64 pk, .string s1, .string s2, .string s3, .int .i64 d, .string u] 61)).drew.heap.size = V2.heap.size + 1 := by show (V2.alloc (.cells #[.int .i64 pc, .int .i64 pn, .int .i64 pk, .string s1, .string s2, .string s3, .int .i64 d, .string u] 61)).heap.size = _; simp
    have HVW := hide hVW
    have HWX := hide hXW
    have HWP := hide hPW
    clear hba c7 hVW hXW hPW k0 k1 k2 k3 k4 k5 k6 k7 kf x0 x1 x2 x3 x4 x5 x6 x7 x8 xf
    generalize (V2.alloc (.cells #[.int .i64 pc, .int .i64 pn, .int .i64 pk, .string s1, .string s2, .string s3, .int .i64 d, .string u] 61)).drew = W at *
    refine wpAnyH_ready (rs := [21]) (by kernel_rfl) (by simp) ?_
    refine AllReadyH.cons opn21 (fun K hK => ?_) AllReadyH.nil
    refine step_append_lies _ (by rfl) _ _ _ (by rfl) N 61 i0 _ 8 96 Tryz.underlying33 hi0 hz0 hz1 hz2 rfl (by omega) (.slice a k cap) k (done.flatMap rcells) (by rfl) (unhide HOW) ⟨V2.heap.size, 0, none⟩ 1 1 [.int .i64 pc, .int .i64 pn, .int .i64 pk, .string s1, .string s2, .string s3, .int .i64 d, .string u] (by rfl) (by rfl) (World.news_of_block (cs := #[.int .i64 pc, .int .i64 pn, .int .i64 pk, .string s1, .string s2, .string s3, .int .i64 d, .string u]) (t := 61) (fr := (0, 0)) (unhide HLs)) (by simp [Value.oneCell']) (by omega) (by unfold maxLen; omega) (by omega) (by have h4 := unhide HNN; omega) (V2.heap.size + 1) (by omega) ?_
    intro g cap' w5 hown2 hgrow hat hlt
    have hX5 := (hgrow.block X (by omega) (fun e => nB e.symm)).trans (unhide HWX)
    have hP5 := (hgrow.block w.heap.size (by omega) (fun e => nP e.symm)).trans (unhide HWP)
    obtain ⟨⟨k0, k1, k2, k3⟩, ⟨k4, k5, k6, k7⟩, kf⟩ := eightH hGH hX5
    obtain ⟨⟨x0, x1, x2, x3⟩, ⟨x4, x5, x6, x7, x8⟩, xf⟩ := nine hP5
    have kf7 := kf (O + 7)
    clear kf xf
    refine hK.out _ _ ⟨k0, k1, k2, k3, k4, k5, x7, x8⟩ (fun hHeldN => ?_)
    clear hHeld hK K; have hHeld := hHeldN; clear hHeldN
    try simp only [pS]
    refine tkH ?_ opn22 (fun _ _ _ h => h) hHeld ?_ ?_
    rotate_left 1
    · intro wz hSw; (try dsimp only at hSw); go_simp; all_goals with_reducible rfl
    try simp only [pS]
    refine tkH ?_ opn23 (fun _ _ _ h => h) hHeld ?_ ?_
    rotate_left 1
    · intro wz hSw; (try dsimp only at hSw); go_simp; all_goals with_reducible rfl
    try simp only [pS]
    refine wpAnyH_ready (rs := [24]) (by kernel_rfl) (by simp) ?_
    refine AllReadyH.cons opn24 (fun K hK => ?_) AllReadyH.nil
    go_simp
    have hX6 : (w5.setCell ⟨X, O + 7, none⟩ (.slice (some ⟨g, 0, none⟩) (k + 1) cap')).heap[X]? = some (.cells (F [.int .i64 pc, .int .i64 pn, .int .i64 pk, .string s1, .string s2, .string s3, .bool true, .slice (some ⟨g, 0, none⟩) (k + 1) cap']) tyH (0, 0)) := setH hGH hX5 (i := 7) (by decide) _
    have hP6 := (Below.heap_setCell w5 ⟨X, O + 7, none⟩ (.slice (some ⟨g, 0, none⟩) (k + 1) cap') w.heap.size (by simp; omega)).trans hP5
    have hk6 := kept_setCell [X] w5 X (O + 7) (.slice (some ⟨g, 0, none⟩) (k + 1) cap') (by simp)
    clear k0 k1 k2 k3 k4 k5 k6 k7 kf7 x0 x1 x2 x3 x4 x5 x6 x7 x8
    obtain ⟨⟨k0, k1, k2, k3⟩, ⟨k4, k5, k6, k7⟩, kf⟩ := eightH hGH hX6
    obtain ⟨⟨x0, x1, x2, x3⟩, ⟨x4, x5, x6, x7, x8⟩, xf⟩ := nine hP6
    refine hK.out _ _ ⟨k0, k1, k2, k3, k4, k5, x7, x8⟩ (fun hHeldN => ?_)
    clear hHeld hK K; have hHeld := hHeldN; clear hHeldN
    try simp only [pS]
    refine wpAnyH_done (by kernel_rfl) ?_ _
    clear hHeld
    obtain ⟨W6, hW6⟩ : ∃ W6, W6 = w5.setCell ⟨X, O + 7, none⟩ (.slice (some ⟨g, 0, none⟩) (k + 1) cap') := ⟨_, rfl⟩
    rw [← hW6] at hX6 hk6 k0 k1 k2 k3 k4 k5 k6 k7
    rw [← hW6]
    have kf6 : W6.frozen? ⟨X, O + 6, none⟩ = false := by rw [hW6]; exact kf (O + 6)
    have hX7 : (W6.setCell ⟨X, O + 6, none⟩ (.bool false)).heap[X]? = some (.cells (F [.int .i64 pc, .int .i64 pn, .int .i64 pk, .string s1, .string s2, .string s3, .bool false, .slice (some ⟨g, 0, none⟩) (k + 1) cap']) tyH (0, 0)) := setH hGH hX6 (i := 6) (by decide) _
    have hk7 := hk6.trans (kept_setCell [X] W6 X (O + 6) (.bool false) (by simp)) (fun x hx => .inl hx)
    have hbw := (unhide HBV).trans ((unhide HVW).mono (unhide HBV).size)
    have hrW := (unhide HH).below hbw
    have e2 : gno ⟨pc, done ++ [⟨pc, pn, ⟨pk, s1, s2, s3⟩, d, u⟩], zeroCall, false⟩ = pn := by unfold gno; rw [if_neg (by simp)]; rw [unhide HGN]; simp
    have hX8 : (W6.setCell ⟨X, O + 6, none⟩ (.bool false)).heap[X]? = some (.cells (gcellsH F ⟨pc, done ++ [⟨pc, pn, ⟨pk, s1, s2, s3⟩, d, u⟩], zeroCall, false⟩ ⟨pk, s1, s2, s3⟩ (.slice (some ⟨g, 0, none⟩) (k + 1) cap')) tyH (0, 0)) := by unfold gcellsH; rw [e2]; exact hX7
    have hT : GTurnH F tyH N W X (.slice a k cap) _ ⟨pc, done ++ [⟨pc, pn, ⟨pk, s1, s2, s3⟩, d, u⟩], zeroCall, false⟩ ⟨pk, s1, s2, s3⟩ := hrW.o.push (f' := gcellsH F ⟨pc, done ++ [⟨pc, pn, ⟨pk, s1, s2, s3⟩, d, u⟩], zeroCall, false⟩ ⟨pk, s1, s2, s3⟩) (n := k + 1) (r := ⟨pc, pn, ⟨pk, s1, s2, s3⟩, d, u⟩) hgrow (by rw [unhide HK]) hown2 (by rw [hzW]; exact hat) hk7 hX8
    have HT := hide (hT.before hbw)
    clear hT hX7 hX8 e2 hk7 hbw hrW hX6 hk6 hW6 hP6 hP5 hX5 hown2 hgrow hat hlt x0 x1 x2 x3 x4 x5 x6 x7 x8 xf kf k0 k1 k2 k3 k4 k5 k7
    go_wp2
    go_ret
    exact ⟨rfl, unhide HT⟩
theorem GHear_anyH {N : Nat} {w : World} {X : Nat} {v : Value} {c : ACli} {y : ACall} (h : GRepH F tyH O N w X v c y) (p : APkt) (hsm : SmallP p) :
    Calls Tryz.prog 77 #[.pointer (some ⟨X, O, none⟩), p.val] w fun e w' => e = .returned (.bool (c.hears p)) ∧ GTurnH F tyH N w X v w' (c.heard p) y := by
  cases hp : c.hears p
  · have e : c.heard p = c := by unfold ACli.heard; rw [hp]; rfl
    rw [e]
    exact GHear_noneH h p hp
  · exact GHear_someH h p hsm hp
def hcells (rv : Value) (l0 l1 l2 : List Value) (pv : Value) : Array Value := (rv :: (l0 ++ (l1 ++ (l2 ++ [pv])))).toArray
def gl (c : ACli) (x : ACall) (v : Value) : List Value := [.int .i64 c.me, .int .i64 (gno c), .int .i64 x.kind, .string x.name, .string x.dst, .string x.text, .bool c.op, v]
theorem len8 {l : List Value} (h : l.length = 8) : ∃ a0 a1 a2 a3 a4 a5 a6 a7, l = [a0, a1, a2, a3, a4, a5, a6, a7] := by
  match l, h with
  | [a0, a1, a2, a3, a4, a5, a6, a7], _ => exact ⟨a0, a1, a2, a3, a4, a5, a6, a7, rfl⟩
theorem holdS {l0 l1 l2 : List Value} {pv : Value} : ∀ v u, (hcells v l0 l1 l2 pv)[0]? = some v ∧ (hcells v l0 l1 l2 pv).setIfInBounds 0 u = hcells u l0 l1 l2 pv := fun v u => by
  unfold hcells
  exact ⟨by simp, by simp⟩
theorem holdP {rv : Value} {l0 l1 l2 : List Value} (h0 : l0.length = 8) (h1 : l1.length = 8) (h2 : l2.length = 8) : ∀ v u, (hcells rv l0 l1 l2 v)[25]? = some v ∧ (hcells rv l0 l1 l2 v).setIfInBounds 25 u = hcells rv l0 l1 l2 u := fun v u => by
  obtain ⟨a0, a1, a2, a3, a4, a5, a6, a7, rfl⟩ := len8 h0
  obtain ⟨b0, b1, b2, b3, b4, b5, b6, b7, rfl⟩ := len8 h1
  obtain ⟨c0, c1, c2, c3, c4, c5, c6, c7, rfl⟩ := len8 h2
  exact ⟨rfl, rfl⟩
theorem holdG0 {rv pv : Value} {l1 l2 : List Value} : GHold 1 (fun l => hcells rv l l1 l2 pv) := fun l hl i hi => by
  obtain ⟨a0, a1, a2, a3, a4, a5, a6, a7, rfl⟩ := len8 hl
  match i, hi with
  | 0, _ => exact ⟨by simp [hcells], fun u => by simp [hcells]⟩
  | 1, _ => exact ⟨by simp [hcells], fun u => by simp [hcells]⟩
  | 2, _ => exact ⟨by simp [hcells], fun u => by simp [hcells]⟩
  | 3, _ => exact ⟨by simp [hcells], fun u => by simp [hcells]⟩
  | 4, _ => exact ⟨by simp [hcells], fun u => by simp [hcells]⟩
  | 5, _ => exact ⟨by simp [hcells], fun u => by simp [hcells]⟩
  | 6, _ => exact ⟨by simp [hcells], fun u => by simp [hcells]⟩
  | 7, _ => exact ⟨by simp [hcells], fun u => by simp [hcells]⟩
theorem holdG1 {rv pv : Value} {l0 l2 : List Value} (h0 : l0.length = 8) : GHold 9 (fun l => hcells rv l0 l l2 pv) := fun l hl i hi => by
  obtain ⟨a0, a1, a2, a3, a4, a5, a6, a7, rfl⟩ := len8 hl
  obtain ⟨b0, b1, b2, b3, b4, b5, b6, b7, rfl⟩ := len8 h0
  match i, hi with
  | 0, _ => exact ⟨by simp [hcells], fun u => by simp [hcells]⟩
  | 1, _ => exact ⟨by simp [hcells], fun u => by simp [hcells]⟩
  | 2, _ => exact ⟨by simp [hcells], fun u => by simp [hcells]⟩
  | 3, _ => exact ⟨by simp [hcells], fun u => by simp [hcells]⟩
  | 4, _ => exact ⟨by simp [hcells], fun u => by simp [hcells]⟩
  | 5, _ => exact ⟨by simp [hcells], fun u => by simp [hcells]⟩
  | 6, _ => exact ⟨by simp [hcells], fun u => by simp [hcells]⟩
  | 7, _ => exact ⟨by simp [hcells], fun u => by simp [hcells]⟩
theorem holdG2 {rv pv : Value} {l0 l1 : List Value} (h0 : l0.length = 8) (h1 : l1.length = 8) : GHold 17 (fun l => hcells rv l0 l1 l pv) := fun l hl i hi => by
  obtain ⟨a0, a1, a2, a3, a4, a5, a6, a7, rfl⟩ := len8 hl
  obtain ⟨b0, b1, b2, b3, b4, b5, b6, b7, rfl⟩ := len8 h0
  obtain ⟨c0, c1, c2, c3, c4, c5, c6, c7, rfl⟩ := len8 h1
  match i, hi with
  | 0, _ => exact ⟨by simp [hcells], fun u => by simp [hcells]⟩
  | 1, _ => exact ⟨by simp [hcells], fun u => by simp [hcells]⟩
  | 2, _ => exact ⟨by simp [hcells], fun u => by simp [hcells]⟩
  | 3, _ => exact ⟨by simp [hcells], fun u => by simp [hcells]⟩
  | 4, _ => exact ⟨by simp [hcells], fun u => by simp [hcells]⟩
  | 5, _ => exact ⟨by simp [hcells], fun u => by simp [hcells]⟩
  | 6, _ => exact ⟨by simp [hcells], fun u => by simp [hcells]⟩
  | 7, _ => exact ⟨by simp [hcells], fun u => by simp [hcells]⟩
structure HOwn where
  rv : Value
  v : Nat → Value
  y : Nat → ACall
  pv : Value
def HOwn.val (o : HOwn) (i : Nat) : Value := if i = 3 then o.rv else if i = 4 then o.pv else o.v i
def HOwn.all (o : HOwn) (H : Nat) : List Nat := H :: ((o.val 0).ownBlock.toList ++ (o.val 1).ownBlock.toList ++ (o.val 2).ownBlock.toList ++ (o.val 3).ownBlock.toList ++ (o.val 4).ownBlock.toList)
theorem HOwn.mem_all {o : HOwn} {H b : Nat} : b ∈ o.all H ↔ b = H ∨ ∃ i, i < 5 ∧ (o.val i).ownBlock = some b := by
  unfold HOwn.all
  simp only [List.mem_cons, List.mem_append, Option.mem_toList]
  constructor
  · rintro (h | ((((h | h) | h) | h) | h))
    · exact .inl h
    · exact .inr ⟨0, by omega, h⟩
    · exact .inr ⟨1, by omega, h⟩
    · exact .inr ⟨2, by omega, h⟩
    · exact .inr ⟨3, by omega, h⟩
    · exact .inr ⟨4, by omega, h⟩
  · rintro (h | ⟨i, hi, h⟩)
    · exact .inl h
    · match i, hi with
      | 0, _ => exact .inr (.inl (.inl (.inl (.inl h))))
      | 1, _ => exact .inr (.inl (.inl (.inl (.inr h))))
      | 2, _ => exact .inr (.inl (.inl (.inr h)))
      | 3, _ => exact .inr (.inl (.inr h))
      | 4, _ => exact .inr (.inr h)
def hlist (o : HOwn) (A : AW) (n : Nat) : List Value := gl (A.cl n) (o.y n) (o.v n)
def hbox (o : HOwn) (A : AW) : Array Value := hcells o.rv (hlist o A 0) (hlist o A 1) (hlist o A 2) o.pv
structure HRep (N : Nat) (w : World) (H : Nat) (o : HOwn) (A : AW) : Prop where
  new : N ≤ H
  blk : w.heap[H]? = some (.cells (hbox o A) 42 (0, 0))
  srow : w.ownsRow N 61 8 o.rv A.log.length (A.log.flatMap rcells)
  crow : ∀ n, n < 3 → w.ownsRow N 61 8 (o.v n) (A.cl n).done.length ((A.cl n).done.flatMap rcells)
  prow : w.ownsRow N 92 9 o.pv A.ms.length (A.ms.flatMap pcells)
  ok : ∀ n, n < 3 → COk (A.cl n)
  keeps : ∀ n, n < 3 → (A.cl n).op = true → o.y n = (A.cl n).call
  few : A.ms.length ≤ 40
  small : ∀ m, m ∈ A.ms → SmallP m
  dj : ∀ i j, i < 5 → j < 5 → i ≠ j → ∀ b, (o.val i).ownBlock = some b → (o.val j).ownBlock ≠ some b
  nH : ∀ i, i < 5 → (o.val i).ownBlock ≠ some H
  good : Good A.log
  ss : (logB A.log).length ≤ 2000
section
variable {N : Nat} {w w' w1 w2 : World} {H : Nat} {o o' : HOwn} {A A' B : AW}
theorem val_client (o : HOwn) {n : Nat} (hn : n < 3) : o.val n = o.v n := by unfold HOwn.val; rw [if_neg (by omega), if_neg (by omega)]
theorem HRep.lt (h : HRep N w H o A) : H < w.heap.size := (Array.getElem?_eq_some_iff.1 h.blk).1
theorem HRep.size (h : HRep N w H o A) : N ≤ w.heap.size := by have := h.lt; have := h.new; omega
theorem HRep.ge (h : HRep N w H o A) {i : Nat} (hi : i < 5) {k : Nat} (hk : (o.val i).ownBlock = some k) : N ≤ k ∧ k < w.heap.size := by
  match i, hi with
  | 0, _ => exact (h.crow 0 (by omega)).lt k hk
  | 1, _ => exact (h.crow 1 (by omega)).lt k hk
  | 2, _ => exact (h.crow 2 (by omega)).lt k hk
  | 3, _ => exact h.srow.lt k hk
  | 4, _ => exact h.prow.lt k hk
theorem HRep.all_ge (h : HRep N w H o A) : ∀ k, k ∈ o.all H → N ≤ k ∧ k < w.heap.size := fun k hk => by
  rcases HOwn.mem_all.1 hk with rfl | ⟨i, hi, hk⟩
  · exact ⟨h.new, h.lt⟩
  · exact h.ge hi hk
theorem HRep.kept {ow : List Nat} (h : HRep N w H o A) (hk : Kept ow w w') (hd : ∀ k, k ∈ o.all H → k ∉ ow) : HRep N w' H o A := by
  have hp : ∀ i, i < 5 → ∀ k, (o.val i).ownBlock = some k → w'.heap[k]? = w.heap[k]? := fun i hi k hm => hk.block k (h.ge hi hm).2 (hd k (HOwn.mem_all.2 (.inr ⟨i, hi, hm⟩)))
  exact ⟨h.new, (hk.block H h.lt (hd H (HOwn.mem_all.2 (.inl rfl)))).trans h.blk, ownsRow_same h.srow (hp 3 (by omega)), fun n hn => ownsRow_same (h.crow n hn) (fun k e => hp n (by omega) k (by rw [val_client o hn]; exact e)), ownsRow_same h.prow (hp 4 (by omega)), h.ok, h.keeps, h.few, h.small, h.dj, h.nH, h.good, h.ss⟩
theorem HRep.below (h : HRep N w H o A) (hb : Below w.heap.size w w') : HRep N w' H o A := h.kept (ow := []) (Kept.of_below hb) (by simp)
def HTurn (N : Nat) (w : World) (H : Nat) (o : HOwn) (w' : World) (A' : AW) : Prop := ∃ o', HRep N w' H o' A' ∧ Next N w w' (o.all H) (o'.all H)
theorem HTurn.of_below (h : HRep N w H o A) (hb : Below w.heap.size w w') : HTurn N w H o w' A := ⟨o, h.below hb, Next.of_below _ hb h.size⟩
theorem HTurn.before (hb : Below w.heap.size w w1) (hN : N ≤ w.heap.size) (h : HTurn N w1 H o w' A') : HTurn N w H o w' A' := by
  obtain ⟨o', h1, h2⟩ := h
  exact ⟨o', h1, (Next.of_below _ hb hN).trans h2⟩
theorem HTurn.below (hT : HTurn N w H o w' A') : Below N w w' := by
  obtain ⟨o', k1, k2⟩ := hT
  exact k2.below
theorem HTurn.blk (hT : HTurn N w H o w' A') {b : Nat} (hb : b < w.heap.size) (hn : b ∉ o.all H) : w'.heap[b]? = w.heap[b]? := by
  obtain ⟨o', k1, k2⟩ := hT
  exact (k2.keep b hb hn).2
theorem HRep.turn (h : HRep N w H o A) {i : Nat} (hi : i < 5) (hk : Kept (H :: (o.val i).ownBlock.toList) w w') (hn : ∀ k, (o'.val i).ownBlock = some k → (o.val i).ownBlock = some k ∨ w.heap.size ≤ k)
    (hoff : ∀ j, j < 5 → j ≠ i → o'.val j = o.val j) (hH : (o'.val i).ownBlock ≠ some H)
    (hp : (∀ j, j < 5 → j ≠ i → ∀ k, (o.val j).ownBlock = some k → w'.heap[k]? = w.heap[k]?) → w'.heap[H]? = some (.cells (hbox o' A') 42 (0, 0)) ∧ w'.ownsRow N 61 8 o'.rv A'.log.length (A'.log.flatMap rcells) ∧ (∀ n, n < 3 → w'.ownsRow N 61 8 (o'.v n) (A'.cl n).done.length ((A'.cl n).done.flatMap rcells)) ∧ w'.ownsRow N 92 9 o'.pv A'.ms.length (A'.ms.flatMap pcells))
    (hok : ∀ n, n < 3 → COk (A'.cl n)) (hkp : ∀ n, n < 3 → (A'.cl n).op = true → o'.y n = (A'.cl n).call) (hfew : A'.ms.length ≤ 40) (hsm : ∀ m, m ∈ A'.ms → SmallP m) (hg : Good A'.log) (hss : (logB A'.log).length ≤ 2000) : HTurn N w H o w' A' := by
  have hdj : ∀ j, j < 5 → j ≠ i → ∀ k, (o.val j).ownBlock = some k → (o'.val i).ownBlock ≠ some k := fun j hj hne k hk e => by
    rcases hn k e with h1 | h1
    · exact h.dj j i hj hi hne k hk h1
    · have := (h.ge hj hk).2; omega
  obtain ⟨q1, q2, q3, q4⟩ := hp fun j hj hne k hkk => hk.block k (h.ge hj hkk).2 (fun hm => by
    rcases List.mem_cons.1 hm with e | e
    · subst e; exact h.nH j hj hkk
    · exact h.dj j i hj hi hne k hkk (by simpa using e))
  refine ⟨o', ⟨h.new, q1, q2, q3, q4, hok, hkp, hfew, hsm, fun a b ha hb hab x hx hy => ?_, fun j hj => ?_, hg, hss⟩, ?_⟩
  · by_cases ea : a = i
    · have eb : b ≠ i := fun e => hab (ea.trans e.symm)
      rw [ea] at hx; rw [hoff b hb eb] at hy
      exact hdj b hb eb x hy hx
    · rw [hoff a ha ea] at hx
      by_cases eb : b = i
      · rw [eb] at hy; exact hdj a ha ea x hx hy
      · rw [hoff b hb eb] at hy; exact h.dj a b ha hb hab x hx hy
  · by_cases e : j = i
    · rw [e]; exact hH
    · rw [hoff j hj e]; exact h.nH j hj
  · refine next_of ⟨hk.os, hk.tape, hk.output, hk.size, fun k h1 h2 => hk.block k h1 (fun hm => h2 ?_)⟩ h.size (fun k hk => (h.all_ge k hk).1) (fun k hm => ?_)
    · rcases List.mem_cons.1 hm with e | e
      · exact HOwn.mem_all.2 (.inl e)
      · exact HOwn.mem_all.2 (.inr ⟨i, hi, by simpa using e⟩)
    · rcases HOwn.mem_all.1 hm with e | ⟨j, hj, e⟩
      · exact .inl (HOwn.mem_all.2 (.inl e))
      · by_cases ej : j = i
        · rw [ej] at e
          rcases hn k e with e2 | e2
          · exact .inl (HOwn.mem_all.2 (.inr ⟨i, hi, e2⟩))
          · exact .inr e2
        · rw [hoff j hj ej] at e
          exact .inl (HOwn.mem_all.2 (.inr ⟨j, hj, e⟩))
def FS (o : HOwn) (A : AW) : Value → Array Value := fun v => hcells v (hlist o A 0) (hlist o A 1) (hlist o A 2) o.pv
def FP (o : HOwn) (A : AW) : Value → Array Value := fun v => hcells o.rv (hlist o A 0) (hlist o A 1) (hlist o A 2) v
def FG (o : HOwn) (A : AW) (n : Nat) : List Value → Array Value := fun l => hcells o.rv (if n = 0 then l else hlist o A 0) (if n = 1 then l else hlist o A 1) (if n = 2 then l else hlist o A 2) o.pv
theorem HRep.chest (h : HRep N w H o A) : CRepH (FS o A) 42 w N H o.rv A.log := ⟨h.new, h.blk, h.srow, h.nH 3 (by omega), holdS⟩
theorem HRep.bag (h : HRep N w H o A) : PRepH (FP o A) 42 N w H o.pv A.ms := ⟨h.new, h.blk, h.prow, h.nH 4 (by omega), h.few, h.small, holdP rfl rfl rfl⟩
theorem FG_hold (o : HOwn) (A : AW) {n : Nat} (hn : n < 3) : GHold (1 + 8 * n) (FG o A n) := by
  match n, hn with
  | 0, _ => exact holdG0
  | 1, _ => exact holdG1 rfl
  | 2, _ => exact holdG2 rfl rfl
theorem FG_box (o : HOwn) (A : AW) {n : Nat} (hn : n < 3) : FG o A n (hlist o A n) = hbox o A := by
  match n, hn with
  | 0, _ => rfl
  | 1, _ => rfl
  | 2, _ => rfl
theorem HRep.guest (h : HRep N w H o A) {n : Nat} (hn : n < 3) : GRepH (FG o A n) 42 (1 + 8 * n) N w H (o.v n) (A.cl n) (o.y n) :=
  ⟨⟨h.new, by show w.heap[H]? = some (.cells (FG o A n (hlist o A n)) 42 (0, 0)); rw [FG_box o A hn]; exact h.blk, h.crow n hn, by have := h.nH n (by omega); rw [val_client o hn] at this; exact this⟩, h.ok n hn, h.keeps n hn, FG_hold o A hn⟩
theorem HRep.turnS (h : HRep N w H o A) {L' : List ARec} (hT : CTurnedH (FS o A) 42 w N H o.rv w' L') (hg : Good L') (hs : (logB L').length ≤ 2000) : HTurn N w H o w' ⟨L', A.cl, A.ms⟩ := by
  obtain ⟨rv', hr, hk, hn⟩ := hT
  refine h.turn (o' := ⟨rv', o.v, o.y, o.pv⟩) (i := 3) (by omega) hk hn (fun j hj e => by unfold HOwn.val; rw [if_neg e, if_neg e]) hr.nd (fun hp => ⟨hr.blk, hr.row, fun n hn => ownsRow_same (h.crow n hn) (fun k e => hp n (by omega) (by omega) k (by rw [val_client o hn]; exact e)), ownsRow_same h.prow (hp 4 (by omega) (by omega))⟩) h.ok h.keeps h.few h.small hg hs
theorem HRep.turnP (h : HRep N w H o A) {ms' : List APkt} (hT : PTurnH (FP o A) 42 N w H o.pv w' ms') : HTurn N w H o w' ⟨A.log, A.cl, ms'⟩ := by
  obtain ⟨pv', hr, hk, hn⟩ := hT
  refine h.turn (o' := ⟨o.rv, o.v, o.y, pv'⟩) (i := 4) (by omega) hk (fun k e => ?_) (fun j hj e => by unfold HOwn.val; rw [if_neg e, if_neg e]) hr.nd (fun hp => ⟨hr.blk, ownsRow_same h.srow (hp 3 (by omega) (by omega)), fun n hn => ownsRow_same (h.crow n hn) (fun k e => hp n (by omega) (by omega) k (by rw [val_client o hn]; exact e)), hr.row⟩) h.ok h.keeps hr.few hr.small h.good h.ss
  have e : pv'.ownBlock = some k := e
  show o.pv.ownBlock = some k ∨ _
  rcases hn k (List.mem_cons_of_mem _ (by simpa using e)) with h1 | h1
  · rcases List.mem_cons.1 h1 with h2 | h2
    · subst h2; exact absurd e hr.nd
    · left; simpa using h2
  · exact .inr h1
def updC (f : Nat → ACall) (n : Nat) (c : ACall) : Nat → ACall := fun k => if k = n then c else f k
theorem HRep.turnG (h : HRep N w H o A) {n : Nat} (hn : n < 3) {c' : ACli} {y' : ACall} (hT : GTurnH (FG o A n) 42 N w H (o.v n) w' c' y') (hc : COk c') (hy : c'.op = true → y' = c'.call) : HTurn N w H o w' ⟨A.log, upd A.cl n c', A.ms⟩ := by
  obtain ⟨v', hr, hk, hg⟩ := hT
  have e1 : updV o.v n v' n = v' := by simp [updV]
  have e2 : ∀ m, m ≠ n → updV o.v n v' m = o.v m := fun m hm => by simp [updV, hm]
  have f1 : updC o.y n y' n = y' := by simp [updC]
  have f2 : ∀ m, m ≠ n → updC o.y n y' m = o.y m := fun m hm => by simp [updC, hm]
  have hv : (⟨o.rv, updV o.v n v', updC o.y n y', o.pv⟩ : HOwn).val n = v' := by rw [val_client _ hn]; exact e1
  have hvo := val_client o hn
  refine h.turn (o' := ⟨o.rv, updV o.v n v', updC o.y n y', o.pv⟩) (i := n) (by omega) (by rw [hvo]; exact hk) (fun k e => ?_) (fun j hj e => ?_) (by rw [hv]; exact hr.nd) (fun hp => ⟨?_, ownsRow_same h.srow (hp 3 (by omega) (by omega)), fun m hm => ?_, ownsRow_same h.prow (hp 4 (by omega) (by omega))⟩) (fun m hm => ?_) (fun m hm => ?_) h.few h.small h.good h.ss
  · rw [hv] at e; rw [hvo]
    rcases hg k (List.mem_cons_of_mem _ (by simpa using e)) with h1 | h1
    · rcases List.mem_cons.1 h1 with h2 | h2
      · subst h2; exact absurd e hr.nd
      · left; simpa using h2
    · exact .inr h1
  · unfold HOwn.val; dsimp only; rw [e2 j e]
  · have hb := hr.blk
    have e3 : gcellsH (FG o A n) c' y' v' = hbox ⟨o.rv, updV o.v n v', updC o.y n y', o.pv⟩ ⟨A.log, upd A.cl n c', A.ms⟩ := by
      match n, hn with
      | 0, _ => rfl
      | 1, _ => rfl
      | 2, _ => rfl
    rw [e3] at hb; exact hb
  · dsimp only
    by_cases e : m = n
    · subst e; rw [e1, upd_at]; exact hr.row
    · rw [e2 m e, upd_off _ _ e]; exact ownsRow_same (h.crow m hm) (fun k e' => hp m (by omega) e k (by rw [val_client o hm]; exact e'))
  · dsimp only
    by_cases e : m = n
    · subst e; rw [upd_at]; exact hc
    · rw [upd_off _ _ e]; exact h.ok m hm
  · dsimp only
    by_cases e : m = n
    · subst e; rw [upd_at, f1]; exact hy
    · rw [upd_off _ _ e, f2 m e]; exact h.keeps m hm
end
set_option maxRecDepth 100000 in
set_option maxHeartbeats 2000000 in
theorem Client_some {N : Nat} {w : World} {W : Nat} {o : WOwn} {A : AW} (h : WRep N w W o A) (n : Nat) (hn : n < 3) :
    Calls Tryz.prog 14 #[.pointer (some ⟨W, 0, none⟩), .int .i64 (n : Int)] w fun e w' => e = .returned (.pointer (some ⟨o.X n, 0, none⟩)) ∧ w' = w := by
  have hc := h.cells.2 n hn
  have h0 : ¬ (n : Int) < 0 := by omega
  have h3 : ¬ (3 : Int) ≤ n := by omega
  have h4 : (n : Int) < 3 := by omega
  generalize o.X n = X at hc ⊢
  clear h hn
  go_enter Tryz.func14, Tryz.ntmps14
  go_wp2
  go_ret
  exact ⟨rfl, rfl⟩
set_option maxHeartbeats 2000000 in
theorem Client_none (W : Nat) (w : World) (n : Int) (hn : n < 0 ∨ 2 < n) :
    Calls Tryz.prog 14 #[.pointer (some ⟨W, 0, none⟩), .int .i64 n] w fun e w' => e = .returned (.pointer none) ∧ w' = w := by
  by_cases h0 : n < 0
  · clear hn
    go_enter Tryz.func14, Tryz.ntmps14
    go_wp2
    go_ret
    exact ⟨rfl, rfl⟩
  · have h3 : (3 : Int) ≤ n := by omega
    clear hn
    go_enter Tryz.func14, Tryz.ntmps14
    go_wp2
    go_ret
    exact ⟨rfl, rfl⟩
set_option maxHeartbeats 2000000 in
theorem Packets_any {N : Nat} {w : World} {W : Nat} {o : WOwn} {A : AW} (h : WRep N w W o A) {n : Nat} (hn : A.ms.length = n) :
    Calls Tryz.prog 21 #[.pointer (some ⟨W, 0, none⟩)] w fun e w' => ∃ g cap, e = .returned (.slice (some ⟨g, 0, none⟩) n cap) ∧ w'.ownsRow w.heap.size 92 9 (.slice (some ⟨g, 0, none⟩) n cap) n (A.ms.flatMap pcells) ∧ Below w.heap.size w w' := by
  have HL := hide (List_P h.p hn)
  have hc := h.cells.1.2.2.2.2
  clear h
  go_enter Tryz.func21, Tryz.ntmps21
  go_wp2_with fail
  refine (unhide HL).mono ?_
  rintro e w2 ⟨g, cap, rfl, ho, hb⟩
  have HO := hide ho
  have HB := hide hb
  clear ho hb
  go_wp2
  go_ret
  exact ⟨g, cap, rfl, unhide HO, unhide HB⟩
set_option maxRecDepth 100000 in
set_option maxHeartbeats 4000000 in
theorem have_any {N : Nat} {w : World} {W : Nat} {o : WOwn} {A : AW} (h : WRep N w W o A) (n : Int) (x : ACall) (hx : SmallC x) :
    Calls Tryz.prog 45 #[.pointer (some ⟨W, 0, none⟩), .int .i64 n, .agg #[.int .i64 x.kind, .string x.name, .string x.dst, .string x.text]] w fun e w' => e = .returned (.int .i64 (A.have n x).1) ∧ WTurn N w W o w' (A.have n x).2 := by
  obtain ⟨V, hV⟩ : ∃ V, V = w.alloc (.cells #[.int .i64 x.kind, .string x.name, .string x.dst, .string x.text] 32) := ⟨_, rfl⟩
  have hBV : Below w.heap.size w V := by rw [hV]; exact (Below.refl _ _).alloc (Nat.le_refl _) _
  have hXV : V.heap[w.heap.size]? = some (.cells #[.int .i64 x.kind, .string x.name, .string x.dst, .string x.text] 32 (0, 0)) := by rw [hV]; exact heap_alloc_new _ _
  have hrV := h.below hBV
  have HV := hide hV
  obtain ⟨x0, x1, x2, x3, xf⟩ := fourK hXV
  by_cases hn : n < 0 ∨ 2 < n
  · have e1 : A.have n x = (9, A) := by unfold AW.have; rw [if_pos hn]
    rw [e1]
    have HC := hide (fun w => Client_none W w n hn)
    have HT := hide ((WTurn.of_below hrV (Below.refl _ _)).before hBV h.size)
    clear h e1 hn hV hBV hXV hrV
    go_enter Tryz.func45, Tryz.ntmps45
    go_wp2_with fail
    rw [← unhide HV]
    refine ((unhide HC) _).mono ?_
    rintro e w1 ⟨rfl, hw⟩
    subst hw
    go_wp2
    go_ret
    exact ⟨rfl, unhide HT⟩
  · obtain ⟨m, rfl⟩ : ∃ m : Nat, n = (m : Int) := ⟨n.toNat, by omega⟩
    have hm : m < 3 := by omega
    have e1 : A.have (m : Int) x = ((A.cl m).ask x, ⟨A.log, upd A.cl m ((A.cl m).asked x), A.ms⟩) := by unfold AW.have; rw [if_neg hn, Int.toNat_natCast]
    rw [e1]
    have HC := hide (Client_some hrV m hm)
    have HK := hide (Call_any (hrV.c m hm) x hx)
    have HT := hide (fun w' (hT : KTurn N V (o.X m) (o.v m) w' ((A.cl m).asked x)) => (hrV.turnC hm hT ((h.c m hm).ok.asked hx)).before hBV h.size)
    generalize o.X m = X at HC HK HT
    generalize o.v m = v at HK HT
    generalize (A.cl m).ask x = r at HK ⊢
    clear h e1 hn hm hV hBV hXV hrV
    go_enter Tryz.func45, Tryz.ntmps45
    go_wp2_with fail
    rw [← unhide HV]
    refine (unhide HC).mono ?_
    rintro e w1 ⟨rfl, hw⟩
    subst hw
    go_wp2_with fail
    refine (unhide HK).mono ?_
    rintro e w2 ⟨rfl, hT⟩
    have HT2 := hide ((unhide HT) _ hT)
    clear hT
    go_wp2
    go_ret
    exact ⟨rfl, unhide HT2⟩
set_option maxRecDepth 100000 in
set_option maxHeartbeats 4000000 in
theorem double_any {N : Nat} {w : World} {W : Nat} {o : WOwn} {A : AW} (h : WRep N w W o A) (n : Int) :
    Calls Tryz.prog 47 #[.pointer (some ⟨W, 0, none⟩), .int .i64 n] w fun e w' => e = .returned (.int .i64 (A.dbl n).1) ∧ WTurn N w W o w' (A.dbl n).2 := by
  have hc := h.cells.1.2.2.2.2
  obtain ⟨k, hk⟩ : ∃ k, A.ms.length = k := ⟨_, rfl⟩
  have HL := hide (Len_P h.p hk)
  by_cases h0 : A.ms.length = 0
  · have e1 : A.dbl n = (6, A) := by unfold AW.dbl; rw [if_pos h0]
    rw [e1]
    have HT := hide (fun w' (hb : Below w.heap.size w w') => WTurn.of_below h hb)
    have hk0 : k = 0 := by omega
    subst hk0
    generalize o.P = P at hc HL
    clear h e1 h0 hk
    go_enter Tryz.func47, Tryz.ntmps47
    go_wp2_with fail
    refine (unhide HL).mono ?_
    rintro e w1 ⟨rfl, hw⟩
    subst hw
    go_wp2
    go_ret
    exact ⟨rfl, (unhide HT) _ (Below.refl _ _)⟩
  · have HD := hide (PDbl_any h.p n)
    have HT := hide (fun w' (hT : PTurn 115 N w o.P o.pv w' (aDblL A.ms n)) => h.turnP hT)
    have hb : aDblB A.ms = decide (A.ms.length < 40) := by unfold aDblB; rw [decide_eq_true (by omega), Bool.true_and]
    rw [hb] at HD
    have hk0 : ((k : Int) == 0) = false := by simp; omega
    by_cases hf : A.ms.length < 40
    · have e1 : A.dbl n = (0, ⟨A.log, A.cl, aDblL A.ms n⟩) := by unfold AW.dbl; rw [if_neg h0, if_pos hf]
      rw [e1]
      rw [decide_eq_true hf] at HD
      generalize o.P = P at hc HL HD HT
      generalize o.pv = pv at HD HT
      clear h e1 h0 hk hb hf
      go_enter Tryz.func47, Tryz.ntmps47
      go_wp2_with fail
      refine (unhide HL).mono ?_
      rintro e w1 ⟨rfl, hw⟩
      subst hw
      go_wp2_with fail
      refine (unhide HD).mono ?_
      rintro e w3 ⟨rfl, hT⟩
      have HT3 := hide ((unhide HT) _ hT)
      clear hT
      go_wp2
      go_ret
      exact ⟨rfl, unhide HT3⟩
    · have e1 : A.dbl n = (7, A) := by unfold AW.dbl; rw [if_neg h0, if_neg hf]
      have e2 : aDblL A.ms n = A.ms := by unfold aDblL aSend; rw [if_neg hf]; simp
      rw [e2] at HD HT
      rw [e1]
      rw [decide_eq_false hf] at HD
      generalize o.P = P at hc HL HD HT
      generalize o.pv = pv at HD HT
      clear h e1 h0 hk hb hf e2
      go_enter Tryz.func47, Tryz.ntmps47
      go_wp2_with fail
      refine (unhide HL).mono ?_
      rintro e w1 ⟨rfl, hw⟩
      subst hw
      go_wp2_with fail
      refine (unhide HD).mono ?_
      rintro e w3 ⟨rfl, hT⟩
      have HT3 := hide ((unhide HT) _ hT)
      clear hT
      go_wp2
      go_ret
      exact ⟨rfl, unhide HT3⟩
def AX.val (x : AX) : Value := .agg #[.int .i64 x.kind, .int .i64 x.n, .int .i64 x.keep, .int .i64 x.call.kind, .string x.call.name, .string x.call.dst, .string x.call.text]
def wxcells (x : AX) : List Value := [.int .i64 x.kind, .int .i64 x.n, .int .i64 x.keep, .int .i64 x.call.kind, .string x.call.name, .string x.call.dst, .string x.call.text]
structure XAt (w : World) (b o : Nat) (x : AX) : Prop where
  x0 : w.cell? ⟨b, o, none⟩ = some (.int .i64 x.kind)
  x1 : w.cell? ⟨b, o + 1, none⟩ = some (.int .i64 x.n)
  x2 : w.cell? ⟨b, o + 2, none⟩ = some (.int .i64 x.keep)
  x3 : w.cell? ⟨b, o + 3, none⟩ = some (.int .i64 x.call.kind)
  x4 : w.cell? ⟨b, o + 4, none⟩ = some (.string x.call.name)
  x5 : w.cell? ⟨b, o + 5, none⟩ = some (.string x.call.dst)
  x6 : w.cell? ⟨b, o + 6, none⟩ = some (.string x.call.text)
theorem XAt.lt {w : World} {b o : Nat} {x : AX} (h : XAt w b o x) : b < w.heap.size := World.block_lt_of_cell? w _ h.x0
theorem XAt.same {w W : World} {b o : Nat} {x : AX} (h : XAt w b o x) (hb : W.heap[b]? = w.heap[b]?) : XAt W b o x := by
  have hc : ∀ j, W.cell? ⟨b, j, none⟩ = w.cell? ⟨b, j, none⟩ := fun j => by simp only [World.cell?, hb]
  exact ⟨(hc _).trans h.x0, (hc _).trans h.x1, (hc _).trans h.x2, (hc _).trans h.x3, (hc _).trans h.x4, (hc _).trans h.x5, (hc _).trans h.x6⟩
def XsAt (w : World) (a : Option Addr) (n : Nat) (xs : List AX) : Prop :=
  xs.length = n ∧ n ≤ maxLen ∧ (∀ x, x ∈ xs → SmallC x.call) ∧ (0 < n → ∃ b off, a = some ⟨b, off, none⟩ ∧ ∀ (j : Nat) (x : AX), xs[j]? = some x → XAt w b (off + j * 7) x)
theorem XsAt.below {w W : World} {a : Option Addr} {n : Nat} {xs : List AX} (h : XsAt w a n xs) (hb : Below w.heap.size w W) : XsAt W a n xs := by
  refine ⟨h.1, h.2.1, h.2.2.1, fun h0 => ?_⟩
  obtain ⟨b, off, rfl, hc⟩ := h.2.2.2 h0
  exact ⟨b, off, rfl, fun j r hr => (hc j r hr).same (hb.block b (hc j r hr).lt)⟩
theorem PTurn.same {t : TypeId} {N : Nat} {w w' : World} {P : Nat} {v : Value} {ms : List APkt} (h : PTurn t N w P v w' ms) {b : Nat} (hb : b < w.heap.size) (hn : b ∉ powns P v) : w'.heap[b]? = w.heap[b]? := by
  obtain ⟨v', _, hk, _⟩ := h
  exact hk.block b hb hn
theorem STurned.same {N : Nat} {w w' : World} {S : Nat} {own : List Nat} {lv : Value} {L : List ARec} (h : STurned N w S own lv w' L) {b : Nat} (hb : b < w.heap.size) (hn : b ∉ sown S own lv) : w'.heap[b]? = w.heap[b]? := by
  obtain ⟨_, _, _, _, hk⟩ := h
  exact (hk.keep b hb hn).2
theorem SmallP.max {p : APkt} (h : SmallP p) : p.call.name.size ≤ maxLen ∧ p.call.dst.size ≤ maxLen ∧ p.call.text.size ≤ maxLen := ⟨small_max h.1, small_max h.2.1, small_max h.2.2.1⟩
theorem call_small {L : List ARec} (hg : Good L) (client no : Int) (c : ACall) : (aCall L client no c).text.size ≤ 100 := by
  have hz : (⟨#[]⟩ : ByteArray).size = 0 := rfl
  unfold aCall
  split
  · dsimp only; omega
  split
  · dsimp only; omega
  split
  · exact aDo_small L c
  split
  · split
    · dsimp only; omega
    · exact aDo_small L c
  split
  · dsimp only
    rcases lastR_or L client with ⟨h5, _⟩ | ⟨h5, _⟩
    · rw [h5]; show (⟨#[]⟩ : ByteArray).size ≤ 100; omega
    · have := (enc_small (hg _ h5)).2; omega
  · dsimp only; omega
theorem WRep.not_new {N : Nat} {w : World} {W : Nat} {o : WOwn} {A : AW} (h : WRep N w W o A) {b : Nat} (hb : w.heap.size ≤ b) : b ∉ o.all W := fun hm => by have := (h.all_ge b hm).2; omega
theorem WRep.not_part {N : Nat} {w : World} {W : Nat} {o : WOwn} {A : AW} (h : WRep N w W o A) {b : Nat} (hb : w.heap.size ≤ b) {i : Nat} (hi : i < 5) : b ∉ o.part i := fun hm => by have := (h.ge hi b hm).2; omega
set_option maxRecDepth 100000 in
set_option maxHeartbeats 4000000 in
theorem wsend_any {N : Nat} {w : World} {W : Nat} {o : WOwn} {A : AW} (h : WRep N w W o A) (n : Int) :
    Calls Tryz.prog 46 #[.pointer (some ⟨W, 0, none⟩), .int .i64 n] w fun e w' => e = .returned (.int .i64 (A.send n).1) ∧ WTurn N w W o w' (A.send n).2 := by
  by_cases hn : n < 0 ∨ 2 < n
  · have e1 : A.send n = (9, A) := by unfold AW.send; rw [if_pos hn]
    rw [e1]
    have HC := hide (fun w => Client_none W w n hn)
    have HT := hide (fun w' (hb : Below w.heap.size w w') => WTurn.of_below h hb)
    clear h e1 hn
    go_enter Tryz.func46, Tryz.ntmps46
    go_wp2_with fail
    refine ((unhide HC) _).mono ?_
    rintro e w1 ⟨rfl, hw⟩
    subst hw
    go_wp2
    go_ret
    exact ⟨rfl, (unhide HT) _ (Below.refl _ _)⟩
  · obtain ⟨m, rfl⟩ : ∃ m : Nat, n = (m : Int) := ⟨n.toNat, by omega⟩
    have hm : m < 3 := by omega
    have HC := hide (Client_some h m hm)
    have HS := hide (Send_any (h.c m hm))
    have HPC := hide (fun w' (hb : Below w.heap.size w w') => (h.below hb).cells.1.2.2.2.2)
    cases hop : (A.cl m).op
    · have e1 : A.send (m : Int) = (6, A) := by unfold AW.send; rw [if_neg hn, Int.toNat_natCast, if_pos hop]
      rw [e1]
      have HT := hide (fun w' (hb : Below w.heap.size w w') => WTurn.of_below h hb)
      rw [hop] at HS
      have e2 : (A.cl m).pkt = zeroPkt := by unfold ACli.pkt; rw [hop]; rfl
      rw [e2] at HS
      dsimp only [APkt.val, zeroPkt] at HS
      generalize o.X m = X at HC HS
      clear h e1 e2 hn hm hop HPC
      go_enter Tryz.func46, Tryz.ntmps46
      go_wp2_with fail
      refine (unhide HC).mono ?_
      rintro e w1 ⟨rfl, hw⟩
      subst hw
      go_wp2_with fail
      refine (unhide HS).mono ?_
      rintro e w2 ⟨rfl, hb⟩
      have HB := hide (hb.trans (((Below.refl w2.heap.size w2).alloc (Nat.le_refl _) (.cells #[.bool false, .int .i64 0, .int .i64 0, .int .i64 0, .string ⟨#[]⟩, .string ⟨#[]⟩, .string ⟨#[]⟩, .int .i64 0, .string ⟨#[]⟩] 92)).mono hb.size))
      clear hb
      go_wp2
      go_ret
      exact ⟨rfl, (unhide HT) _ (unhide HB)⟩
    · have e1 : A.send (m : Int) = if A.ms.length < 40 then (0, ⟨A.log, A.cl, aSend A.ms (A.cl m).pkt⟩) else (7, A) := by unfold AW.send; rw [if_neg hn, Int.toNat_natCast, if_neg (by simp [hop])]
      rw [hop] at HS
      have hsm := pkt_small (h.c m hm).ok
      have HP := hide (fun w' (hb : Below w.heap.size w w') => PSend_any (h.p.below hb) (A.cl m).pkt hsm)
      have HT := hide (fun w1 w' (hb : Below w.heap.size w w1) (hT : PTurn 115 N w1 o.P o.pv w' (aSend A.ms (A.cl m).pkt)) => ((h.below hb).turnP hT).before hb h.size)
      have HNW : Hid (∀ V : World, w.heap.size ≤ V.heap.size → W < V.heap.size ∧ W ∉ powns o.P o.pv) := fun V hV => ⟨Nat.lt_of_lt_of_le h.lt hV, h.nW 4 (by omega)⟩
      have HNX : Hid (∀ b, w.heap.size ≤ b → b ∉ powns o.P o.pv) := fun b hb => h.not_part hb (i := 4) (by omega)
      have hse : ¬ A.ms.length < 40 → aSend A.ms (A.cl m).pkt = A.ms := fun h => by unfold aSend; rw [if_neg h]
      generalize (A.cl m).pkt = p at HS HP HT e1 hse hsm
      obtain ⟨pr, pc, pn, ⟨pk, pa, pb, pt⟩, pd, pu⟩ := p
      dsimp only [APkt.val] at HS HP
      generalize o.X m = X at HC HS
      generalize o.P = P at HPC HP HT HNW HNX
      generalize o.pv = pv at HP HT HNW HNX
      by_cases hf : A.ms.length < 40
      · rw [if_pos hf] at e1
        rw [decide_eq_true hf] at HP
        rw [e1]
        clear h e1 hn hm hop hse hsm hf
        go_enter Tryz.func46, Tryz.ntmps46
        go_wp2_with fail
        refine (unhide HC).mono ?_
        rintro e w1 ⟨rfl, hw⟩
        subst hw
        go_wp2_with fail
        refine (unhide HS).mono ?_
        rintro e w2 ⟨rfl, hb⟩
        obtain ⟨V, hV⟩ : ∃ V, V = w2.alloc (.cells #[.bool pr, .int .i64 pc, .int .i64 pn, .int .i64 pk, .string pa, .string pb, .string pt, .int .i64 pd, .string pu] 92) := ⟨_, rfl⟩
        have hBV : Below w2.heap.size w2 V := by rw [hV]; exact (Below.refl _ _).alloc (Nat.le_refl _) _
        have hbV := hb.trans (hBV.mono hb.size)
        have hXV : V.heap[w2.heap.size]? = some (.cells #[.bool pr, .int .i64 pc, .int .i64 pn, .int .i64 pk, .string pa, .string pb, .string pt, .int .i64 pd, .string pu] 92 (0, 0)) := by rw [hV]; exact heap_alloc_new _ _
        have HPV := hide ((unhide HPC) _ hbV)
        have HXV := hide hXV
        have HP2 := hide ((unhide HP) _ (hbV.trans ((below_drew V).mono hbV.size)))
        have HT2 := hide (fun w' hT => (unhide HT) V.drew w' (hbV.trans ((below_drew V).mono hbV.size)) hT)
        have HKW := hide ((unhide HNW) V (hbV.size))
        have HKX := hide ((unhide HNX) w2.heap.size hb.size)
        have HLX : Hid (w2.heap.size < V.heap.size) := (Array.getElem?_eq_some_iff.1 hXV).1
        have HV := hide hV
        clear hV hb hBV hbV hXV
        go_wp2_with fail
        rw [← unhide HV]
        refine wp_region_held_drew (S := (fun wx => wx.heap[W]? = V.heap[W]? ∧ wx.heap[w2.heap.size]? = V.heap[w2.heap.size]?)) (by kernel_rfl) (⟨rfl, rfl⟩) (fun hHeld => ?_)
        refine tkH ?_ opn0 (fun _ _ _ h => h) hHeld ?_ ?_
        rotate_left 1
        · intro wz hSw; (try dsimp only at hSw); go_simp; all_goals with_reducible rfl
        try simp only [pS]
        refine tkH ?_ opn1 (fun _ _ _ h => h) hHeld ?_ ?_
        rotate_left 1
        · intro wz hSw; (try dsimp only at hSw); go_simp; all_goals with_reducible rfl
        try simp only [pS]
        refine tkH ?_ opn2 (fun _ _ _ h => h) hHeld ?_ ?_
        rotate_left 1
        · intro wz hSw; (try dsimp only at hSw); go_simp; all_goals with_reducible rfl
        try simp only [pS]
        refine tkH ?_ opn3 (fun _ _ _ h => h) hHeld ?_ ?_
        rotate_left 1
        · intro wz hSw; (try dsimp only at hSw)
          have hq : wz.cell? ⟨W, 4, none⟩ = some (.pointer (some ⟨P, 0, none⟩)) := (World.cell?_of_block (w := V) (a := ⟨W, 4, none⟩) hSw.1).trans (unhide HPV)
          go_simp; all_goals with_reducible rfl
        try simp only [pS]
        refine tkH ?_ opn4 (fun _ _ _ h => h) hHeld ?_ ?_
        rotate_left 1
        · intro wz hSw; (try dsimp only at hSw)
          obtain ⟨⟨x0, x1, x2, x3⟩, ⟨x4, x5, x6, x7, x8⟩, xf⟩ := nine (hSw.2.trans (unhide HXV))
          go_simp; all_goals with_reducible rfl
        try simp only [pS]
        refine wpAnyH_ready (rs := [5]) (by kernel_rfl) (by simp) ?_
        refine AllReadyH.cons opn5 (fun K hK => ?_) AllReadyH.nil
        rw [if_pos (by kernel_rfl)]
        go_simp
        refine (unhide HP2).mono ?_
        rintro e w3 ⟨rfl, hT⟩
        have HT3 := hide ((unhide HT2) _ hT)
        have hk1 : w3.heap[W]? = V.heap[W]? := hT.same (unhide HKW).1 (unhide HKW).2
        have hk2 : w3.heap[w2.heap.size]? = V.heap[w2.heap.size]? := hT.same (unhide HLX) (unhide HKX)
        clear hT
        refine hK.out _ _ (⟨hk1, hk2⟩) (fun hHeldN => ?_)
        clear hHeld hK K; have hHeld := hHeldN; clear hHeldN
        try simp only [pS]
        clear hk1 hk2
        refine tkH ?_ opn6 (fun _ _ _ h => h) hHeld ?_ ?_
        rotate_left 1
        · intro wz hSw; (try dsimp only at hSw); go_simp; all_goals with_reducible rfl
        try simp only [pS]
        refine wpAnyH_done (by kernel_rfl) ?_ _
        go_wp2
        go_ret
        exact ⟨rfl, unhide HT3⟩
      · rw [if_neg hf] at e1
        rw [decide_eq_false hf] at HP
        rw [hse hf] at HT HP
        rw [e1]
        clear h e1 hn hm hop hse hsm hf
        go_enter Tryz.func46, Tryz.ntmps46
        go_wp2_with fail
        refine (unhide HC).mono ?_
        rintro e w1 ⟨rfl, hw⟩
        subst hw
        go_wp2_with fail
        refine (unhide HS).mono ?_
        rintro e w2 ⟨rfl, hb⟩
        obtain ⟨V, hV⟩ : ∃ V, V = w2.alloc (.cells #[.bool pr, .int .i64 pc, .int .i64 pn, .int .i64 pk, .string pa, .string pb, .string pt, .int .i64 pd, .string pu] 92) := ⟨_, rfl⟩
        have hBV : Below w2.heap.size w2 V := by rw [hV]; exact (Below.refl _ _).alloc (Nat.le_refl _) _
        have hbV := hb.trans (hBV.mono hb.size)
        have hXV : V.heap[w2.heap.size]? = some (.cells #[.bool pr, .int .i64 pc, .int .i64 pn, .int .i64 pk, .string pa, .string pb, .string pt, .int .i64 pd, .string pu] 92 (0, 0)) := by rw [hV]; exact heap_alloc_new _ _
        have HPV := hide ((unhide HPC) _ hbV)
        have HXV := hide hXV
        have HP2 := hide ((unhide HP) _ (hbV.trans ((below_drew V).mono hbV.size)))
        have HT2 := hide (fun w' hT => (unhide HT) V.drew w' (hbV.trans ((below_drew V).mono hbV.size)) hT)
        have HKW := hide ((unhide HNW) V (hbV.size))
        have HKX := hide ((unhide HNX) w2.heap.size hb.size)
        have HLX : Hid (w2.heap.size < V.heap.size) := (Array.getElem?_eq_some_iff.1 hXV).1
        have HV := hide hV
        clear hV hb hBV hbV hXV
        go_wp2_with fail
        rw [← unhide HV]
        refine wp_region_held_drew (S := (fun wx => wx.heap[W]? = V.heap[W]? ∧ wx.heap[w2.heap.size]? = V.heap[w2.heap.size]?)) (by kernel_rfl) (⟨rfl, rfl⟩) (fun hHeld => ?_)
        refine tkH ?_ opn0 (fun _ _ _ h => h) hHeld ?_ ?_
        rotate_left 1
        · intro wz hSw; (try dsimp only at hSw); go_simp; all_goals with_reducible rfl
        try simp only [pS]
        refine tkH ?_ opn1 (fun _ _ _ h => h) hHeld ?_ ?_
        rotate_left 1
        · intro wz hSw; (try dsimp only at hSw); go_simp; all_goals with_reducible rfl
        try simp only [pS]
        refine tkH ?_ opn2 (fun _ _ _ h => h) hHeld ?_ ?_
        rotate_left 1
        · intro wz hSw; (try dsimp only at hSw); go_simp; all_goals with_reducible rfl
        try simp only [pS]
        refine tkH ?_ opn3 (fun _ _ _ h => h) hHeld ?_ ?_
        rotate_left 1
        · intro wz hSw; (try dsimp only at hSw)
          have hq : wz.cell? ⟨W, 4, none⟩ = some (.pointer (some ⟨P, 0, none⟩)) := (World.cell?_of_block (w := V) (a := ⟨W, 4, none⟩) hSw.1).trans (unhide HPV)
          go_simp; all_goals with_reducible rfl
        try simp only [pS]
        refine tkH ?_ opn4 (fun _ _ _ h => h) hHeld ?_ ?_
        rotate_left 1
        · intro wz hSw; (try dsimp only at hSw)
          obtain ⟨⟨x0, x1, x2, x3⟩, ⟨x4, x5, x6, x7, x8⟩, xf⟩ := nine (hSw.2.trans (unhide HXV))
          go_simp; all_goals with_reducible rfl
        try simp only [pS]
        refine wpAnyH_ready (rs := [5]) (by kernel_rfl) (by simp) ?_
        refine AllReadyH.cons opn5 (fun K hK => ?_) AllReadyH.nil
        rw [if_pos (by kernel_rfl)]
        go_simp
        refine (unhide HP2).mono ?_
        rintro e w3 ⟨rfl, hT⟩
        have HT3 := hide ((unhide HT2) _ hT)
        have hk1 : w3.heap[W]? = V.heap[W]? := hT.same (unhide HKW).1 (unhide HKW).2
        have hk2 : w3.heap[w2.heap.size]? = V.heap[w2.heap.size]? := hT.same (unhide HLX) (unhide HKX)
        clear hT
        refine hK.out _ _ (⟨hk1, hk2⟩) (fun hHeldN => ?_)
        clear hHeld hK K; have hHeld := hHeldN; clear hHeldN
        try simp only [pS]
        clear hk1 hk2
        refine tkH ?_ opn6 (fun _ _ _ h => h) hHeld ?_ ?_
        rotate_left 1
        · intro wz hSw; (try dsimp only at hSw); go_simp; all_goals with_reducible rfl
        try simp only [pS]
        refine wpAnyH_done (by kernel_rfl) ?_ _
        go_wp2
        go_ret
        exact ⟨rfl, unhide HT3⟩
set_option maxRecDepth 100000 in
set_option maxHeartbeats 4000000 in
theorem whear_any {N : Nat} {w : World} {W : Nat} {o : WOwn} {A : AW} (h : WRep N w W o A) (p : APkt) (hs : SmallP p) :
    Calls Tryz.prog 98 #[.pointer (some ⟨W, 0, none⟩), p.val] w fun e w' => e = .returned (.tuple #[]) ∧ WTurn N w W o w' (A.hear p) := by
  obtain ⟨V, hV⟩ : ∃ V, V = w.alloc (.cells #[.bool p.reply, .int .i64 p.client, .int .i64 p.no, .int .i64 p.call.kind, .string p.call.name, .string p.call.dst, .string p.call.text, .int .i64 p.code, .string p.ans] 92) := ⟨_, rfl⟩
  have hBV : Below w.heap.size w V := by rw [hV]; exact (Below.refl _ _).alloc (Nat.le_refl _) _
  have hXV : V.heap[w.heap.size]? = some (.cells #[.bool p.reply, .int .i64 p.client, .int .i64 p.no, .int .i64 p.call.kind, .string p.call.name, .string p.call.dst, .string p.call.text, .int .i64 p.code, .string p.ans] 92 (0, 0)) := by rw [hV]; exact heap_alloc_new _ _
  have hlV : w.heap.size < V.heap.size := (Array.getElem?_eq_some_iff.1 hXV).1
  have hrV := h.below hBV
  have HBV := hide hBV
  have HXV := hide hXV
  have HV := hide hV
  by_cases hn : p.client < 0 ∨ 2 < p.client
  · have e1 : A.hear p = A := by unfold AW.hear; rw [if_pos hn]
    rw [e1]
    have HC := hide (fun w => Client_none W w p.client hn)
    have HT := hide (fun w' (hb : Below V.heap.size V w') => (WTurn.of_below hrV hb).before hBV h.size)
    obtain ⟨⟨x0, x1, x2, x3⟩, ⟨x4, x5, x6, x7, x8⟩, xf⟩ := nine hXV
    clear h e1 hn hV hBV hXV hrV hs
    obtain ⟨pr, pc, pn, ⟨pk, pa, pb, pt⟩, pd, pu⟩ := p
    dsimp only [APkt.val] at *
    go_enter Tryz.func98, Tryz.ntmps98
    go_wp2_with fail
    rw [← unhide HV]
    refine ((unhide HC) _).mono ?_
    rintro e w1 ⟨rfl, hw⟩
    subst hw
    go_wp2
    refine bodyPost_end (v := .tuple #[]) (by simp [results, Tryz.results98, go_sem]) rfl ?_
    exact ⟨rfl, (unhide HT) _ (Below.refl _ _)⟩
  · obtain ⟨m, hm⟩ : ∃ m : Nat, p.client = (m : Int) := ⟨p.client.toNat, by omega⟩
    have hm3 : m < 3 := by omega
    have e1 : A.hear p = ⟨A.log, upd A.cl m ((A.cl m).heard p), A.ms⟩ := by unfold AW.hear; rw [if_neg hn, hm, Int.toNat_natCast]
    rw [e1]
    have HC := hide (Client_some hrV m hm3)
    have HK := hide (Hear_any (hrV.c m hm3) p hs)
    have HT := hide (fun w' (hT : KTurn N V (o.X m) (o.v m) w' ((A.cl m).heard p)) => (hrV.turnC hm3 hT ((h.c m hm3).ok.heard hs)).before hBV h.size)
    generalize o.X m = X at HC HK HT
    generalize o.v m = v at HK HT
    generalize (A.cl m).hears p = r at HK
    generalize (A.cl m).heard p = c' at HK HT ⊢
    obtain ⟨⟨x0, x1, x2, x3⟩, ⟨x4, x5, x6, x7, x8⟩, xf⟩ := nine hXV
    clear h e1 hn hm3 hs hV hBV hXV hrV
    obtain ⟨pr, pc, pn, ⟨pk, pa, pb, pt⟩, pd, pu⟩ := p
    dsimp only at hm
    subst hm
    dsimp only [APkt.val] at *
    go_enter Tryz.func98, Tryz.ntmps98
    go_wp2_with fail
    rw [← unhide HV]
    refine (unhide HC).mono ?_
    rintro e w1 ⟨rfl, hw⟩
    subst hw
    go_wp2_with fail
    refine (unhide HK).mono ?_
    rintro e w2 ⟨rfl, hT⟩
    have HT2 := hide ((unhide HT) _ hT)
    clear hT
    go_wp2
    refine bodyPost_end (v := .tuple #[]) (by simp [results, Tryz.results98, go_sem]) rfl ?_
    exact ⟨rfl, unhide HT2⟩
set_option maxRecDepth 100000 in
set_option maxHeartbeats 4000000 in
theorem wtear_any {N : Nat} {w : World} {W : Nat} {o : WOwn} {A : AW} (h : WRep N w W o A) (p : APkt) (hs : SmallP p) (keep : Int) :
    Calls Tryz.prog 74 #[.pointer (some ⟨W, 0, none⟩), p.val, .int .i64 keep] w fun e w' => e = .returned (.int .i64 (A.tear p keep).1) ∧ WTurn N w W o w' (A.tear p keep).2 := by
  obtain ⟨V, hV⟩ : ∃ V, V = w.alloc (.cells #[.bool p.reply, .int .i64 p.client, .int .i64 p.no, .int .i64 p.call.kind, .string p.call.name, .string p.call.dst, .string p.call.text, .int .i64 p.code, .string p.ans] 92) := ⟨_, rfl⟩
  have hBV : Below w.heap.size w V := by rw [hV]; exact (Below.refl _ _).alloc (Nat.le_refl _) _
  have hXV : V.heap[w.heap.size]? = some (.cells #[.bool p.reply, .int .i64 p.client, .int .i64 p.no, .int .i64 p.call.kind, .string p.call.name, .string p.call.dst, .string p.call.text, .int .i64 p.code, .string p.ans] 92 (0, 0)) := by rw [hV]; exact heap_alloc_new _ _
  have hlV : w.heap.size < V.heap.size := (Array.getElem?_eq_some_iff.1 hXV).1
  have hrV := h.below hBV
  have HBV := hide hBV
  have HXV := hide hXV
  have HV := hide hV
  have HSC := hide hrV.cells.1.1
  cases hr : p.reply
  · have e1 : A.tear p keep = ((aTear A.log p.client p.no p.call keep).1, ⟨(aTear A.log p.client p.no p.call keep).2, A.cl, A.ms⟩) := by unfold AW.tear; rw [hr]; rfl
    rw [e1]
    have hrD := hrV.below (below_drew V)
    have HTR := hide (STear_any hrD.s p.client p.no keep p.call h.ss hrD.size hs.max.1 hs.max.2.1 hs.max.2.2)
    have HT := hide (fun w' (hT : STurned N V.drew o.S o.own o.lv w' (aTear A.log p.client p.no p.call keep).2) => (hrD.turnS hT (aTear_short h.s.good h.ss _ _ _ _)).before (hBV.trans ((below_drew V).mono hBV.size)) h.size)
    have HKW : Hid (W < V.heap.size ∧ W ∉ sown o.S o.own o.lv) := ⟨hrV.lt, h.nW 3 (by omega)⟩
    have HKX : Hid (w.heap.size < V.heap.size ∧ w.heap.size ∉ sown o.S o.own o.lv) := ⟨hlV, h.not_part (Nat.le_refl _) (i := 3) (by omega)⟩
    generalize aTear A.log p.client p.no p.call keep = R at HTR HT
    obtain ⟨r1, r2⟩ := R
    dsimp only at HTR HT ⊢
    generalize o.S = S at HTR HT HSC HKW HKX
    generalize o.own = own at HTR HT HKW HKX
    generalize o.lv = lv at HTR HT HKW HKX
    have hx := nine hXV
    clear h e1 hV hBV hXV hrV hrD hs
    obtain ⟨pr, pc, pn, ⟨pk, pa, pb, pt⟩, pd, pu⟩ := p
    dsimp only [APkt.val] at *
    subst hr
    obtain ⟨⟨x0, x1, x2, x3⟩, ⟨x4, x5, x6, x7, x8⟩, xf⟩ := hx
    go_enter Tryz.func74, Tryz.ntmps74
    go_wp2_with fail
    rw [← unhide HV]
    clear x0 x1 x2 x3 x4 x5 x6 x7 x8 xf
    refine wp_region_held_drew (S := (fun wx => wx.heap[W]? = V.heap[W]? ∧ wx.heap[w.heap.size]? = V.heap[w.heap.size]?)) (by kernel_rfl) (⟨rfl, rfl⟩) (fun hHeld => ?_)
    refine tkH ?_ opn0 (fun _ _ _ h => h) hHeld ?_ ?_
    rotate_left 1
    · intro wz hSw; (try dsimp only at hSw); go_simp; all_goals with_reducible rfl
    try simp only [pS]
    refine tkH ?_ opn1 (fun _ _ _ h => h) hHeld ?_ ?_
    rotate_left 1
    · intro wz hSw; (try dsimp only at hSw); go_simp; all_goals with_reducible rfl
    try simp only [pS]
    refine tkH ?_ opn2 (fun _ _ _ h => h) hHeld ?_ ?_
    rotate_left 1
    · intro wz hSw; (try dsimp only at hSw); go_simp; all_goals with_reducible rfl
    try simp only [pS]
    refine tkH ?_ opn3 (fun _ _ _ h => h) hHeld ?_ ?_
    rotate_left 1
    · intro wz hSw; (try dsimp only at hSw)
      have hq : wz.cell? ⟨W, 0, none⟩ = some (.pointer (some ⟨S, 0, none⟩)) := (World.cell?_of_block (w := V) (a := ⟨W, 0, none⟩) hSw.1).trans (unhide HSC)
      go_simp; all_goals with_reducible rfl
    try simp only [pS]
    refine tkH ?_ opn4 (fun _ _ _ h => h) hHeld ?_ ?_
    rotate_left 1
    · intro wz hSw; (try dsimp only at hSw); go_simp; all_goals with_reducible rfl
    try simp only [pS]
    refine tkH ?_ opn5 (fun _ _ _ h => h) hHeld ?_ ?_
    rotate_left 1
    · intro wz hSw; (try dsimp only at hSw)
      obtain ⟨⟨x0, x1, x2, x3⟩, ⟨x4, x5, x6, x7, x8⟩, xf⟩ := nine (hSw.2.trans (unhide HXV))
      go_simp; all_goals with_reducible rfl
    try simp only [pS]
    refine tkH ?_ opn6 (fun _ _ _ h => h) hHeld ?_ ?_
    rotate_left 1
    · intro wz hSw; (try dsimp only at hSw); go_simp; all_goals with_reducible rfl
    try simp only [pS]
    refine tkH ?_ opn7 (fun _ _ _ h => h) hHeld ?_ ?_
    rotate_left 1
    · intro wz hSw; (try dsimp only at hSw)
      obtain ⟨⟨x0, x1, x2, x3⟩, ⟨x4, x5, x6, x7, x8⟩, xf⟩ := nine (hSw.2.trans (unhide HXV))
      go_simp; all_goals with_reducible rfl
    try simp only [pS]
    refine tkH ?_ opn8 (fun _ _ _ h => h) hHeld ?_ ?_
    rotate_left 1
    · intro wz hSw; (try dsimp only at hSw); go_simp; all_goals with_reducible rfl
    try simp only [pS]
    refine tkH ?_ opn9 (fun _ _ _ h => h) hHeld ?_ ?_
    rotate_left 1
    · intro wz hSw; (try dsimp only at hSw)
      obtain ⟨⟨x0, x1, x2, x3⟩, ⟨x4, x5, x6, x7, x8⟩, xf⟩ := nine (hSw.2.trans (unhide HXV))
      go_simp; all_goals with_reducible rfl
    try simp only [pS]
    refine tkH ?_ opn10 (fun _ _ _ h => h) hHeld ?_ ?_
    rotate_left 1
    · intro wz hSw; (try dsimp only at hSw); go_simp; all_goals with_reducible rfl
    try simp only [pS]
    refine wpAnyH_ready (rs := [11]) (by kernel_rfl) (by simp) ?_
    refine AllReadyH.cons opn11 (fun K hK => ?_) AllReadyH.nil
    rw [if_pos (by kernel_rfl)]
    go_simp
    refine (unhide HTR).mono ?_
    rintro e w1 ⟨rfl, hT⟩
    have HT3 := hide ((unhide HT) _ hT)
    have hk1 : w1.heap[W]? = V.heap[W]? := hT.same (unhide HKW).1 (unhide HKW).2
    have hk2 : w1.heap[w.heap.size]? = V.heap[w.heap.size]? := hT.same (unhide HKX).1 (unhide HKX).2
    clear hT
    refine hK.out _ _ (⟨hk1, hk2⟩) (fun hHeldN => ?_)
    clear hHeld hK K; have hHeld := hHeldN; clear hHeldN
    try simp only [pS]
    clear hk1 hk2
    refine tkH ?_ opn12 (fun _ _ _ h => h) hHeld ?_ ?_
    rotate_left 1
    · intro wz hSw; (try dsimp only at hSw); go_simp; all_goals with_reducible rfl
    try simp only [pS]
    refine wpAnyH_done (by kernel_rfl) ?_ _
    go_wp2
    go_ret
    exact ⟨rfl, unhide HT3⟩
  · have e1 : A.tear p keep = (0, A) := by unfold AW.tear; rw [hr]; rfl
    rw [e1]
    have HCR := hide (Crash_any hrV.s (by have := h.ss; omega) hrV.size)
    have HT := hide (fun w' (hT : STurned N V o.S o.own o.lv w' A.log) => (hrV.turnS hT h.ss).before hBV h.size)
    have hWl := h.lt
    have hWn : W ≠ w.heap.size := by omega
    have hsc := h.cells.1.1
    generalize o.S = S at HCR HT hsc
    generalize o.own = own at HCR HT
    generalize o.lv = lv at HCR HT
    have hx := nine hXV
    clear HSC
    clear h e1 hV hBV hXV hrV hs
    obtain ⟨pr, pc, pn, ⟨pk, pa, pb, pt⟩, pd, pu⟩ := p
    dsimp only [APkt.val] at *
    subst hr
    obtain ⟨⟨x0, x1, x2, x3⟩, ⟨x4, x5, x6, x7, x8⟩, xf⟩ := hx
    go_enter Tryz.func74, Tryz.ntmps74
    go_wp2_with fail
    rw [← unhide HV]
    refine (unhide HCR).mono ?_
    rintro e w1 ⟨rfl, hT⟩
    have HT3 := hide ((unhide HT) _ hT)
    clear hT
    go_wp2
    go_ret
    exact ⟨rfl, unhide HT3⟩
end Go.Proofs.YtmbhbnoifimeaabGreat
