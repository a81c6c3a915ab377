/- The reference's BytesOf: the same bytes of a record. -/
import Derived.Test.YtemimppknlfghaaCq
import Derived.Lib.ConvBytes
namespace Go.Proofs.Ytemimppknlfghaa
open Go.RowKit
set_option linter.unusedSimpArgs false
set_option linter.unusedVariables false

theorem bytes_below (w : World) (s : ByteArray) : Below w.heap.size w (Lib.bytesWorld w 5 s) := ⟨rfl, rfl, rfl, by rw [Lib.bytesWorld_size]; omega, fun k hk => Lib.bytesWorld_at_old w 5 s k hk⟩
theorem bytes_lies (w : World) (s : ByteArray) (c : Nat) : Lies (Lib.bytesWorld w 5 s) (.slice (some ⟨w.heap.size, 0, none⟩) s.size c) s.size (bv s.data.toList) := .inr ⟨_, _, rfl, fun j u hu => by
  simp [bv] at hu
  obtain ⟨b, hb, rfl⟩ := hu
  have hj : j < s.size := (Array.getElem?_eq_some_iff.1 hb).1
  rw [addr_add, Nat.zero_add, Lib.bytesWorld_cell w 5 s j hj]
  simp [List.getD, hb]⟩

theorem row_lies {w : World} {N n c : Nat} {a : Option Addr} {bs : List UInt8} (h : BRow w N (.slice a n c) bs) (hn : bs.length = n) : Lies w (.slice a n c) n (bv bs) := by
  have h' := h
  unfold BRow at h'
  rw [hn] at h'
  cases a with
  | none =>
    obtain ⟨rfl, rfl⟩ := row_none h'
    exact .inl ⟨rfl, rfl, by rw [List.length_eq_zero_iff.1 hn]; rfl⟩
  | some A =>
    obtain ⟨g, rfl, _⟩ := row_some h'
    exact h.lies

theorem wrapL (L : Nat) (h : L ≤ 250) : wrap64 (4 + (L : Int) + 1) % 256 = 5 + (L : Int) := by
  have h1 : wrap64 (4 + (L : Int) + 1) = 5 + (L : Int) := by unfold wrap64; omega
  rw [h1]; omega

set_option maxRecDepth 100000 in
set_option maxHeartbeats 4000000 in
theorem BytesOf_any (r : ARec) (w : World) (n : Nat) (E : List UInt8) (hE : encL r = E) (hn : E.length = n) (hr : recI r = 0) :
    Calls Try.prog 35 #[r.val] w fun e w' => ∃ g cap, e = .returned (.slice (some ⟨g, 0, none⟩) n cap) ∧ BRow w' w.heap.size (.slice (some ⟨g, 0, none⟩) n cap) E ∧ Below w.heap.size w w' := by
  obtain ⟨c, no, ⟨k, a, b, t⟩, d, u⟩ := r
  obtain ⟨c0, c1, n0, n1, k0, k1, chk, d0, d1, hu, s1, s2, s3⟩ := rec_ok hr
  dsimp only at c0 c1 n0 n1 k0 k1 chk d0 d1 hu s1 s2 s3
  have hts : ∀ x, x ∈ [a, b, t] → x.size ≤ 255 := by intro x hx; simp at hx; rcases hx with rfl | rfl | rfl <;> omega
  obtain ⟨ts, hts0⟩ : ∃ ts, ts = [a, b, t] := ⟨_, rfl⟩
  obtain ⟨hdr, hhdr⟩ : ∃ l : List UInt8, l = [UInt8.ofNat c.toNat, UInt8.ofNat no.toNat, UInt8.ofNat k.toNat, UInt8.ofNat d.toNat] := ⟨_, rfl⟩
  have hbv : bv hdr = [.int .u8 c, .int .u8 no, .int .u8 k, .int .u8 d] := by
    rw [hhdr]
    simp only [bv, List.map_cons, List.map_nil, ofInt_u8 c0 (by omega), ofInt_u8 (x := no) (by omega) (by omega), ofInt_u8 (x := k) (by omega) (by omega), ofInt_u8 d0 (by omega)]
  have hhl : hdr.length = 4 := by rw [hhdr]; rfl
  have hL : (tb ts).length ≤ 250 := by rw [hts0]; simp [tb, ebytes_length]; omega
  obtain ⟨L, hLn⟩ : ∃ L, (tb ts).length = L := ⟨_, rfl⟩
  have hEE : E = [UInt8.ofNat (5 + L)] ++ (hdr ++ tb ts) := by
    rw [← hE, hhdr, ← hLn, hts0]
    rfl
  have hnn : n = 5 + L := by rw [← hn, hEE, List.length_append, List.length_append, hhl, hLn, List.length_singleton]; omega
  have e1 : bv [UInt8.ofNat (5 + L)] = [.int .u8 ((5 + L : Nat) : Int)] := by
    have : (UInt8.ofNat (5 + L)).toNat = 5 + L := by simp; omega
    simp only [bv, List.map_cons, List.map_nil, this]
  obtain ⟨fl, hfl⟩ : ∃ fl : Nat → Nat, ∀ k, fl k = (tb (ts.take k)).length := ⟨_, fun _ => rfl⟩
  have hfle : ∀ k, fl k ≤ 1000 := fun k => by
    rw [hfl]
    have h1 := flen_le (ts.take k) (fun t h => hts t (by rw [← hts0]; exact List.mem_of_mem_take h))
    have h2 : (ts.take k).length ≤ 3 := by rw [List.length_take, hts0]; simp; omega
    omega
  have wc : IntKind.u8.wrap c = c := by rw [IntKind.wrap_u8]; omega
  have wn : IntKind.u8.wrap no = no := by rw [IntKind.wrap_u8]; omega
  have wk : IntKind.u8.wrap k = k := by rw [IntKind.wrap_u8]; omega
  have wd : IntKind.u8.wrap d = d := by rw [IntKind.wrap_u8]; omega
  have wL : IntKind.u8.wrap ((4 : Int) + (L : Int) + 1) = (5 : Int) + (L : Int) := by rw [IntKind.wrap_u8]; omega
  have hct3 : ∀ j, j < 3 → ∃ x, (#[Value.string a, .string b, .string t] : Array Value)[j]? = some (.string x) ∧ ts[j]? = some x ∧ x.size ≤ 255 := fun j hj => by
    have h : ∀ x, ts[j]? = some x → x.size ≤ 255 := fun x hx => hts x (by rw [← hts0]; exact List.mem_of_getElem? hx)
    rw [hts0] at h ⊢
    match j, hj, h with
    | 0, _, h => exact ⟨a, rfl, rfl, h a rfl⟩
    | 1, _, h => exact ⟨b, rfl, rfl, h b rfl⟩
    | 2, _, h => exact ⟨t, rfl, rfl, h t rfl⟩
  have hfull : ts.take 3 = ts := by rw [hts0]; rfl
  have HH := hide (And.intro hbv (And.intro hhl (And.intro hEE (And.intro hnn (And.intro e1 (And.intro hLn hfull))))))
  have HFL := hide hfl
  have HC3 := hide hct3
  have hcv : ∀ (W : World) (s : ByteArray), (convert 9 48 (.string s)).run Try.prog W = .ok (.slice (some ⟨W.heap.size, 0, none⟩) s.size (grownCap W s.size 0 5)) (Lib.bytesWorld W 5 s) := fun W s => Lib.run_convert_string_bytes W 9 48 5 s Try.underlying9 Try.underlying48 Try.underlying5
  clear hts hbv hhl hEE hnn e1 hfl hct3 hE hn hr chk hu s1 s2 s3 c0 c1 n0 n1 k0 k1 d0 d1 hhdr hts0 hLn hfull
  simp only [ARec.val]
  go_enter Try.func35, Try.ntmps35
  go_wp2
  obtain ⟨W0, hW0⟩ : ∃ W0, W0 = (((w.alloc (.cells #[.int .i64 c, .int .i64 no, .int .i64 k, .string a, .string b, .string t, .int .i64 d, .string u] 47)).alloc (.cells #[.int .u8 c, .int .u8 no, .int .u8 k, .int .u8 d] 5)).alloc (.cells #[.string a, .string b, .string t] 9)) := ⟨_, rfl⟩
  rw [← hW0]
  have HB0 : Hid (Below w.heap.size w W0) := by rw [hW0]; exact (((Below.refl w.heap.size w).alloc (Nat.le_refl _) _).alloc (by simp) _).alloc (by simp; omega) _
  have HT0 : Hid (W0.heap[w.heap.size + 2]? = some (.cells #[.string a, .string b, .string t] 9 (0, 0))) := by
    rw [hW0]
    have h := heap_alloc_new ((w.alloc (.cells #[.int .i64 c, .int .i64 no, .int .i64 k, .string a, .string b, .string t, .int .i64 d, .string u] 47)).alloc (.cells #[.int .u8 c, .int .u8 no, .int .u8 k, .int .u8 d] 5)) (.cells #[.string a, .string b, .string t] 9)
    rw [show ((w.alloc (.cells #[.int .i64 c, .int .i64 no, .int .i64 k, .string a, .string b, .string t, .int .i64 d, .string u] 47)).alloc (.cells #[.int .u8 c, .int .u8 no, .int .u8 k, .int .u8 d] 5)).heap.size = w.heap.size + 2 by simp] at h
    exact h
  have HR0 : Hid (BRow W0 w.heap.size (.slice (some ⟨w.heap.size + 1, 0, none⟩) 4 4) hdr) := by
    have h := World.ownsRow_lit (w.alloc (.cells #[.int .i64 c, .int .i64 no, .int .i64 k, .string a, .string b, .string t, .int .i64 d, .string u] 47)) #[.int .u8 c, .int .u8 no, .int .u8 k, .int .u8 d] (base := w.heap.size) (e := 5) (size := 1) 4 (by simp) (by unfold maxLen; omega) rfl
    rw [hW0]
    unfold BRow
    rw [(unhide HH).1, (unhide HH).2.1]
    have h2 := h.alloc (.cells #[.string a, .string b, .string t] 9)
    rw [show (w.alloc (.cells #[.int .i64 c, .int .i64 no, .int .i64 k, .string a, .string b, .string t, .int .i64 d, .string u] 47)).heap.size = w.heap.size + 1 by simp] at h2
    exact h2
  clear hW0
  go_loopw [3, 5] (fun v i wr => ∃ (q : Nat) (a1 : Option Addr) (c1 : Nat), q ≤ 3 ∧ i = .int .i64 (q : Int) ∧ v = .slice a1 (4 + fl q) c1 ∧ Hid (BRow wr w.heap.size (.slice a1 (4 + fl q) c1) (hdr ++ tb (ts.take q))) ∧ Hid (Below w.heap.size w wr) ∧ Hid ((Value.slice a1 (4 + fl q) c1).ownBlock ≠ some (w.heap.size + 2)) ∧ Hid (wr.heap[w.heap.size + 2]? = some (.cells #[.string a, .string b, .string t] 9 (0, 0)))) (fun _ i _ => 3 - (intOf i).toNat)
  case atStart =>
    have e0 : fl 0 = 0 := by rw [unhide HFL]; simp [tb]
    refine ⟨0, some ⟨w.heap.size + 1, 0, none⟩, 4, Nat.zero_le _, rfl, by rw [e0], ?_, unhide HB0, by simp [Hid, Value.ownBlock], unhide HT0⟩
    rw [e0]
    simp only [List.take_zero, tb, List.flatMap_nil, List.append_nil]
    exact unhide HR0
  case round =>
    obtain ⟨q, a1, c1, hq, rfl, rfl, HO, HB, HN, HT⟩ := hrel
    by_cases h3 : (q : Int) < 3
    · obtain ⟨x, hx, hxt, hxs⟩ := (unhide HC3) q (by omega)
      have hcx : wr.cell? ⟨w.heap.size + 2, q, none⟩ = some (.string x) := by rw [cell_of_row wr _ _ _ _ _ (unhide HT)]; exact hx
      have hw8 : IntKind.u8.wrap (x.size : Int) = (x.size : Int) := by rw [IntKind.wrap_u8]; omega
      have hf1 := hfle q
      have hsucc : fl (q + 1) = fl q + (1 + x.size) := by rw [unhide HFL, unhide HFL, ftake_succ ts q x hxt, List.length_append, ebytes_length]
      have hlen : (hdr ++ tb (ts.take q)).length = 4 + fl q := by rw [List.length_append, (unhide HH).2.1, unhide HFL]
      have hTl : w.heap.size + 2 < wr.heap.size := (Array.getElem?_eq_some_iff.1 (unhide HT)).1
      have HX := hide hxt
      have HSU := hide hsucc
      clear hxt hsucc
      go_wp2_with (first
        | (at_builtin; refine wpList_bytes' _ rfl _ _ rfl w.heap.size (.slice a1 (4 + fl q) c1) (hdr ++ tb (ts.take q)) rfl ((unhide HO).alloc _) (.slice (some ⟨wr.heap.size, 0, none⟩) 1 1) 1 [UInt8.ofNat x.size] rfl rfl (by have e2 : bv [UInt8.ofNat x.size] = [.int .u8 (x.size : Int)] := (by have : (UInt8.ofNat x.size).toNat = x.size := (by simp; omega); simp only [bv, List.map_cons, List.map_nil, this]); rw [e2]; exact lies_block (heap_alloc_new wr (.cells #[.int .u8 (x.size : Int)] 5)) 1 1) (by rw [hlen]; omega) (by simp; omega) ?_; intro ad2 c2 w2 ho2 hg2 hat2; rw [hlen] at ho2 hat2; have hz2 : wr.heap.size + 1 ≤ w2.heap.size := (by have := hg2.size; simp at this; omega); have HT2 := hide ((hg2.block (w.heap.size + 2) (by simp; omega) (fun e => (unhide HN) e.symm)).trans ((Below.heap_alloc wr (.cells #[.int .u8 (x.size : Int)] 5) (w.heap.size + 2) hTl).trans (unhide HT))); have hcx2 : w2.cell? ⟨w.heap.size + 2, q, none⟩ = some (.string x) := (by rw [cell_of_row w2 _ _ _ _ _ (unhide HT2)]; exact hx))
        | (at_builtin; refine wpList_bytes' _ rfl _ _ rfl w.heap.size (.slice ad2 (4 + fl q + 1) c2) (hdr ++ tb (ts.take q) ++ [UInt8.ofNat x.size]) rfl (ho2.below (bytes_below w2 x)) (.slice (some ⟨w2.heap.size, 0, none⟩) x.size (grownCap w2 x.size 0 5)) x.size x.data.toList rfl (bsize x) (bytes_lies w2 x _) (by rw [List.length_append, hlen]; simp; omega) (by rw [Lib.bytesWorld_size]; omega) ?_; intro ad3 c3 w3 ho3 hg3 hat3))
      have hne2 : (Value.slice ad2 (4 + fl q + 1) c2).ownBlock ≠ some (w.heap.size + 2) := fun e => by
        rcases hat2 with h | h
        · exact (unhide HN) (h.symm.trans e)
        · rw [h] at e
          simp at e
          omega
      have hlen2 : (hdr ++ tb (ts.take q) ++ [UInt8.ofNat x.size]).length + x.size = 4 + fl (q + 1) := by rw [List.length_append, hlen, unhide HSU]; simp; omega
      rw [hlen2] at ho3 hat3
      have hne3 : (Value.slice ad3 (4 + fl (q + 1)) c3).ownBlock ≠ some (w.heap.size + 2) := fun e => by
        rcases hat3 with h | h
        · exact hne2 (h.symm.trans e)
        · rw [h, Lib.bytesWorld_size] at e
          simp at e
          omega
      have HO3 : Hid (BRow w3 w.heap.size (.slice ad3 (4 + fl (q + 1)) c3) (hdr ++ tb (ts.take (q + 1)))) := by
        have e1 : hdr ++ tb (ts.take (q + 1)) = hdr ++ tb (ts.take q) ++ [UInt8.ofNat x.size] ++ x.data.toList := by
          rw [ftake_succ ts q x (unhide HX)]
          simp [ebytes]
        rw [e1]
        exact ho3
      have HT3 := hide ((hg3.block (w.heap.size + 2) (by rw [Lib.bytesWorld_size]; omega) (fun e => hne2 e.symm)).trans ((Lib.bytesWorld_at_old w2 5 x (w.heap.size + 2) (by omega)).trans (unhide HT2)))
      have HB2 := hide (((unhide HB).alloc (unhide HB).size (.cells #[.int .u8 (x.size : Int)] 5)).grown hg2 (by have := (unhide HB).size; simp; omega) (fun j hj => ((unhide HO).lt j hj).1))
      have HB2' := hide ((unhide HB2).trans ((bytes_below w2 x).mono (unhide HB2).size))
      have HB3 := hide ((unhide HB2').grown hg3 (unhide HB2').size (fun j hj => (ho2.lt j hj).1))
      have hl3 : hdr.length + ((tb (ts.take q)).length + 1) + x.size = 4 + fl (q + 1) := by
        rw [← hlen2]; simp
      clear ho3 hg3 hat3 ho2 hg2 hat2
      go_roundw
      case rel => exact ⟨q + 1, ad3, c3, by omega, by go_num, by rw [hl3], unhide HO3, unhide HB3, hne3, unhide HT3⟩
      case measure => simp [intOf]; omega
    · obtain rfl : q = 3 := by omega
      obtain ⟨hbv, hhl, hEE, hnn, e1, hLn, hfull⟩ := unhide HH
      have hf3 : fl 3 = L := by rw [unhide HFL, hfull, hLn]
      rw [hf3] at HO HN ⊢
      rw [hfull] at HO
      have HE1 := hide e1
      have HEE := hide hEE
      have HNN := hide hnn
      have HLH : Hid ((hdr ++ tb ts).length = 4 + L) := by show (hdr ++ tb ts).length = 4 + L; rw [List.length_append, hhl, hLn]
      have hzb := (unhide HB).size
      have hL' : L ≤ 250 := by rw [← hLn]; exact hL
      have HR1 : Hid (BRow (wr.alloc (.cells #[.int .u8 (4 + (L : Int) + 1)] 5)) w.heap.size (.slice (some ⟨wr.heap.size, 0, none⟩) 1 1) [UInt8.ofNat (5 + L)]) := by
        have h := World.ownsRow_lit wr #[.int .u8 (4 + (L : Int) + 1)] (base := w.heap.size) (e := 5) (size := 1) 1 hzb (by unfold maxLen; omega) rfl
        show World.ownsRow _ _ _ _ _ _ _
        rw [e1, show ((5 + L : Nat) : Int) = 4 + (L : Int) + 1 by omega]
        exact h
      have HS1 := hide ((unhide HO).alloc (.cells #[.int .u8 (4 + (L : Int) + 1)] 5))
      clear hbv hhl hEE hnn e1 hLn hfull hf3 wL
      go_wp2_with (at_builtin; refine wpList_bytes' _ rfl _ _ rfl w.heap.size (.slice (some ⟨wr.heap.size, 0, none⟩) 1 1) [UInt8.ofNat (5 + L)] rfl (unhide HR1) (.slice a1 (4 + L) c1) (4 + L) (hdr ++ tb ts) rfl (unhide HLH) (row_lies (unhide HS1) (unhide HLH)) (by simp; omega) (by simp; omega) ?_; intro ad2 c2 w2 ho2 hg2 hat2)
      have hl2 : [UInt8.ofNat (5 + L)].length + (4 + L) = n := by rw [unhide HNN]; simp; omega
      rw [hl2, ← unhide HEE] at ho2
      obtain ⟨g2, rfl, _⟩ := ho2.form (by rw [unhide HEE]; simp)
      have HB2 := hide (((unhide HB).alloc hzb (.cells #[.int .u8 (4 + (L : Int) + 1)] 5)).grown hg2 (by simp; omega) (fun j hj => ((unhide HR1).lt j hj).1))
      have HO2 := hide ho2
      have hl3 : 1 + (4 + L) = n := by rw [unhide HNN]; omega
      obtain rfl : n = 1 + (4 + L) := hl3.symm
      clear ho2 hg2 hat2 hl2 hl3
      go_wp2
      go_ret
      exact ⟨g2, c2, rfl, unhide HO2, unhide HB2⟩

end Go.Proofs.Ytemimppknlfghaa
