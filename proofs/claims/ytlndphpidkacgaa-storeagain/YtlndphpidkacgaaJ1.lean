/- Texts joined: Sa Cq Cp Cl Cs Ct. -/
import Derived.Test.YtlndphpidkacgaaCo
import Derived.Test.YtlndphpidkacgaaCn
import Derived.Lib.ConvBytes
import Derived.Test.YtlndphpidkacgaaCj
import Derived.Test.YtlndphpidkacgaaRb
import Derived.BigRegion
import Derived.Deep.RegionHeld3
/- A store, on lists: a log of records; what a call is answered, what it leaves. -/
namespace Go.Proofs.Ytlndphpidkacgaa
open Go.RowKit
set_option linter.unusedSimpArgs false
set_option linter.unusedVariables false

/-- The files behind records. -/
def behind (L : List ARec) : List AFile := L.foldl (fun st r => (aDo st r.call).st) []
theorem behind_snoc (L : List ARec) (r : ARec) : behind (L ++ [r]) = (aDo (behind L) r.call).st := by simp [behind]

theorem behind_from (L : List ARec) : ∀ st, Inv st → Inv (L.foldl (fun st r => (aDo st r.call).st) st) := by
  induction L with
  | nil => exact fun st h => h
  | cons r L ih => exact fun st h => ih _ (h.step r.call)
theorem behind_inv (L : List ARec) : Inv (behind L) := behind_from L [] Inv.nil

/-- A client's last record; zero: none. -/
def lastR (L : List ARec) (c : Int) : ARec := L.foldl (fun x r => if r.client = c then r else x) zeroRec
theorem lastR_snoc (L : List ARec) (r : ARec) (c : Int) : lastR (L ++ [r]) c = if r.client = c then r else lastR L c := by simp [lastR]
theorem lastR_nil (c : Int) : lastR [] c = zeroRec := rfl

/-- All records may be. -/
def Good (L : List ARec) : Prop := ∀ r, r ∈ L → recI r = 0
theorem Good.nil : Good [] := by simp [Good]
theorem Good.snoc {L : List ARec} {r : ARec} (h : Good L) (hr : recI r = 0) : Good (L ++ [r]) := fun q hq => by
  rcases List.mem_append.1 hq with h1 | h1
  · exact h q h1
  · simp at h1; subst h1; exact hr

theorem list_snoc {α : Type} (L : List α) : L = [] ∨ ∃ K r, L = K ++ [r] := by
  rcases List.eq_nil_or_concat L with h | ⟨K, r, h⟩
  · exact .inl h
  · exact .inr ⟨K, r, by simpa using h⟩

theorem snoc_ind {α : Type} {P : List α → Prop} (h0 : P []) (h1 : ∀ K r, P K → P (K ++ [r])) : ∀ L, P L := fun L => by
  have : ∀ n (L : List α), L.length = n → P L := fun n => by
    induction n with
    | zero => intro L h; rw [List.length_eq_zero_iff.1 h]; exact h0
    | succ n ih =>
      intro L h
      rcases list_snoc L with rfl | ⟨K, r, rfl⟩
      · exact h0
      · exact h1 K r (ih K (by simpa using h))
  exact this L.length L rfl

/-- It is zero, or it is one of the log's, of that client. -/
theorem lastR_or (L : List ARec) (c : Int) : lastR L c = zeroRec ∧ (∀ r, r ∈ L → r.client ≠ c) ∨ lastR L c ∈ L ∧ (lastR L c).client = c := by
  refine snoc_ind (P := fun L => lastR L c = zeroRec ∧ (∀ r, r ∈ L → r.client ≠ c) ∨ lastR L c ∈ L ∧ (lastR L c).client = c) (.inl ⟨rfl, by simp⟩) ?_ L
  intro K r ih
  rw [lastR_snoc]
  by_cases h : r.client = c
  · rw [if_pos h]; exact .inr ⟨by simp, h⟩
  · rw [if_neg h]
    rcases ih with ⟨h1, h2⟩ | ⟨h1, h2⟩
    · refine .inl ⟨h1, fun q hq => ?_⟩
      rcases List.mem_append.1 hq with h3 | h3
      · exact h2 q h3
      · simp at h3; subst h3; exact h
    · exact .inr ⟨by simp [h1], h2⟩

/-- The one that stands last of that client is it. -/
theorem lastR_at (L : List ARec) (c : Int) (i : Nat) (r : ARec) (hr : L[i]? = some r) (hc : r.client = c) (hb : ∀ j q, i < j → L[j]? = some q → q.client ≠ c) : lastR L c = r := by
  induction L using snoc_ind generalizing i with
  | h0 => simp at hr
  | h1 K q ih =>
    rw [lastR_snoc]
    by_cases hi : i < K.length
    · have h1 := hb K.length q hi (by simp)
      rw [if_neg h1]
      rw [List.getElem?_append_left hi] at hr
      refine ih i hr fun j p hj hp => hb j p hj ?_
      have : j < K.length := (List.getElem?_eq_some_iff.1 hp).1
      rw [List.getElem?_append_left this]; exact hp
    · rw [List.getElem?_append_right (by omega)] at hr
      have : i - K.length = 0 := by
        have := (List.getElem?_eq_some_iff.1 hr).1
        simp at this; omega
      rw [this] at hr
      simp at hr
      subst hr
      rw [if_pos hc]

/-- What a call is answered, by an answer (code, text) and a code; and the log behind it. -/
structure CRes where
  code : Int
  text : ByteArray
  err : Int
  log : List ARec

def logB (L : List ARec) : List UInt8 := L.flatMap encL
theorem logB_snoc (L : List ARec) (r : ARec) : logB (L ++ [r]) = logB L ++ encL r := by simp [logB]

/-- Are two calls the same? -/
def callB (c c' : ACall) : Bool := c.kind == c'.kind && c.name.toList == c'.name.toList && c.dst.toList == c'.dst.toList && c.text.toList == c'.text.toList
theorem callB_iff (c c' : ACall) : callB c c' = true ↔ c = c' := by
  obtain ⟨k, a, b, t⟩ := c
  obtain ⟨k', a', b', t'⟩ := c'
  unfold callB
  simp only [eqB]
  simp
  constructor
  · rintro ⟨⟨⟨h3, h4⟩, h5⟩, h6⟩
    exact ⟨h3, h4, h5, h6⟩
  · rintro ⟨h3, h4, h5, h6⟩
    exact ⟨⟨⟨h3, h4⟩, h5⟩, h6⟩
theorem callB_self (c : ACall) : callB c c = true := (callB_iff c c).2 rfl

def aCall (L : List ARec) (client no : Int) (c : ACall) : CRes :=
  if client < 0 ∨ 2 < client ∨ no < 1 ∨ 200 < no then ⟨0, ⟨#[]⟩, 9, L⟩
  else if checkI c ≠ 0 then ⟨0, ⟨#[]⟩, checkI c, L⟩
  else if changesB c.kind = false then ⟨(aDo (behind L) c).code, (aDo (behind L) c).text, 0, L⟩
  else if (lastR L client).no < no then
    (if 2000 < (logB L).length + (encL ⟨client, no, c, 0, ⟨#[]⟩⟩).length then ⟨0, ⟨#[]⟩, 7, L⟩
     else ⟨(aDo (behind L) c).code, (aDo (behind L) c).text, 0, L ++ [⟨client, no, c, (aDo (behind L) c).code, (aDo (behind L) c).text⟩]⟩)
  else if no = (lastR L client).no ∧ callB c (lastR L client).call = true then ⟨(lastR L client).code, (lastR L client).ans, 0, L⟩
  else ⟨0, ⟨#[]⟩, 10, L⟩

theorem change_kinds {k : Int} (h : changesB k = true) : k = 1 ∨ k = 2 ∨ k = 3 ∨ k = 4 := by
  simp [changesB] at h; omega
theorem ask_kinds {c : ACall} (h0 : checkI c = 0) (h : changesB c.kind = false) : c.kind = 5 ∨ c.kind = 6 := by
  have h1 : ¬ (c.kind < 1 ∨ 6 < c.kind) := fun h1 => by unfold checkI at h0; rw [if_pos h1] at h0; cases h0
  have h2 : ¬ (c.kind = 1 ∨ c.kind = 2 ∨ c.kind = 3 ∨ c.kind = 4) := fun h2 => by
    have : changesB c.kind = true := by simp [changesB]; omega
    rw [this] at h; cases h
  omega

theorem checkI_range (c : ACall) : 0 ≤ checkI c ∧ checkI c ≤ 4 := by
  unfold checkI
  repeat' split
  all_goals omega

theorem aDo_code (st : List AFile) (c : ACall) : 0 ≤ (aDo st c).code ∧ (aDo st c).code ≤ 99 := by
  have h := checkI_range c
  unfold aDo aCreate aRename aPut
  repeat' split
  all_goals (dsimp only; first | omega | (repeat' split) <;> (dsimp only; omega))

theorem aDo_change {c : ACall} (st : List AFile) (h : changesB c.kind = true) : (aDo st c).text = ⟨#[]⟩ := by
  have hk := change_kinds h
  unfold aDo
  split
  · rfl
  split
  · rfl
  split
  · omega
  split
  · rfl
  split
  · rfl
  split
  · rfl
  split
  · rfl
  · omega

theorem aDo_ask {c : ACall} (st : List AFile) (h : changesB c.kind = false) : (aDo st c).st = st := by
  by_cases h0 : checkI c = 0
  · have hk := ask_kinds h0 h
    unfold aDo
    rw [if_neg (by simpa using h0), if_neg (by omega)]
    split
    · rfl
    split
    · rfl
    rw [if_neg (by omega), if_neg (by omega), if_neg (by omega)]
  · unfold aDo
    rw [if_pos h0]

/-- The record that a new call makes may be; so may the one without its answer; both are as long. -/
theorem new_ok {client no : Int} {c : ACall} (h1 : ¬ (client < 0 ∨ 2 < client ∨ no < 1 ∨ 200 < no)) (h2 : checkI c = 0) (h3 : changesB c.kind = true) (st : List AFile) :
    recI ⟨client, no, c, 0, ⟨#[]⟩⟩ = 0 ∧ recI ⟨client, no, c, (aDo st c).code, (aDo st c).text⟩ = 0 ∧ (encL ⟨client, no, c, (aDo st c).code, (aDo st c).text⟩).length = (encL ⟨client, no, c, 0, ⟨#[]⟩⟩).length := by
  have ht := aDo_change st h3
  have hc := aDo_code st c
  refine ⟨?_, ?_, ?_⟩
  · unfold recI
    dsimp only
    rw [if_neg h1, if_neg (by simp [h3]), if_neg (by simp [h2]), if_neg (by omega), if_neg (by simp)]
  · unfold recI
    dsimp only
    rw [if_neg h1, if_neg (by simp [h3]), if_neg (by simp [h2]), if_neg (by omega), if_neg (by simp [ht])]
  · rw [encL_length, encL_length]; rfl

theorem aCall_good {L : List ARec} (hL : Good L) (client no : Int) (c : ACall) : Good (aCall L client no c).log := by
  unfold aCall
  split
  · exact hL
  rename_i h1
  split
  · exact hL
  rename_i h2
  split
  · exact hL
  rename_i h3
  split
  · split
    · exact hL
    · exact hL.snoc (new_ok h1 (by simpa using h2) (by simpa using h3) _).2.1
  split
  · exact hL
  · exact hL

/-- Of what is torn all stands in the log, or nothing. -/
def aTear (L : List ARec) (client no : Int) (c : ACall) (keep : Int) : Int × List ARec :=
  let r := aCall L client no c
  if r.err = 0 ∧ L.length < r.log.length ∧ keep < ((logB r.log).length : Int) - ((logB L).length : Int) then (r.err, L) else (r.err, r.log)

/-- A step: 0 a call, 1 a call that is torn, 2 a crash. -/
structure AStep where
  act : Int
  client : Int
  no : Int
  keep : Int
  call : ACall
def aStep (L : List ARec) (x : AStep) : List ARec :=
  if x.act = 0 then (aCall L x.client x.no x.call).log
  else if x.act = 1 then (aTear L x.client x.no x.call x.keep).2
  else L

theorem aCall_log (L : List ARec) (client no : Int) (c : ACall) : (aCall L client no c).log = L ∨ (aCall L client no c).err = 0 ∧ changesB c.kind = true ∧ ∃ r : ARec, (aCall L client no c).log = L ++ [r] ∧ r.client = client := by
  unfold aCall
  split
  · exact .inl rfl
  split
  · exact .inl rfl
  split
  · exact .inl rfl
  rename_i h3
  split
  · split
    · exact .inl rfl
    · exact .inr ⟨rfl, by simpa using h3, _, rfl, rfl⟩
  split
  · exact .inl rfl
  · exact .inl rfl

theorem aTear_log (L : List ARec) (client no : Int) (c : ACall) (keep : Int) : (aTear L client no c keep).2 = L ∨ (aTear L client no c keep).2 = (aCall L client no c).log := by
  unfold aTear
  dsimp only
  split
  · exact .inl rfl
  · exact .inr rfl

theorem aTear_good {L : List ARec} (hL : Good L) (client no : Int) (c : ACall) (keep : Int) : Good (aTear L client no c keep).2 := by
  rcases aTear_log L client no c keep with h | h
  · rw [h]; exact hL
  · rw [h]; exact aCall_good hL _ _ _
theorem aStep_good {L : List ARec} (hL : Good L) (x : AStep) : Good (aStep L x) := by
  unfold aStep
  split
  · exact aCall_good hL _ _ _
  split
  · exact aTear_good hL _ _ _ _
  · exact hL

/-- What others do leaves a client's last record. -/
theorem aCall_other {L : List ARec} {client no : Int} {c : ACall} {x : Int} (h : client ≠ x ∨ changesB c.kind = false) : lastR (aCall L client no c).log x = lastR L x := by
  rcases aCall_log L client no c with h1 | ⟨_, h2, r, h3, h4⟩
  · rw [h1]
  · rcases h with h | h
    · rw [h3, lastR_snoc, if_neg (by rw [h4]; exact h)]
    · rw [h2] at h; cases h
theorem aStep_other {L : List ARec} {s : AStep} {x : Int} (h : s.client ≠ x ∨ changesB s.call.kind = false ∨ s.act = 2) : lastR (aStep L s) x = lastR L x := by
  unfold aStep
  split
  · rename_i h0
    exact aCall_other (by rcases h with h | h | h; exact .inl h; exact .inr h; omega)
  split
  · rename_i h0
    have hh : lastR (aCall L s.client s.no s.call).log x = lastR L x := aCall_other (by rcases h with h | h | h; exact .inl h; exact .inr h; omega)
    rcases aTear_log L s.client s.no s.call s.keep with h1 | h1
    · rw [h1]
    · rw [h1]; exact hh
  · rfl

/-- Behind a call that was answered, and may change something, it is the client's last one. -/
theorem aCall_last {L : List ARec} (hL : Good L) {client no : Int} {c : ACall} (h0 : (aCall L client no c).err = 0) (hc : changesB c.kind = true) :
    lastR (aCall L client no c).log client = ⟨client, no, c, (aCall L client no c).code, (aCall L client no c).text⟩ ∧ (0 ≤ client ∧ client ≤ 2 ∧ 1 ≤ no ∧ no ≤ 200) ∧ checkI c = 0 := by
  unfold aCall at h0 ⊢
  split at h0
  · cases h0
  rename_i h1
  rw [if_neg h1]
  split at h0
  · rename_i h2; exact absurd h0 h2
  rename_i h2
  rw [if_neg h2, if_neg (by simp [hc])]
  rw [if_neg (by simp [hc])] at h0
  refine ⟨?_, by omega, by simpa using h2⟩
  split at h0
  · rename_i h3
    rw [if_pos h3]
    split at h0
    · cases h0
    · rename_i h4
      rw [if_neg h4]
      dsimp only
      rw [lastR_snoc, if_pos rfl]
  · rename_i h3
    rw [if_neg h3]
    split at h0
    · rename_i h4
      rw [if_pos h4]
      dsimp only
      rcases lastR_or L client with ⟨h5, _⟩ | ⟨_, h5⟩
      · rw [h5] at h4
        have : (zeroRec).no = 0 := rfl
        omega
      · generalize lastR L client = x at h4 h5
        obtain ⟨xc, xn, xk, xd, xu⟩ := x
        dsimp only at h4 h5
        obtain ⟨rfl, h4⟩ := h4
        obtain rfl := (callB_iff _ _).1 h4
        subst h5
        rfl
    · cases h0

/-- A call that comes again is answered as it was, and changes nothing. -/
theorem aCall_again {L : List ARec} {client no : Int} {c : ACall} {d : Int} {u : ByteArray} (hl : lastR L client = ⟨client, no, c, d, u⟩) (hr : 0 ≤ client ∧ client ≤ 2 ∧ 1 ≤ no ∧ no ≤ 200) (h0 : checkI c = 0) (hc : changesB c.kind = true) :
    aCall L client no c = ⟨d, u, 0, L⟩ := by
  unfold aCall
  rw [if_neg (by omega), if_neg (by simp [h0]), if_neg (by simp [hc]), if_neg (by rw [hl]; simp), if_pos (by rw [hl]; exact ⟨rfl, callB_self _⟩), hl]
theorem aCall_lower {L : List ARec} {client no : Int} {c : ACall} {d : Int} {u : ByteArray} (hl : lastR L client = ⟨client, no, c, d, u⟩) (hr : 0 ≤ client ∧ client ≤ 2 ∧ 1 ≤ no ∧ no ≤ 200) (h0 : checkI c = 0) (hc : changesB c.kind = true) :
    (aCall L client (no - 1) c).err ≠ 0 ∧ (aCall L client (no - 1) c).log = L := by
  unfold aCall
  by_cases h1 : no - 1 < 1
  · rw [if_pos (by omega)]; simp
  · rw [if_neg (by omega), if_neg (by simp [h0]), if_neg (by simp [hc]), if_neg (by rw [hl]; dsimp only; omega), if_neg (by rw [hl]; dsimp only; omega)]; simp

theorem aCall_err {L : List ARec} {client no : Int} {c : ACall} (h : (aCall L client no c).err ≠ 0) : (aCall L client no c).log = L ∧ (aCall L client no c).code = 0 ∧ (aCall L client no c).text = ⟨#[]⟩ := by
  unfold aCall at h ⊢
  split
  · exact ⟨rfl, rfl, rfl⟩
  rename_i h1
  rw [if_neg h1] at h
  split
  · exact ⟨rfl, rfl, rfl⟩
  rename_i h2
  rw [if_neg h2] at h
  split
  · rename_i h3; rw [if_pos h3] at h; exact absurd rfl h
  rename_i h3
  rw [if_neg h3] at h
  split
  · rename_i h4
    rw [if_pos h4] at h
    split
    · exact ⟨rfl, rfl, rfl⟩
    · rename_i h5; rw [if_neg h5] at h; exact absurd rfl h
  · rename_i h4
    rw [if_neg h4] at h
    split
    · rename_i h5; rw [if_pos h5] at h; exact absurd rfl h
    · exact ⟨rfl, rfl, rfl⟩

/-- A log's bytes are read as it. -/
theorem allR_log {L : List ARec} (hL : Good L) : allR (logB L) = (L, (logB L).length) := by
  have h := allR_cut L (logB L).length L.length hL (Nat.le_refl _) (by unfold endAt logB; rw [List.take_of_length_le (Nat.le_refl _)]; omega) (fun h => absurd h (by omega))
  unfold endAt at h
  rw [List.take_of_length_le (Nat.le_refl _)] at h
  unfold logB
  rw [List.take_of_length_le (by unfold logB; omega)] at h
  exact h
/-- .. and cut within its last record, as those ahead. -/
theorem allR_torn {L : List ARec} {r : ARec} (hL : Good (L ++ [r])) (k : Nat) (hk : k ≤ (encL r).length) : allR ((logB (L ++ [r])).take ((logB L).length + k)) = if k < (encL r).length then (L, (logB L).length) else (L ++ [r], (logB (L ++ [r])).length) := by
  by_cases h : k < (encL r).length
  · rw [if_pos h]
    have e1 : endAt (L ++ [r]) L.length = (logB L).length := by unfold endAt logB; rw [List.take_left]
    have e2 : endAt (L ++ [r]) (L.length + 1) = (logB L).length + (encL r).length := by
      unfold endAt
      rw [List.take_of_length_le (by simp)]
      simp [logB]
    have h1 := allR_cut (L ++ [r]) ((logB L).length + k) L.length hL (by simp) (by rw [e1]; omega) (fun _ => by rw [e2]; omega)
    rw [List.take_left, e1] at h1
    exact h1
  · rw [if_neg h, List.take_of_length_le (by rw [logB_snoc, List.length_append]; omega)]
    exact allR_log hL

end Go.Proofs.Ytlndphpidkacgaa

/- CodecCut: rows of one's own, side by side. -/
namespace Go.Proofs.Ytlndphpidkacgaa
open Go.RowKit
set_option linter.unusedSimpArgs false
set_option linter.unusedVariables false

/-- Append of bytes that lie somewhere onto bytes of one's own; and where they lie then. -/
theorem wpList_bytes' (w : World) {ops : Array Oper} {rest : List Oper} {o : Oper} {a : Act} {Q : Exit → Act → World → Prop} (hgd : o.guard = none) (s x : Operand)
    (ho : o.op = .call { callee := .builtin .append, args := #[s, x], argTypes := #[48, 48] })
    (N : Nat) (v : Value) (xs : List UInt8) (hs : a.eval s = v) (hown : BRow w N v xs) (y : Value) (m : Nat) (ys : List UInt8) (hx : a.eval x = y) (hl : ys.length = m) (hy : Lies w y m (bv ys)) (hsz : xs.length + m ≤ 1000000) (hN : N ≤ w.heap.size)
    (h : ∀ ad c w', BRow w' N (.slice ad (xs.length + m) c) (xs ++ ys) → w.grownBy w' v.ownBlock → ((Value.slice ad (xs.length + m) c).ownBlock = v.ownBlock ∨ (Value.slice ad (xs.length + m) c).ownBlock = some w.heap.size) → wpList Try.prog ops Q rest (a.put o.dst (.slice ad (xs.length + m) c)) w') : wpList Try.prog ops Q (o :: rest) a w := by
  obtain ⟨i0, hi0, hz0, hz1, hz2⟩ := info_parts cinfo5
  refine wpList_plain hgd fun K hK => ?_
  obtain ⟨ad, c, w', hr, h2, h3, h4⟩ := run_app (w := w) 48 o.type N 5 i0 _ 1 1 Try.underlying48 hi0 hz0 hz1 hz2 rfl (by omega) v xs.length (bv xs) hown y m (bv ys) hy (by rw [bv_length]; omega) (bv_one ys) (by unfold maxLen; omega) (by omega) hN
  unfold Oper.wp execOp
  simp only [ho, resolve, invoke, builtin, Sem.run_bind, Sem.run_pure, Result.andThen_ok, List.map_toArray, List.map_cons, List.map_nil, hs, hx, hr]
  refine hK _ _ (h ad c w' ?_ h3 h4)
  unfold BRow
  rw [List.length_append, hl, bv_append]
  exact h2

def endsV (os : List ARec) : List Value := (List.range os.length).map fun j => .int .i64 (endAt os (j + 1) : Int)
theorem endsV_snoc (os : List ARec) (r : ARec) : endsV (os ++ [r]) = endsV os ++ [.int .i64 (((os ++ [r]).flatMap encL).length : Int)] := by
  unfold endsV
  rw [List.length_append, List.length_singleton, List.range_succ, List.map_append]
  congr 1
  · apply List.map_congr_left
    intro j hj
    rw [List.mem_range] at hj
    unfold endAt
    rw [List.take_append_of_le_length (by omega)]
  · simp only [List.map_cons, List.map_nil, endAt]
    rw [List.take_of_length_le (by simp)]
theorem endsV_at (os : List ARec) (j : Nat) (h : j < os.length) : (endsV os)[j]? = some (.int .i64 (endAt os (j + 1) : Int)) := by
  unfold endsV
  rw [List.getElem?_map, List.getElem?_range h]
  rfl

/-- Three rows: bytes, records, where they end. -/
structure CutRows (N : Nat) (wr : World) (v5 v6 v7 : Value) (os : List ARec) : Prop where
  b : BRow wr N v5 (os.flatMap encL)
  r : wr.ownsRow N 47 8 v6 os.length (os.flatMap rcells)
  e : wr.ownsRow N 3 1 v7 os.length (endsV os)
  d56 : ∀ k, v5.ownBlock = some k → v6.ownBlock ≠ some k
  d57 : ∀ k, v5.ownBlock = some k → v7.ownBlock ≠ some k
  d67 : ∀ k, v6.ownBlock = some k → v7.ownBlock ≠ some k
theorem CutRows.start (N : Nat) (w : World) : CutRows N w (.slice none 0 0) (.slice none 0 0) (.slice none 0 0) [] :=
  ⟨BRow.nil _ _, World.ownsRow_nil _ _ _ _, World.ownsRow_nil _ _ _ _, by simp [Value.ownBlock], by simp [Value.ownBlock], by simp [Value.ownBlock]⟩
theorem CutRows.below {N : Nat} {wr W : World} {v5 v6 v7 : Value} {os : List ARec} (h : CutRows N wr v5 v6 v7 os) (hb : Below wr.heap.size wr W) : CutRows N W v5 v6 v7 os :=
  ⟨h.b.below hb, ownsRow_same h.r (fun k hk => hb.block k (h.r.lt k hk).2), ownsRow_same h.e (fun k hk => hb.block k (h.e.lt k hk).2), h.d56, h.d57, h.d67⟩

def okRecs (rs : List ARec) (k : Nat) : List ARec := (rs.take k).filter fun r => decide (recI r = 0)
theorem okRecs_yes {rs : List ARec} {k : Nat} {r : ARec} (hr : rs[k]? = some r) (h : recI r = 0) : okRecs rs (k + 1) = okRecs rs k ++ [r] := by
  unfold okRecs
  rw [List.take_add_one, hr]
  simp [h]
theorem okRecs_no {rs : List ARec} {k : Nat} {r : ARec} (hr : rs[k]? = some r) (h : recI r ≠ 0) : okRecs rs (k + 1) = okRecs rs k := by
  unfold okRecs
  rw [List.take_add_one, hr]
  simp [h]
theorem okRecs_good (rs : List ARec) (k : Nat) : ∀ r, r ∈ okRecs rs k → recI r = 0 := fun r hr => by
  unfold okRecs at hr
  simpa using (List.mem_filter.1 hr).2
theorem okRecs_le (rs : List ARec) (k : Nat) : (okRecs rs k).length ≤ k := by
  unfold okRecs
  have := List.length_filter_le (fun r => decide (recI r = 0)) (rs.take k)
  rw [List.length_take] at this
  omega

/-- A row that another one's growing does not meet. -/
theorem row_keep {w w' : World} {N s n : Nat} {e : TypeId} {v u : Value} {xs : List Value} (h : w.ownsRow N e s v n xs) (hg : w.grownBy w' u.ownBlock) (hd : ∀ k, v.ownBlock = some k → u.ownBlock ≠ some k) : w'.ownsRow N e s v n xs :=
  ownsRow_same h (fun k hk => hg.block k (h.lt k hk).2 (fun e => hd k hk e.symm))
/-- .. and where it lies then is another place still. -/
theorem apart_new {w : World} {v u u' : Value} (hd : ∀ k, v.ownBlock = some k → u.ownBlock ≠ some k) (hat : u'.ownBlock = u.ownBlock ∨ u'.ownBlock = some w.heap.size) (hlt : ∀ k, v.ownBlock = some k → k < w.heap.size) : ∀ k, v.ownBlock = some k → u'.ownBlock ≠ some k := fun k hk e => by
  rcases hat with h1 | h1
  · exact hd k hk (h1.symm.trans e)
  · rw [h1] at e
    cases e
    exact absurd (hlt _ hk) (Nat.lt_irrefl _)
theorem apart_at {v u : Value} {g H n c : Nat} (hd : ∀ k, v.ownBlock = some k → u.ownBlock ≠ some k) (hat : u.ownBlock = some g ∨ g = H) (hlt : ∀ k, v.ownBlock = some k → k < H) : ∀ k, v.ownBlock = some k → (Value.slice (some ⟨g, 0, none⟩) n c).ownBlock ≠ some k := fun k hk e => by
  have e : g = k := by simpa [Value.ownBlock] using e
  subst e
  rcases hat with h1 | h1
  · exact hd g hk h1
  · have := hlt g hk
    omega
theorem apart_sym {v u : Value} (hd : ∀ k, v.ownBlock = some k → u.ownBlock ≠ some k) : ∀ k, u.ownBlock = some k → v.ownBlock ≠ some k := fun k hk e => hd k e hk
theorem row_cap {w : World} {N s n c : Nat} {e : TypeId} {a : Option Addr} {xs : List Value} (h : w.ownsRow N e s (.slice a n c) n xs) : n ≤ c := by
  rcases h.2 with ⟨e, _⟩ | ⟨g', c', cur, e, _, _, h1, _⟩
  · cases e; exact Nat.le_refl _
  · cases e; exact h1
theorem row_none {w : World} {N s n c : Nat} {e : TypeId} {xs : List Value} (h : w.ownsRow N e s (.slice none n c) n xs) : n = 0 ∧ c = 0 := by
  rcases h.2 with ⟨e, _⟩ | ⟨g', c', cur, e, _, _, h1, _⟩
  · cases e; exact ⟨rfl, rfl⟩
  · cases e
theorem row_some {w : World} {N s n c : Nat} {e : TypeId} {A : Addr} {xs : List Value} (h : w.ownsRow N e s (.slice (some A) n c) n xs) : ∃ g, A = ⟨g, 0, none⟩ ∧ g < w.heap.size := by
  rcases h.2 with ⟨e, _⟩ | ⟨g', c', cur, e, _, _, h1, _⟩
  · cases e
  · cases e; exact ⟨g', rfl, (h.lt g' rfl).2⟩

/-- All of a row's first bytes. -/
theorem All_row {w : World} {N nb c K : Nat} {a : Option Addr} {bs : List UInt8} (h : BRow w N (.slice a nb c) bs) (hn : bs.length = nb) (hK : K ≤ nb) (hm : nb ≤ 1000000) : Calls Try.prog 38 #[.slice a K c] w (AllRes w (allR (bs.take K))) := by
  have h' := h
  unfold BRow at h'
  rw [hn] at h'
  cases a with
  | none =>
    obtain ⟨rfl, rfl⟩ := row_none h'
    obtain rfl : K = 0 := by omega
    rw [List.take_zero]
    exact All_none w
  | some A =>
    obtain ⟨g, rfl, hg⟩ := row_some h'
    have hc := row_cap h'
    refine All_some g 0 K c (bs.take K) w (fun j x hx => h.cells j x ?_) hg (by rw [List.length_take]; omega) (by omega) (by omega)
    rw [List.getElem?_take] at hx
    split at hx
    · exact hx
    · cases hx

theorem exists_cut (os : List ARec) (K : Nat) : ∃ m0, m0 ≤ os.length ∧ endAt os m0 ≤ K ∧ (m0 < os.length → K < endAt os (m0 + 1)) ∧ ∀ j, j < m0 → endAt os (j + 1) ≤ K := by
  have key : ∀ n, ∃ m0, m0 ≤ n ∧ endAt os m0 ≤ K ∧ (m0 < n → K < endAt os (m0 + 1)) ∧ ∀ j, j < m0 → endAt os (j + 1) ≤ K := fun n => by
    induction n with
    | zero => exact ⟨0, Nat.le_refl _, by simp [endAt], fun h => absurd h (Nat.lt_irrefl _), fun j h => absurd h (Nat.not_lt_zero _)⟩
    | succ n ih =>
      obtain ⟨m0, h1, h2, h3, h4⟩ := ih
      by_cases hm : m0 < n
      · exact ⟨m0, by omega, h2, fun _ => h3 hm, h4⟩
      · obtain rfl : m0 = n := by omega
        by_cases h5 : endAt os (m0 + 1) ≤ K
        · refine ⟨m0 + 1, Nat.le_refl _, h5, fun h => absurd h (Nat.lt_irrefl _), fun j hj => ?_⟩
          by_cases h6 : j < m0
          · exact h4 j h6
          · obtain rfl : j = m0 := by omega
            exact h5
        · exact ⟨m0, by omega, h2, fun _ => by omega, h4⟩
  exact key os.length
theorem recs_lies {w : World} {N m c : Nat} {a : Option Addr} {os : List ARec} (h : w.ownsRow N 47 8 (.slice a m c) m (os.flatMap rcells)) (hm : os.length = m) (k : Nat) (hk : k ≤ m) : RecsAt w a k (os.take k) := (recs_row h hm).take k hk

theorem info3 : (Try.prog.info? 3).map (fun i => (i.zero, i.size, i.bytes)) = some (some (.int .i64 0), 1, 8) := by kernel_rfl

end Go.Proofs.Ytlndphpidkacgaa

/- The reference's BytesOf: the same bytes of a record. -/
namespace Go.Proofs.Ytlndphpidkacgaa
open Go.RowKit
set_option linter.unusedSimpArgs false
set_option linter.unusedVariables false

theorem bytes_below (w : World) (s : ByteArray) : Below w.heap.size w (Lib.bytesWorld w 5 s) := ⟨rfl, rfl, rfl, by rw [Lib.bytesWorld_size]; omega, fun k hk => Lib.bytesWorld_at_old w 5 s k hk⟩
theorem bytes_lies (w : World) (s : ByteArray) (c : Nat) : Lies (Lib.bytesWorld w 5 s) (.slice (some ⟨w.heap.size, 0, none⟩) s.size c) s.size (bv s.data.toList) := .inr ⟨_, _, rfl, fun j u hu => by
  simp [bv] at hu
  obtain ⟨b, hb, rfl⟩ := hu
  have hj : j < s.size := (Array.getElem?_eq_some_iff.1 hb).1
  rw [addr_add, Nat.zero_add, Lib.bytesWorld_cell w 5 s j hj]
  simp [List.getD, hb]⟩

theorem row_lies {w : World} {N n c : Nat} {a : Option Addr} {bs : List UInt8} (h : BRow w N (.slice a n c) bs) (hn : bs.length = n) : Lies w (.slice a n c) n (bv bs) := by
  have h' := h
  unfold BRow at h'
  rw [hn] at h'
  cases a with
  | none =>
    obtain ⟨rfl, rfl⟩ := row_none h'
    exact .inl ⟨rfl, rfl, by rw [List.length_eq_zero_iff.1 hn]; rfl⟩
  | some A =>
    obtain ⟨g, rfl, _⟩ := row_some h'
    exact h.lies

theorem wrapL (L : Nat) (h : L ≤ 250) : wrap64 (4 + (L : Int) + 1) % 256 = 5 + (L : Int) := by
  have h1 : wrap64 (4 + (L : Int) + 1) = 5 + (L : Int) := by unfold wrap64; omega
  rw [h1]; omega

set_option maxRecDepth 100000 in
set_option maxHeartbeats 4000000 in
theorem BytesOf_any (r : ARec) (w : World) (n : Nat) (E : List UInt8) (hE : encL r = E) (hn : E.length = n) (hr : recI r = 0) :
    Calls Try.prog 35 #[r.val] w fun e w' => ∃ g cap, e = .returned (.slice (some ⟨g, 0, none⟩) n cap) ∧ BRow w' w.heap.size (.slice (some ⟨g, 0, none⟩) n cap) E ∧ Below w.heap.size w w' := by
  obtain ⟨c, no, ⟨k, a, b, t⟩, d, u⟩ := r
  obtain ⟨c0, c1, n0, n1, k0, k1, chk, d0, d1, hu, s1, s2, s3⟩ := rec_ok hr
  dsimp only at c0 c1 n0 n1 k0 k1 chk d0 d1 hu s1 s2 s3
  have hts : ∀ x, x ∈ [a, b, t] → x.size ≤ 255 := by intro x hx; simp at hx; rcases hx with rfl | rfl | rfl <;> omega
  obtain ⟨ts, hts0⟩ : ∃ ts, ts = [a, b, t] := ⟨_, rfl⟩
  obtain ⟨hdr, hhdr⟩ : ∃ l : List UInt8, l = [UInt8.ofNat c.toNat, UInt8.ofNat no.toNat, UInt8.ofNat k.toNat, UInt8.ofNat d.toNat] := ⟨_, rfl⟩
  have hbv : bv hdr = [.int .u8 c, .int .u8 no, .int .u8 k, .int .u8 d] := by
    rw [hhdr]
    simp only [bv, List.map_cons, List.map_nil, ofInt_u8 c0 (by omega), ofInt_u8 (x := no) (by omega) (by omega), ofInt_u8 (x := k) (by omega) (by omega), ofInt_u8 d0 (by omega)]
  have hhl : hdr.length = 4 := by rw [hhdr]; rfl
  have hL : (tb ts).length ≤ 250 := by rw [hts0]; simp [tb, ebytes_length]; omega
  obtain ⟨L, hLn⟩ : ∃ L, (tb ts).length = L := ⟨_, rfl⟩
  have hEE : E = [UInt8.ofNat (5 + L)] ++ (hdr ++ tb ts) := by
    rw [← hE, hhdr, ← hLn, hts0]
    rfl
  have hnn : n = 5 + L := by rw [← hn, hEE, List.length_append, List.length_append, hhl, hLn, List.length_singleton]; omega
  have e1 : bv [UInt8.ofNat (5 + L)] = [.int .u8 ((5 + L : Nat) : Int)] := by
    have : (UInt8.ofNat (5 + L)).toNat = 5 + L := by simp; omega
    simp only [bv, List.map_cons, List.map_nil, this]
  obtain ⟨fl, hfl⟩ : ∃ fl : Nat → Nat, ∀ k, fl k = (tb (ts.take k)).length := ⟨_, fun _ => rfl⟩
  have hfle : ∀ k, fl k ≤ 1000 := fun k => by
    rw [hfl]
    have h1 := flen_le (ts.take k) (fun t h => hts t (by rw [← hts0]; exact List.mem_of_mem_take h))
    have h2 : (ts.take k).length ≤ 3 := by rw [List.length_take, hts0]; simp; omega
    omega
  have wc : IntKind.u8.wrap c = c := by rw [IntKind.wrap_u8]; omega
  have wn : IntKind.u8.wrap no = no := by rw [IntKind.wrap_u8]; omega
  have wk : IntKind.u8.wrap k = k := by rw [IntKind.wrap_u8]; omega
  have wd : IntKind.u8.wrap d = d := by rw [IntKind.wrap_u8]; omega
  have wL : IntKind.u8.wrap ((4 : Int) + (L : Int) + 1) = (5 : Int) + (L : Int) := by rw [IntKind.wrap_u8]; omega
  have hct3 : ∀ j, j < 3 → ∃ x, (#[Value.string a, .string b, .string t] : Array Value)[j]? = some (.string x) ∧ ts[j]? = some x ∧ x.size ≤ 255 := fun j hj => by
    have h : ∀ x, ts[j]? = some x → x.size ≤ 255 := fun x hx => hts x (by rw [← hts0]; exact List.mem_of_getElem? hx)
    rw [hts0] at h ⊢
    match j, hj, h with
    | 0, _, h => exact ⟨a, rfl, rfl, h a rfl⟩
    | 1, _, h => exact ⟨b, rfl, rfl, h b rfl⟩
    | 2, _, h => exact ⟨t, rfl, rfl, h t rfl⟩
  have hfull : ts.take 3 = ts := by rw [hts0]; rfl
  have HH := hide (And.intro hbv (And.intro hhl (And.intro hEE (And.intro hnn (And.intro e1 (And.intro hLn hfull))))))
  have HFL := hide hfl
  have HC3 := hide hct3
  have hcv : ∀ (W : World) (s : ByteArray), (convert 9 48 (.string s)).run Try.prog W = .ok (.slice (some ⟨W.heap.size, 0, none⟩) s.size (grownCap W s.size 0 5)) (Lib.bytesWorld W 5 s) := fun W s => Lib.run_convert_string_bytes W 9 48 5 s Try.underlying9 Try.underlying48 Try.underlying5
  clear hts hbv hhl hEE hnn e1 hfl hct3 hE hn hr chk hu s1 s2 s3 c0 c1 n0 n1 k0 k1 d0 d1 hhdr hts0 hLn hfull
  simp only [ARec.val]
  go_enter Try.func35, Try.ntmps35
  go_wp2
  obtain ⟨W0, hW0⟩ : ∃ W0, W0 = (((w.alloc (.cells #[.int .i64 c, .int .i64 no, .int .i64 k, .string a, .string b, .string t, .int .i64 d, .string u] 47)).alloc (.cells #[.int .u8 c, .int .u8 no, .int .u8 k, .int .u8 d] 5)).alloc (.cells #[.string a, .string b, .string t] 9)) := ⟨_, rfl⟩
  rw [← hW0]
  have HB0 : Hid (Below w.heap.size w W0) := by rw [hW0]; exact (((Below.refl w.heap.size w).alloc (Nat.le_refl _) _).alloc (by simp) _).alloc (by simp; omega) _
  have HT0 : Hid (W0.heap[w.heap.size + 2]? = some (.cells #[.string a, .string b, .string t] 9 (0, 0))) := by
    rw [hW0]
    have h := heap_alloc_new ((w.alloc (.cells #[.int .i64 c, .int .i64 no, .int .i64 k, .string a, .string b, .string t, .int .i64 d, .string u] 47)).alloc (.cells #[.int .u8 c, .int .u8 no, .int .u8 k, .int .u8 d] 5)) (.cells #[.string a, .string b, .string t] 9)
    rw [show ((w.alloc (.cells #[.int .i64 c, .int .i64 no, .int .i64 k, .string a, .string b, .string t, .int .i64 d, .string u] 47)).alloc (.cells #[.int .u8 c, .int .u8 no, .int .u8 k, .int .u8 d] 5)).heap.size = w.heap.size + 2 by simp] at h
    exact h
  have HR0 : Hid (BRow W0 w.heap.size (.slice (some ⟨w.heap.size + 1, 0, none⟩) 4 4) hdr) := by
    have h := World.ownsRow_lit (w.alloc (.cells #[.int .i64 c, .int .i64 no, .int .i64 k, .string a, .string b, .string t, .int .i64 d, .string u] 47)) #[.int .u8 c, .int .u8 no, .int .u8 k, .int .u8 d] (base := w.heap.size) (e := 5) (size := 1) 4 (by simp) (by unfold maxLen; omega) rfl
    rw [hW0]
    unfold BRow
    rw [(unhide HH).1, (unhide HH).2.1]
    have h2 := h.alloc (.cells #[.string a, .string b, .string t] 9)
    rw [show (w.alloc (.cells #[.int .i64 c, .int .i64 no, .int .i64 k, .string a, .string b, .string t, .int .i64 d, .string u] 47)).heap.size = w.heap.size + 1 by simp] at h2
    exact h2
  clear hW0
  go_loopw [3, 5] (fun v i wr => ∃ (q : Nat) (a1 : Option Addr) (c1 : Nat), q ≤ 3 ∧ i = .int .i64 (q : Int) ∧ v = .slice a1 (4 + fl q) c1 ∧ Hid (BRow wr w.heap.size (.slice a1 (4 + fl q) c1) (hdr ++ tb (ts.take q))) ∧ Hid (Below w.heap.size w wr) ∧ Hid ((Value.slice a1 (4 + fl q) c1).ownBlock ≠ some (w.heap.size + 2)) ∧ Hid (wr.heap[w.heap.size + 2]? = some (.cells #[.string a, .string b, .string t] 9 (0, 0)))) (fun _ i _ => 3 - (intOf i).toNat)
  case atStart =>
    have e0 : fl 0 = 0 := by rw [unhide HFL]; simp [tb]
    refine ⟨0, some ⟨w.heap.size + 1, 0, none⟩, 4, Nat.zero_le _, rfl, by rw [e0], ?_, unhide HB0, by simp [Hid, Value.ownBlock], unhide HT0⟩
    rw [e0]
    simp only [List.take_zero, tb, List.flatMap_nil, List.append_nil]
    exact unhide HR0
  case round =>
    obtain ⟨q, a1, c1, hq, rfl, rfl, HO, HB, HN, HT⟩ := hrel
    by_cases h3 : (q : Int) < 3
    · obtain ⟨x, hx, hxt, hxs⟩ := (unhide HC3) q (by omega)
      have hcx : wr.cell? ⟨w.heap.size + 2, q, none⟩ = some (.string x) := by rw [cell_of_row wr _ _ _ _ _ (unhide HT)]; exact hx
      have hw8 : IntKind.u8.wrap (x.size : Int) = (x.size : Int) := by rw [IntKind.wrap_u8]; omega
      have hf1 := hfle q
      have hsucc : fl (q + 1) = fl q + (1 + x.size) := by rw [unhide HFL, unhide HFL, ftake_succ ts q x hxt, List.length_append, ebytes_length]
      have hlen : (hdr ++ tb (ts.take q)).length = 4 + fl q := by rw [List.length_append, (unhide HH).2.1, unhide HFL]
      have hTl : w.heap.size + 2 < wr.heap.size := (Array.getElem?_eq_some_iff.1 (unhide HT)).1
      have HX := hide hxt
      have HSU := hide hsucc
      clear hxt hsucc
      go_wp2_with (first
        | (at_builtin; refine wpList_bytes' _ rfl _ _ rfl w.heap.size (.slice a1 (4 + fl q) c1) (hdr ++ tb (ts.take q)) rfl ((unhide HO).alloc _) (.slice (some ⟨wr.heap.size, 0, none⟩) 1 1) 1 [UInt8.ofNat x.size] rfl rfl (by have e2 : bv [UInt8.ofNat x.size] = [.int .u8 (x.size : Int)] := (by have : (UInt8.ofNat x.size).toNat = x.size := (by simp; omega); simp only [bv, List.map_cons, List.map_nil, this]); rw [e2]; exact lies_block (heap_alloc_new wr (.cells #[.int .u8 (x.size : Int)] 5)) 1 1) (by rw [hlen]; omega) (by simp; omega) ?_; intro ad2 c2 w2 ho2 hg2 hat2; rw [hlen] at ho2 hat2; have hz2 : wr.heap.size + 1 ≤ w2.heap.size := (by have := hg2.size; simp at this; omega); have HT2 := hide ((hg2.block (w.heap.size + 2) (by simp; omega) (fun e => (unhide HN) e.symm)).trans ((Below.heap_alloc wr (.cells #[.int .u8 (x.size : Int)] 5) (w.heap.size + 2) hTl).trans (unhide HT))); have hcx2 : w2.cell? ⟨w.heap.size + 2, q, none⟩ = some (.string x) := (by rw [cell_of_row w2 _ _ _ _ _ (unhide HT2)]; exact hx))
        | (at_builtin; refine wpList_bytes' _ rfl _ _ rfl w.heap.size (.slice ad2 (4 + fl q + 1) c2) (hdr ++ tb (ts.take q) ++ [UInt8.ofNat x.size]) rfl (ho2.below (bytes_below w2 x)) (.slice (some ⟨w2.heap.size, 0, none⟩) x.size (grownCap w2 x.size 0 5)) x.size x.data.toList rfl (bsize x) (bytes_lies w2 x _) (by rw [List.length_append, hlen]; simp; omega) (by rw [Lib.bytesWorld_size]; omega) ?_; intro ad3 c3 w3 ho3 hg3 hat3))
      have hne2 : (Value.slice ad2 (4 + fl q + 1) c2).ownBlock ≠ some (w.heap.size + 2) := fun e => by
        rcases hat2 with h | h
        · exact (unhide HN) (h.symm.trans e)
        · rw [h] at e
          simp at e
          omega
      have hlen2 : (hdr ++ tb (ts.take q) ++ [UInt8.ofNat x.size]).length + x.size = 4 + fl (q + 1) := by rw [List.length_append, hlen, unhide HSU]; simp; omega
      rw [hlen2] at ho3 hat3
      have hne3 : (Value.slice ad3 (4 + fl (q + 1)) c3).ownBlock ≠ some (w.heap.size + 2) := fun e => by
        rcases hat3 with h | h
        · exact hne2 (h.symm.trans e)
        · rw [h, Lib.bytesWorld_size] at e
          simp at e
          omega
      have HO3 : Hid (BRow w3 w.heap.size (.slice ad3 (4 + fl (q + 1)) c3) (hdr ++ tb (ts.take (q + 1)))) := by
        have e1 : hdr ++ tb (ts.take (q + 1)) = hdr ++ tb (ts.take q) ++ [UInt8.ofNat x.size] ++ x.data.toList := by
          rw [ftake_succ ts q x (unhide HX)]
          simp [ebytes]
        rw [e1]
        exact ho3
      have HT3 := hide ((hg3.block (w.heap.size + 2) (by rw [Lib.bytesWorld_size]; omega) (fun e => hne2 e.symm)).trans ((Lib.bytesWorld_at_old w2 5 x (w.heap.size + 2) (by omega)).trans (unhide HT2)))
      have HB2 := hide (((unhide HB).alloc (unhide HB).size (.cells #[.int .u8 (x.size : Int)] 5)).grown hg2 (by have := (unhide HB).size; simp; omega) (fun j hj => ((unhide HO).lt j hj).1))
      have HB2' := hide ((unhide HB2).trans ((bytes_below w2 x).mono (unhide HB2).size))
      have HB3 := hide ((unhide HB2').grown hg3 (unhide HB2').size (fun j hj => (ho2.lt j hj).1))
      have hl3 : hdr.length + ((tb (ts.take q)).length + 1) + x.size = 4 + fl (q + 1) := by
        rw [← hlen2]; simp
      clear ho3 hg3 hat3 ho2 hg2 hat2
      go_roundw
      case rel => exact ⟨q + 1, ad3, c3, by omega, by go_num, by rw [hl3], unhide HO3, unhide HB3, hne3, unhide HT3⟩
      case measure => simp [intOf]; omega
    · obtain rfl : q = 3 := by omega
      obtain ⟨hbv, hhl, hEE, hnn, e1, hLn, hfull⟩ := unhide HH
      have hf3 : fl 3 = L := by rw [unhide HFL, hfull, hLn]
      rw [hf3] at HO HN ⊢
      rw [hfull] at HO
      have HE1 := hide e1
      have HEE := hide hEE
      have HNN := hide hnn
      have HLH : Hid ((hdr ++ tb ts).length = 4 + L) := by show (hdr ++ tb ts).length = 4 + L; rw [List.length_append, hhl, hLn]
      have hzb := (unhide HB).size
      have hL' : L ≤ 250 := by rw [← hLn]; exact hL
      have HR1 : Hid (BRow (wr.alloc (.cells #[.int .u8 (4 + (L : Int) + 1)] 5)) w.heap.size (.slice (some ⟨wr.heap.size, 0, none⟩) 1 1) [UInt8.ofNat (5 + L)]) := by
        have h := World.ownsRow_lit wr #[.int .u8 (4 + (L : Int) + 1)] (base := w.heap.size) (e := 5) (size := 1) 1 hzb (by unfold maxLen; omega) rfl
        show World.ownsRow _ _ _ _ _ _ _
        rw [e1, show ((5 + L : Nat) : Int) = 4 + (L : Int) + 1 by omega]
        exact h
      have HS1 := hide ((unhide HO).alloc (.cells #[.int .u8 (4 + (L : Int) + 1)] 5))
      clear hbv hhl hEE hnn e1 hLn hfull hf3 wL
      go_wp2_with (at_builtin; refine wpList_bytes' _ rfl _ _ rfl w.heap.size (.slice (some ⟨wr.heap.size, 0, none⟩) 1 1) [UInt8.ofNat (5 + L)] rfl (unhide HR1) (.slice a1 (4 + L) c1) (4 + L) (hdr ++ tb ts) rfl (unhide HLH) (row_lies (unhide HS1) (unhide HLH)) (by simp; omega) (by simp; omega) ?_; intro ad2 c2 w2 ho2 hg2 hat2)
      have hl2 : [UInt8.ofNat (5 + L)].length + (4 + L) = n := by rw [unhide HNN]; simp; omega
      rw [hl2, ← unhide HEE] at ho2
      obtain ⟨g2, rfl, _⟩ := ho2.form (by rw [unhide HEE]; simp)
      have HB2 := hide (((unhide HB).alloc hzb (.cells #[.int .u8 (4 + (L : Int) + 1)] 5)).grown hg2 (by simp; omega) (fun j hj => ((unhide HR1).lt j hj).1))
      have HO2 := hide ho2
      have hl3 : 1 + (4 + L) = n := by rw [unhide HNN]; omega
      obtain rfl : n = 1 + (4 + L) := hl3.symm
      clear ho2 hg2 hat2 hl2 hl3
      go_wp2
      go_ret
      exact ⟨g2, c2, rfl, unhide HO2, unhide HB2⟩

end Go.Proofs.Ytlndphpidkacgaa

/- The reference's RecordFault: the same code of a record. -/
namespace Go.Proofs.Ytlndphpidkacgaa
open Go.RowKit
set_option linter.unusedSimpArgs false
set_option linter.unusedVariables false

set_option maxRecDepth 100000 in
set_option maxHeartbeats 4000000 in
theorem RecordFault_any (c n k : Int) (a b t : ByteArray) (d : Int) (u : ByteArray) (w : World) (ha : a.size ≤ maxLen) (hb : b.size ≤ maxLen) (ht : t.size ≤ maxLen) :
    Calls Try.prog 34 #[.agg #[.int .i64 c, .int .i64 n, .int .i64 k, .string a, .string b, .string t, .int .i64 d, .string u]] w
      fun e w' => e = .returned (.int .i64 (recI ⟨c, n, ⟨k, a, b, t⟩, d, u⟩)) ∧ Below w.heap.size w w' := by
  have hf : recI ⟨c, n, ⟨k, a, b, t⟩, d, u⟩ = if c < 0 ∨ 2 < c ∨ n < 1 ∨ 200 < n then 9 else if changesB k = false then 1 else if checkI ⟨k, a, b, t⟩ ≠ 0 then checkI ⟨k, a, b, t⟩ else if d < 0 ∨ 99 < d then 9 else if u ≠ ⟨#[]⟩ then 3 else 0 := rfl
  rw [hf]
  clear hf
  have hC : ∀ W : World, Calls Try.prog 26 #[.int .i64 k] W fun e w' => e = .returned (.bool (changesB k)) ∧ w' = W := fun W => IsChange_any k W
  have hD : ∀ W : World, Calls Try.prog 19 #[.agg #[.int .i64 k, .string a, .string b, .string t]] W fun e w' => e = .returned (.int .i64 (checkI ⟨k, a, b, t⟩)) ∧ Below W.heap.size W w' := fun W => CallFault_any k a b t W ha hb ht
  generalize changesB k = ch at hC ⊢
  generalize checkI ⟨k, a, b, t⟩ = ck at hD ⊢
  have HC := hide hC
  have HD := hide hD
  clear hC hD
  by_cases q1 : c < 0
  · rw [if_pos (by omega)]
    go_enter Try.func34, Try.ntmps34
    go_wp2
    go_ret
    exact ⟨rfl, (Below.refl _ _).alloc (Nat.le_refl _) _⟩
  by_cases q2 : 3 ≤ c
  · rw [if_pos (by omega)]
    go_enter Try.func34, Try.ntmps34
    go_wp2
    go_ret
    exact ⟨rfl, (Below.refl _ _).alloc (Nat.le_refl _) _⟩
  by_cases q3 : n < 1
  · rw [if_pos (by omega)]
    go_enter Try.func34, Try.ntmps34
    go_wp2
    go_ret
    exact ⟨rfl, (Below.refl _ _).alloc (Nat.le_refl _) _⟩
  by_cases q4 : 200 < n
  · rw [if_pos (by omega)]
    go_enter Try.func34, Try.ntmps34
    go_wp2
    go_ret
    exact ⟨rfl, (Below.refl _ _).alloc (Nat.le_refl _) _⟩
  rw [if_neg (by omega)]
  cases ch
  · rw [if_pos rfl]
    go_enter Try.func34, Try.ntmps34
    go_wp2_with fail
    refine ((unhide HC) _).mono ?_
    rintro e w1 ⟨rfl, rfl⟩
    go_wp2
    go_ret
    exact ⟨rfl, (Below.refl _ _).alloc (Nat.le_refl _) _⟩
  rw [if_neg (by simp)]
  by_cases q5 : ck = 0
  · subst q5
    rw [if_neg (by simp)]
    by_cases q6 : d < 0
    · rw [if_pos (by omega)]
      go_enter Try.func34, Try.ntmps34
      go_wp2_with fail
      refine ((unhide HC) _).mono ?_
      rintro e w1 ⟨rfl, rfl⟩
      go_wp2_with fail
      refine ((unhide HD) _).mono ?_
      rintro e w1 ⟨rfl, b1⟩
      obtain ⟨hc1, hf1⟩ := bcell b1
      have hz : w.heap.size < w1.heap.size := by have := b1.size; simp at this; omega
      go_wp2
      go_ret
      exact ⟨rfl, ((Below.refl _ _).alloc (Nat.le_refl _) _).trans (b1.mono (by simp))⟩
    by_cases q7 : 99 < d
    · rw [if_pos (by omega)]
      go_enter Try.func34, Try.ntmps34
      go_wp2_with fail
      refine ((unhide HC) _).mono ?_
      rintro e w1 ⟨rfl, rfl⟩
      go_wp2_with fail
      refine ((unhide HD) _).mono ?_
      rintro e w1 ⟨rfl, b1⟩
      obtain ⟨hc1, hf1⟩ := bcell b1
      have hz : w.heap.size < w1.heap.size := by have := b1.size; simp at this; omega
      go_wp2
      go_ret
      exact ⟨rfl, ((Below.refl _ _).alloc (Nat.le_refl _) _).trans (b1.mono (by simp))⟩
    rw [if_neg (by omega)]
    cases q8 : u.toList.isEmpty
    · rw [empty_toList] at q8
      rw [if_pos (of_decide_eq_false q8)]
      rw [← empty_toList] at q8
      go_enter Try.func34, Try.ntmps34
      go_wp2_with fail
      refine ((unhide HC) _).mono ?_
      rintro e w1 ⟨rfl, rfl⟩
      go_wp2_with fail
      refine ((unhide HD) _).mono ?_
      rintro e w1 ⟨rfl, b1⟩
      obtain ⟨hc1, hf1⟩ := bcell b1
      have hz : w.heap.size < w1.heap.size := by have := b1.size; simp at this; omega
      go_wp2
      go_ret
      exact ⟨rfl, ((Below.refl _ _).alloc (Nat.le_refl _) _).trans (b1.mono (by simp))⟩
    · rw [empty_toList] at q8
      obtain rfl : u = ⟨#[]⟩ := of_decide_eq_true q8
      rw [if_neg (by simp)]
      clear q8
      go_enter Try.func34, Try.ntmps34
      go_wp2_with fail
      refine ((unhide HC) _).mono ?_
      rintro e w1 ⟨rfl, rfl⟩
      go_wp2_with fail
      refine ((unhide HD) _).mono ?_
      rintro e w1 ⟨rfl, b1⟩
      obtain ⟨hc1, hf1⟩ := bcell b1
      have hz : w.heap.size < w1.heap.size := by have := b1.size; simp at this; omega
      go_wp2
      go_ret
      exact ⟨rfl, ((Below.refl _ _).alloc (Nat.le_refl _) _).trans (b1.mono (by simp))⟩
  · rw [if_pos q5]
    go_enter Try.func34, Try.ntmps34
    go_wp2_with fail
    refine ((unhide HC) _).mono ?_
    rintro e w1 ⟨rfl, rfl⟩
    go_wp2_with fail
    refine ((unhide HD) _).mono ?_
    rintro e w1 ⟨rfl, b1⟩
    obtain ⟨hc1, hf1⟩ := bcell b1
    have hz : w.heap.size < w1.heap.size := by have := b1.size; simp at this; omega
    go_wp2
    go_ret
    exact ⟨rfl, ((Below.refl _ _).alloc (Nat.le_refl _) _).trans (b1.mono (by simp))⟩

end Go.Proofs.Ytlndphpidkacgaa

/- The reference's RecordOf: the same answer of bytes. -/
namespace Go.Proofs.Ytlndphpidkacgaa
open Go.RowKit
set_option linter.unusedSimpArgs false
set_option linter.unusedVariables false

/-- So many texts were taken of cs, up to A. -/
structure TakeTo (cs : List UInt8) (q A : Nat) (ts : List ByteArray) : Prop where
  le5 : 5 ≤ A
  le : A ≤ cs.length
  len : ts.length = q
  q3 : q ≤ 3
  tk : takeT 3 (cs.drop 5) = (takeT (3 - q) (cs.drop A)).map (fun p => (ts ++ p.1, p.2))
theorem TakeTo.start (cs : List UInt8) (h : 5 ≤ cs.length) : TakeTo cs 0 5 [] := ⟨Nat.le_refl _, h, rfl, by omega, by simp⟩
theorem TakeTo.over {cs : List UInt8} {q A : Nat} {ts : List ByteArray} (h : TakeTo cs q A ts) (hq : q < 3) (hA : cs.length ≤ A) : takeT 3 (cs.drop 5) = none := by
  rw [h.tk, List.drop_of_length_le hA, show 3 - q = (2 - q) + 1 by omega, takeT]
  rfl
theorem drop_at {cs : List UInt8} {A : Nat} {y : UInt8} (hy : cs[A]? = some y) : cs.drop A = y :: cs.drop (A + 1) := by
  obtain ⟨h1, h2⟩ := List.getElem?_eq_some_iff.1 hy
  rw [List.drop_eq_getElem_cons h1, h2]
theorem TakeTo.short {cs : List UInt8} {q A : Nat} {ts : List ByteArray} (h : TakeTo cs q A ts) (hq : q < 3) {y : UInt8} (hy : cs[A]? = some y) (hA : cs.length < A + 1 + y.toNat) : takeT 3 (cs.drop 5) = none := by
  rw [h.tk, drop_at hy, show 3 - q = (2 - q) + 1 by omega, takeT_short _ _ _ (by rw [List.length_drop]; have := (List.getElem?_eq_some_iff.1 hy).1; omega)]
  rfl
theorem TakeTo.step {cs : List UInt8} {q A : Nat} {ts : List ByteArray} (h : TakeTo cs q A ts) (hq : q < 3) {y : UInt8} (hy : cs[A]? = some y) (hA : A + 1 + y.toNat ≤ cs.length) : TakeTo cs (q + 1) (A + 1 + y.toNat) (ts ++ [⟨((cs.drop (A + 1)).take y.toNat).toArray⟩]) := by
  have h5 := h.le5
  refine ⟨by omega, hA, by simp [h.len], by omega, ?_⟩
  rw [h.tk, drop_at hy, show 3 - q = (2 - q) + 1 by omega, takeT_cons _ _ _ (by rw [List.length_drop]; omega), List.drop_drop, show 3 - (q + 1) = 2 - q by omega]
  cases takeT (2 - q) (cs.drop (A + 1 + y.toNat)) with
  | none => rfl
  | some p => simp
theorem TakeTo.done {cs : List UInt8} {A : Nat} {ts : List ByteArray} (h : TakeTo cs 3 A ts) : takeT 3 (cs.drop 5) = some (ts, cs.drop A) := by
  rw [h.tk]; simp [takeT]
theorem readR_none {cs : List UInt8} (h : takeT 3 (cs.drop 5) = none) : readR cs = none := by
  unfold readR
  split
  · rfl
  · rw [h]
theorem TakeTo.rest {cs : List UInt8} {A : Nat} {ts : List ByteArray} (h : TakeTo cs 3 A ts) (hA : A ≠ cs.length) : readR cs = none := by
  unfold readR
  split
  · rfl
  · rw [h.done]
    have h1 := h.le
    have h2 : cs.drop A ≠ [] := fun e => by have := congrArg List.length e; rw [List.length_drop, List.length_nil] at this; omega
    split
    · rename_i heq
      simp at heq
      omega
    · rfl
theorem TakeTo.all {cs : List UInt8} {ts : List ByteArray} (h : TakeTo cs 3 cs.length ts) : ∃ a b t, ts = [a, b, t] ∧ readR cs = some ⟨at_ cs 1, at_ cs 2, ⟨at_ cs 3, a, b, t⟩, at_ cs 4, ⟨#[]⟩⟩ := by
  have h1 := h.done
  rw [List.drop_length] at h1
  match ts, h.len with
  | [a, b, t], _ =>
    refine ⟨a, b, t, rfl, ?_⟩
    unfold readR
    rw [if_neg (by have := h.le5; omega), h1]

set_option maxRecDepth 100000 in
set_option maxHeartbeats 4000000 in
theorem RecordOf_some (b off L cap : Nat) (x : UInt8) (xs : List UInt8) (w : World) (hc : ∀ (j : Nat) (y : UInt8), (x :: xs)[j]? = some y → w.cell? ⟨b, off + j, none⟩ = some (.int .u8 (y.toNat : Int))) (hbl : b < w.heap.size) (hL : xs.length + 1 = L) (hcap : L ≤ cap) (hm : L ≤ 1000000) :
    Calls Try.prog 37 #[.slice (some ⟨b, off, none⟩) L cap] w (DecRes w (decR (x :: xs))) := by
  obtain ⟨dr, hdr⟩ : ∃ d, d = decR (x :: xs) := ⟨_, rfl⟩
  rw [← hdr]
  obtain ⟨n, hn⟩ : ∃ n, x.toNat = n := ⟨_, rfl⟩
  have hn255 : n ≤ 255 := by have := x.toNat_lt; omega
  have c0 : w.cell? ⟨b, off, none⟩ = some (.int .u8 (n : Int)) := by rw [← hn]; exact hc 0 x rfl
  have hL0 : ((L : Int) == 0) = false := by simp; omega
  rw [decR, hn] at hdr
  by_cases h1 : L < n
  · rw [if_pos (by omega)] at hdr
    have HD := hide hdr
    have h1i : (L : Int) < (n : Int) := by omega
    clear hc hdr
    go_enter Try.func37, Try.ntmps37
    go_wp2
    refine bodyPost_ret (v := .tuple #[zeroRec.val, .int .i64 0, .int .i64 8]) (by simp [results, Try.results37, go_sem, zeroRec, ARec.val]) rfl ?_
    rw [HD.out]
    exact ⟨(Below.refl _ _).alloc (Nat.le_refl _) _, rfl⟩
  rw [if_neg (by omega)] at hdr
  have h1i : ¬ ((L : Int) < (n : Int)) := by omega
  obtain ⟨cs, hcs⟩ : ∃ cs, cs = (x :: xs).take n := ⟨_, rfl⟩
  rw [← hcs] at hdr
  have hcl : cs.length = n := by rw [hcs, List.length_take, List.length_cons]; omega
  by_cases h5 : n < 5
  · have : readR cs = none := by unfold readR; rw [if_pos (by omega)]
    rw [this] at hdr
    have HD := hide hdr
    have h5i : (n : Int) < 5 := by omega
    clear hc hdr this
    go_enter Try.func37, Try.ntmps37
    go_wp2
    refine bodyPost_ret (v := .tuple #[zeroRec.val, .int .i64 0, .int .i64 3]) (by simp [results, Try.results37, go_sem, zeroRec, ARec.val]) rfl ?_
    rw [HD.out]
    exact ⟨(Below.refl _ _).alloc (Nat.le_refl _) _, rfl⟩
  have h5i : ¬ ((n : Int) < 5) := by omega
  have hcc : ∀ (j : Nat) (y : UInt8), cs[j]? = some y → w.cell? ⟨b, off + j, none⟩ = some (.int .u8 (y.toNat : Int)) := fun j y hy => by
    rw [hcs, List.getElem?_take] at hy
    split at hy
    · exact hc j y hy
    · cases hy
  have HN3 : Hid (readR cs = none → dr = ⟨zeroRec, 0, 3⟩) := fun h => by rw [hdr, h]
  have HYS : Hid (∀ r, readR cs = some r → dr = if recI r ≠ 0 then ⟨zeroRec, 0, recI r⟩ else ⟨r, (n : Int), 0⟩) := fun r h => by rw [hdr, h]
  have HCC := hide hcc
  have HCL := hide hcl
  clear hc hdr hcs hcc hcl
  go_enter Try.func37, Try.ntmps37
  go_wp2
  obtain ⟨W0, hW0⟩ : ∃ W0, W0 = ((w.alloc (.cells #[.int .i64 0, .int .i64 0, .int .i64 0, .string ⟨#[]⟩, .string ⟨#[]⟩, .string ⟨#[]⟩, .int .i64 0, .string ⟨#[]⟩] 47)).alloc (.cells #[.string ⟨#[]⟩, .string ⟨#[]⟩, .string ⟨#[]⟩] 109)) := ⟨_, rfl⟩
  rw [← hW0]
  have HB0 : Hid (Below w.heap.size w W0) := by rw [hW0]; exact ((Below.refl w.heap.size w).alloc (Nat.le_refl _) _).alloc (by simp) _
  have HR0 : Hid (W0.heap[w.heap.size]? = some (.cells #[.int .i64 0, .int .i64 0, .int .i64 0, .string ⟨#[]⟩, .string ⟨#[]⟩, .string ⟨#[]⟩, .int .i64 0, .string ⟨#[]⟩] 47 (0, 0))) := by
    rw [hW0]
    exact (Below.heap_alloc _ _ _ (by simp)).trans (heap_alloc_new w _)
  have HT0 : Hid (W0.heap[w.heap.size + 1]? = some (.cells #[.string ⟨#[]⟩, .string ⟨#[]⟩, .string ⟨#[]⟩] 109 (0, 0))) := by
    rw [hW0]
    have h := heap_alloc_new (w.alloc (.cells #[.int .i64 0, .int .i64 0, .int .i64 0, .string ⟨#[]⟩, .string ⟨#[]⟩, .string ⟨#[]⟩, .int .i64 0, .string ⟨#[]⟩] 47)) (.cells #[.string ⟨#[]⟩, .string ⟨#[]⟩, .string ⟨#[]⟩] 109)
    rw [show (w.alloc (.cells #[.int .i64 0, .int .i64 0, .int .i64 0, .string ⟨#[]⟩, .string ⟨#[]⟩, .string ⟨#[]⟩, .int .i64 0, .string ⟨#[]⟩] 47)).heap.size = w.heap.size + 1 by simp] at h
    exact h
  clear hW0
  go_loopw [7, 8, 9] (fun vA vq _ wr => ∃ (q A : Nat) (ts : List ByteArray) (C : Array Value), q ≤ 3 ∧ A ≤ n ∧ 5 ≤ A ∧ vA = .int .i64 (A : Int) ∧ vq = .int .i64 (q : Int) ∧ Hid (TakeTo cs q A ts) ∧ Hid (C.toList = ts.map .string ++ List.replicate (3 - q) (.string ⟨#[]⟩)) ∧ Hid (wr.heap[w.heap.size]? = some (.cells #[.int .i64 0, .int .i64 0, .int .i64 0, .string ⟨#[]⟩, .string ⟨#[]⟩, .string ⟨#[]⟩, .int .i64 0, .string ⟨#[]⟩] 47 (0, 0))) ∧ Hid (wr.heap[w.heap.size + 1]? = some (.cells C 109 (0, 0))) ∧ Hid (Below w.heap.size w wr)) (fun _ vq _ _ => 3 - (intOf vq).toNat)
  case atStart => exact ⟨0, 5, [], #[.string ⟨#[]⟩, .string ⟨#[]⟩, .string ⟨#[]⟩], by omega, by omega, by omega, rfl, rfl, hide (TakeTo.start cs (by rw [unhide HCL]; omega)), rfl, unhide HR0, unhide HT0, unhide HB0⟩
  case round =>
    obtain ⟨q, A, ts, C, hq, hA, hA5, rfl, rfl, HTT, HC, HR, HT, HB⟩ := hrel
    by_cases hq3 : (q : Int) < 3
    · by_cases hAn : (A : Int) < (n : Int)
      · have hAi : ¬ ((n : Int) ≤ (A : Int)) := by omega
        obtain ⟨y, hy⟩ : ∃ y, cs[A]? = some y := ⟨_, List.getElem?_eq_getElem (by rw [unhide HCL]; omega)⟩
        obtain ⟨Y, hY⟩ : ∃ Y, y.toNat = Y := ⟨_, rfl⟩
        have hY255 : Y ≤ 255 := by have := y.toNat_lt; omega
        have hcy : wr.cell? ⟨b, off + A, none⟩ = some (.int .u8 (Y : Int)) := by rw [← hY]; exact ((unhide HB).cell (p := ⟨b, off + A, none⟩) hbl).trans ((unhide HCC) A y hy)
        have hAL : (A : Int) < (L : Int) := by omega
        have HSH := hide (fun (h : n < A + 1 + Y) => (unhide HTT).short (by omega) hy (by rw [unhide HCL, hY]; exact h))
        have HST := hide (fun (h : A + 1 + Y ≤ n) => (unhide HTT).step (by omega) hy (by rw [unhide HCL, hY]; exact h))
        obtain ⟨tx, htx⟩ : ∃ tx : ByteArray, tx = ⟨((cs.drop (A + 1)).take y.toNat).toArray⟩ := ⟨_, rfl⟩
        rw [← htx, hY] at HST
        have HCV : Hid (A + 1 + Y ≤ n → ∀ (ad : Addr) (c : Nat), (0 < Y → ad = ⟨b, off + (A + 1), none⟩) → (convert 48 9 (.slice (some ad) Y c)).run Try.prog wr = .ok (.string tx) wr) := fun h ad c had => by
          rw [htx, hY]
          refine conv_at wr ad _ c Y (by rw [List.length_take, List.length_drop, unhide HCL]; omega) (fun j z hz => ?_)
          rw [List.getElem?_take] at hz
          split at hz
          · rename_i hj
            rw [List.getElem?_drop] at hz
            rw [had (by omega), addr_add, show off + (A + 1) + j = off + (A + 1 + j) by omega]
            exact ((unhide HB).cell (p := ⟨b, off + (A + 1 + j), none⟩) hbl).trans ((unhide HCC) _ z hz)
          · cases hz
        clear hy htx hY
        by_cases hfit : (n : Int) < (A : Int) + 1 + (Y : Int)
        · have HNO := hide ((unhide HSH) (by omega))
          obtain ⟨⟨z0, z1, z2, z3⟩, ⟨z4, z5, z6, z7⟩, fz⟩ := eight (unhide HR)
          have hzz : w.heap.size < wr.heap.size := (Array.getElem?_eq_some_iff.1 (unhide HR)).1
          go_wp2
          have hb8 := set8_blk (unhide HR) (.int .i64 0) (.int .i64 0) (.int .i64 0) (.string ⟨#[]⟩) (.string ⟨#[]⟩) (.string ⟨#[]⟩) (.int .i64 0) (.string ⟨#[]⟩)
          have hk8 := set8_kept wr w.heap.size (.int .i64 0) (.int .i64 0) (.int .i64 0) (.string ⟨#[]⟩) (.string ⟨#[]⟩) (.string ⟨#[]⟩) (.int .i64 0) (.string ⟨#[]⟩)
          unfold set8 at hb8 hk8
          generalize hw8 : ((((((((wr.setCell ⟨w.heap.size, 0, none⟩ (.int .i64 0)).setCell ⟨w.heap.size, 1, none⟩ (.int .i64 0)).setCell ⟨w.heap.size, 2, none⟩ (.int .i64 0)).setCell ⟨w.heap.size, 3, none⟩ (.string ⟨#[]⟩)).setCell ⟨w.heap.size, 4, none⟩ (.string ⟨#[]⟩)).setCell ⟨w.heap.size, 5, none⟩ (.string ⟨#[]⟩)).setCell ⟨w.heap.size, 6, none⟩ (.int .i64 0)).setCell ⟨w.heap.size, 7, none⟩ (.string ⟨#[]⟩)) = w8 at hb8 hk8 ⊢
          obtain ⟨⟨q0, q1, q2, q3⟩, ⟨q4, q5, q6, q7⟩, _⟩ := eight hb8
          have bel : Below w.heap.size w w8 := (unhide HB).trans (hk8.below (by have := (unhide HB).size; omega) (by simp))
          refine bodyPost_ret (v := .tuple #[.agg #[.int .i64 0, .int .i64 0, .int .i64 0, .string ⟨#[]⟩, .string ⟨#[]⟩, .string ⟨#[]⟩, .int .i64 0, .string ⟨#[]⟩], .int .i64 0, .int .i64 3]) (by simp [results, Try.results37, go_sem, q0, q1, q2, q3, q4, q5, q6, q7]) rfl ?_
          rw [(unhide HN3) (readR_none (unhide HNO))]
          exact ⟨bel, rfl⟩

        · obtain ⟨o0, ho0⟩ : ∃ o, C[q]? = some o := by
            have h3 : C.toList.length = 3 := by rw [unhide HC, List.length_append, List.length_map, (unhide HTT).len, List.length_replicate]; omega
            exact ⟨_, Array.getElem?_eq_getElem (by rw [← Array.length_toList, h3]; omega)⟩
          have hto : wr.cell? ⟨w.heap.size + 1, q, none⟩ = some o0 := by rw [cell_of_row wr _ _ _ _ _ (unhide HT)]; exact ho0
          have hfo : wr.frozen? ⟨w.heap.size + 1, q, none⟩ = false := frozen_of_row wr _ q _ _ (unhide HT)
          have hzt : w.heap.size + 1 < wr.heap.size := (Array.getElem?_eq_some_iff.1 (unhide HT)).1
          have HT2 := hide (heap_setCell_same (unhide HT) (o := q) (.string tx))
          have hkk := kept_setCell [w.heap.size + 1] wr (w.heap.size + 1) q (.string tx) (by simp)
          have HR2 := hide ((hkk.block w.heap.size (by omega) (by simp)).trans (unhide HR))
          have HB2 := hide ((unhide HB).trans (hkk.below (by have := (unhide HB).size; omega) (by simp)))
          have HC2 : Hid ((C.setIfInBounds q (.string tx)).toList = (ts ++ [tx]).map .string ++ List.replicate (3 - (q + 1)) (.string ⟨#[]⟩)) := by
            show _ = _
            rw [Array.toList_setIfInBounds, unhide HC, show 3 - q = (3 - (q + 1)) + 1 by omega, List.replicate_succ, List.set_append_right (h := by rw [List.length_map, (unhide HTT).len]; omega), List.length_map, (unhide HTT).len, Nat.sub_self]
            simp
          have HTT2 := hide ((unhide HST) (by omega))
          clear hkk ho0
          by_cases hcc : cap = A + 1
          · subst hcc
            have hY0 : Y = 0 := by omega
            subst hY0
            have hcv := (unhide HCV) (by omega) ⟨b, off, none⟩ 0 (by omega)
            go_wp2
            go_roundw
            case rel => exact ⟨q + 1, A + 1 + 0, ts ++ [tx], _, by omega, by omega, by omega, by congr 1, by go_num, unhide HTT2, unhide HC2, unhide HR2, unhide HT2, unhide HB2⟩
            case measure => simp [intOf]; omega
          · have hcv := (unhide HCV) (by omega) ⟨b, off + (A + 1), none⟩ (cap - (A + 1)) (fun _ => rfl)
            have b1 : (A : Int) + 1 + (Y : Int) ≤ (cap : Int) := by omega
            have b2 : (A : Int) + 1 ≤ (A : Int) + 1 + (Y : Int) := by omega
            go_wp2
            go_roundw
            case rel => exact ⟨q + 1, A + 1 + Y, ts ++ [tx], _, by omega, by omega, by omega, by congr 1; omega, by go_num, unhide HTT2, unhide HC2, unhide HR2, unhide HT2, unhide HB2⟩
            case measure => simp [intOf]; omega
      · have hAi : (n : Int) ≤ (A : Int) := by omega
        have HNO := hide ((unhide HTT).over (by omega) (by rw [unhide HCL]; omega))
        obtain ⟨⟨z0, z1, z2, z3⟩, ⟨z4, z5, z6, z7⟩, fz⟩ := eight (unhide HR)
        have hzz : w.heap.size < wr.heap.size := (Array.getElem?_eq_some_iff.1 (unhide HR)).1
        go_wp2
        have hb8 := set8_blk (unhide HR) (.int .i64 0) (.int .i64 0) (.int .i64 0) (.string ⟨#[]⟩) (.string ⟨#[]⟩) (.string ⟨#[]⟩) (.int .i64 0) (.string ⟨#[]⟩)
        have hk8 := set8_kept wr w.heap.size (.int .i64 0) (.int .i64 0) (.int .i64 0) (.string ⟨#[]⟩) (.string ⟨#[]⟩) (.string ⟨#[]⟩) (.int .i64 0) (.string ⟨#[]⟩)
        unfold set8 at hb8 hk8
        generalize hw8 : ((((((((wr.setCell ⟨w.heap.size, 0, none⟩ (.int .i64 0)).setCell ⟨w.heap.size, 1, none⟩ (.int .i64 0)).setCell ⟨w.heap.size, 2, none⟩ (.int .i64 0)).setCell ⟨w.heap.size, 3, none⟩ (.string ⟨#[]⟩)).setCell ⟨w.heap.size, 4, none⟩ (.string ⟨#[]⟩)).setCell ⟨w.heap.size, 5, none⟩ (.string ⟨#[]⟩)).setCell ⟨w.heap.size, 6, none⟩ (.int .i64 0)).setCell ⟨w.heap.size, 7, none⟩ (.string ⟨#[]⟩)) = w8 at hb8 hk8 ⊢
        obtain ⟨⟨q0, q1, q2, q3⟩, ⟨q4, q5, q6, q7⟩, _⟩ := eight hb8
        have bel : Below w.heap.size w w8 := (unhide HB).trans (hk8.below (by have := (unhide HB).size; omega) (by simp))
        refine bodyPost_ret (v := .tuple #[.agg #[.int .i64 0, .int .i64 0, .int .i64 0, .string ⟨#[]⟩, .string ⟨#[]⟩, .string ⟨#[]⟩, .int .i64 0, .string ⟨#[]⟩], .int .i64 0, .int .i64 3]) (by simp [results, Try.results37, go_sem, q0, q1, q2, q3, q4, q5, q6, q7]) rfl ?_
        rw [(unhide HN3) (readR_none (unhide HNO))]
        exact ⟨bel, rfl⟩

    · obtain rfl : q = 3 := by omega
      by_cases hAn : A = n
      · have HTA := unhide HTT
        rw [hAn, ← unhide HCL] at HTA
        obtain ⟨ta, tb', tt, rfl, hread⟩ := HTA.all
        have hAi : ((A : Int) == (n : Int)) = true := by simp; omega
        have hC : C = #[.string ta, .string tb', .string tt] := by
          apply Array.ext'
          rw [unhide HC]
          rfl
        subst hC
        have c1 := ByAt.get (fun j y hy => ((unhide HB).cell (p := ⟨b, off + j, none⟩) hbl).trans ((unhide HCC) j y hy)) 1 (by rw [unhide HCL]; omega)
        have c2 := ByAt.get (fun j y hy => ((unhide HB).cell (p := ⟨b, off + j, none⟩) hbl).trans ((unhide HCC) j y hy)) 2 (by rw [unhide HCL]; omega)
        have c3 := ByAt.get (fun j y hy => ((unhide HB).cell (p := ⟨b, off + j, none⟩) hbl).trans ((unhide HCC) j y hy)) 3 (by rw [unhide HCL]; omega)
        have c4 := ByAt.get (fun j y hy => ((unhide HB).cell (p := ⟨b, off + j, none⟩) hbl).trans ((unhide HCC) j y hy)) 4 (by rw [unhide HCL]; omega)
        have g1 := at_range cs 1
        have g2 := at_range cs 2
        have g3 := at_range cs 3
        have g4 := at_range cs 4
        have HYS2 := hide ((unhide HYS) _ hread)
        have HSZ := hide (readR_sizes hread)
        clear hread HTA
        generalize at_ cs 1 = e1 at c1 g1 HYS2 HSZ
        generalize at_ cs 2 = e2 at c2 g2 HYS2 HSZ
        generalize at_ cs 3 = e3 at c3 g3 HYS2 HSZ
        generalize at_ cs 4 = e4 at c4 g4 HYS2 HSZ
        have t0 : wr.cell? ⟨w.heap.size + 1, 0, none⟩ = some (.string ta) := by rw [cell_of_row wr _ _ _ _ _ (unhide HT)]; rfl
        have t1 : wr.cell? ⟨w.heap.size + 1, 1, none⟩ = some (.string tb') := by rw [cell_of_row wr _ _ _ _ _ (unhide HT)]; rfl
        have t2 : wr.cell? ⟨w.heap.size + 1, 2, none⟩ = some (.string tt) := by rw [cell_of_row wr _ _ _ _ _ (unhide HT)]; rfl
        have i1 : (1 : Int) < (L : Int) := by omega
        have i2 : (2 : Int) < (L : Int) := by omega
        have i3 : (3 : Int) < (L : Int) := by omega
        have i4 : (4 : Int) < (L : Int) := by omega
        have hzt : w.heap.size + 1 < wr.heap.size := (Array.getElem?_eq_some_iff.1 (unhide HT)).1
        have hblr : b < wr.heap.size := by have := (unhide HB).size; omega
        obtain ⟨g1, g1'⟩ := g1
        obtain ⟨g2, g2'⟩ := g2
        obtain ⟨g3, g3'⟩ := g3
        obtain ⟨g4, g4'⟩ := g4
        go_wp2_with fail
        go_region_held3 (fun w' => w'.cell? ⟨b, off + 1, none⟩ = some (.int .u8 e1) ∧ w'.cell? ⟨b, off + 2, none⟩ = some (.int .u8 e2) ∧ w'.cell? ⟨b, off + 3, none⟩ = some (.int .u8 e3) ∧ w'.cell? ⟨b, off + 4, none⟩ = some (.int .u8 e4) ∧ w'.cell? ⟨w.heap.size + 1, 0, none⟩ = some (.string ta) ∧ w'.cell? ⟨w.heap.size + 1, 1, none⟩ = some (.string tb') ∧ w'.cell? ⟨w.heap.size + 1, 2, none⟩ = some (.string tt)) ((go_keep; done)) (fail)
        go_wp2_with fail
        have HFA := hide (fun W => RecordFault_any e1 e2 e3 ta tb' tt e4 ⟨#[]⟩ W (by have := (unhide HSZ).1; unfold maxLen; omega) (by have := (unhide HSZ).2.1; unfold maxLen; omega) (by have := (unhide HSZ).2.2.1; unfold maxLen; omega))
        generalize recI ⟨e1, e2, ⟨e3, ta, tb', tt⟩, e4, ⟨#[]⟩⟩ = code at HFA HYS2
        have HB1 := hide (((unhide HB).alloc (unhide HB).size (.cells #[.int .i64 e1, .int .i64 e2, .int .i64 e3, .string ta, .string tb', .string tt, .int .i64 e4, .string ⟨#[]⟩] 47)).drew)
        have HR1 : Hid ((wr.alloc (.cells #[.int .i64 e1, .int .i64 e2, .int .i64 e3, .string ta, .string tb', .string tt, .int .i64 e4, .string ⟨#[]⟩] 47)).drew.heap[w.heap.size]? = some (.cells #[.int .i64 0, .int .i64 0, .int .i64 0, .string ⟨#[]⟩, .string ⟨#[]⟩, .string ⟨#[]⟩, .int .i64 0, .string ⟨#[]⟩] 47 (0, 0))) := (Below.heap_alloc wr _ w.heap.size (by omega)).trans (unhide HR)
        have HQ1 : Hid ((wr.alloc (.cells #[.int .i64 e1, .int .i64 e2, .int .i64 e3, .string ta, .string tb', .string tt, .int .i64 e4, .string ⟨#[]⟩] 47)).drew.heap[wr.heap.size]? = some (.cells #[.int .i64 e1, .int .i64 e2, .int .i64 e3, .string ta, .string tb', .string tt, .int .i64 e4, .string ⟨#[]⟩] 47 (0, 0))) := heap_alloc_new wr _
        refine ((unhide HFA) _).mono ?_
        rintro e w2 ⟨rfl, b2⟩
        have HB2 := hide ((unhide HB1).trans (b2.mono (unhide HB1).size))
        have HR2 := hide ((b2.block w.heap.size (by show _ < (wr.alloc _).heap.size; simp; omega)).trans (unhide HR1))
        have HQ2 := hide ((b2.block wr.heap.size (by show _ < (wr.alloc _).heap.size; simp)).trans (unhide HQ1))
        have hzq : wr.heap.size < w2.heap.size := (Array.getElem?_eq_some_iff.1 (unhide HQ2)).1
        obtain ⟨⟨y0, y1, y2, y3⟩, ⟨y4, y5, y6, y7⟩, _⟩ := eight (unhide HQ2)
        clear b2 c1 c2 c3 c4 t0 t1 t2
        by_cases hcode : code = 0
        · subst hcode
          have HDD : Hid (dr = ⟨⟨e1, e2, ⟨e3, ta, tb', tt⟩, e4, ⟨#[]⟩⟩, (n : Int), 0⟩) := by rw [HYS2.out, if_neg (by simp)]; exact rfl
          obtain ⟨⟨z0, z1, z2, z3⟩, ⟨z4, z5, z6, z7⟩, fz⟩ := eight (unhide HR2)
          have hzz : w.heap.size < w2.heap.size := (Array.getElem?_eq_some_iff.1 (unhide HR2)).1
          go_wp2
          have hb8 := set8_blk (unhide HR2) (.int .i64 e1) (.int .i64 e2) (.int .i64 e3) (.string ta) (.string tb') (.string tt) (.int .i64 e4) (.string ⟨#[]⟩)
          have hk8 := set8_kept w2 w.heap.size (.int .i64 e1) (.int .i64 e2) (.int .i64 e3) (.string ta) (.string tb') (.string tt) (.int .i64 e4) (.string ⟨#[]⟩)
          unfold set8 at hb8 hk8
          generalize hw8 : ((((((((w2.setCell ⟨w.heap.size, 0, none⟩ (.int .i64 e1)).setCell ⟨w.heap.size, 1, none⟩ (.int .i64 e2)).setCell ⟨w.heap.size, 2, none⟩ (.int .i64 e3)).setCell ⟨w.heap.size, 3, none⟩ (.string ta)).setCell ⟨w.heap.size, 4, none⟩ (.string tb')).setCell ⟨w.heap.size, 5, none⟩ (.string tt)).setCell ⟨w.heap.size, 6, none⟩ (.int .i64 e4)).setCell ⟨w.heap.size, 7, none⟩ (.string ⟨#[]⟩)) = w8 at hb8 hk8 ⊢
          obtain ⟨⟨q0, q1, q2, q3⟩, ⟨q4, q5, q6, q7⟩, _⟩ := eight hb8
          have bel : Below w.heap.size w w8 := (unhide HB2).trans (hk8.below (by have := (unhide HB2).size; omega) (by simp))
          refine bodyPost_ret (v := .tuple #[.agg #[.int .i64 e1, .int .i64 e2, .int .i64 e3, .string ta, .string tb', .string tt, .int .i64 e4, .string ⟨#[]⟩], .int .i64 (n : Int), .int .i64 0]) (by simp [results, Try.results37, go_sem, q0, q1, q2, q3, q4, q5, q6, q7]) rfl ?_
          rw [HDD.out]
          exact ⟨bel, rfl⟩

        · have HDD : Hid (dr = ⟨zeroRec, 0, code⟩) := by rw [HYS2.out, if_pos hcode]; exact rfl
          obtain ⟨⟨z0, z1, z2, z3⟩, ⟨z4, z5, z6, z7⟩, fz⟩ := eight (unhide HR2)
          have hzz : w.heap.size < w2.heap.size := (Array.getElem?_eq_some_iff.1 (unhide HR2)).1
          go_wp2
          have hb8 := set8_blk (unhide HR2) (.int .i64 0) (.int .i64 0) (.int .i64 0) (.string ⟨#[]⟩) (.string ⟨#[]⟩) (.string ⟨#[]⟩) (.int .i64 0) (.string ⟨#[]⟩)
          have hk8 := set8_kept w2 w.heap.size (.int .i64 0) (.int .i64 0) (.int .i64 0) (.string ⟨#[]⟩) (.string ⟨#[]⟩) (.string ⟨#[]⟩) (.int .i64 0) (.string ⟨#[]⟩)
          unfold set8 at hb8 hk8
          generalize hw8 : ((((((((w2.setCell ⟨w.heap.size, 0, none⟩ (.int .i64 0)).setCell ⟨w.heap.size, 1, none⟩ (.int .i64 0)).setCell ⟨w.heap.size, 2, none⟩ (.int .i64 0)).setCell ⟨w.heap.size, 3, none⟩ (.string ⟨#[]⟩)).setCell ⟨w.heap.size, 4, none⟩ (.string ⟨#[]⟩)).setCell ⟨w.heap.size, 5, none⟩ (.string ⟨#[]⟩)).setCell ⟨w.heap.size, 6, none⟩ (.int .i64 0)).setCell ⟨w.heap.size, 7, none⟩ (.string ⟨#[]⟩)) = w8 at hb8 hk8 ⊢
          obtain ⟨⟨q0, q1, q2, q3⟩, ⟨q4, q5, q6, q7⟩, _⟩ := eight hb8
          have bel : Below w.heap.size w w8 := (unhide HB2).trans (hk8.below (by have := (unhide HB2).size; omega) (by simp))
          refine bodyPost_ret (v := .tuple #[.agg #[.int .i64 0, .int .i64 0, .int .i64 0, .string ⟨#[]⟩, .string ⟨#[]⟩, .string ⟨#[]⟩, .int .i64 0, .string ⟨#[]⟩], .int .i64 0, .int .i64 code]) (by simp [results, Try.results37, go_sem, q0, q1, q2, q3, q4, q5, q6, q7]) rfl ?_
          rw [HDD.out]
          exact ⟨bel, rfl⟩

      · have hAi : ((A : Int) == (n : Int)) = false := by simp; omega
        have HNO := hide ((unhide HTT).rest (by rw [unhide HCL]; exact hAn))
        obtain ⟨⟨z0, z1, z2, z3⟩, ⟨z4, z5, z6, z7⟩, fz⟩ := eight (unhide HR)
        have hzz : w.heap.size < wr.heap.size := (Array.getElem?_eq_some_iff.1 (unhide HR)).1
        go_wp2
        have hb8 := set8_blk (unhide HR) (.int .i64 0) (.int .i64 0) (.int .i64 0) (.string ⟨#[]⟩) (.string ⟨#[]⟩) (.string ⟨#[]⟩) (.int .i64 0) (.string ⟨#[]⟩)
        have hk8 := set8_kept wr w.heap.size (.int .i64 0) (.int .i64 0) (.int .i64 0) (.string ⟨#[]⟩) (.string ⟨#[]⟩) (.string ⟨#[]⟩) (.int .i64 0) (.string ⟨#[]⟩)
        unfold set8 at hb8 hk8
        generalize hw8 : ((((((((wr.setCell ⟨w.heap.size, 0, none⟩ (.int .i64 0)).setCell ⟨w.heap.size, 1, none⟩ (.int .i64 0)).setCell ⟨w.heap.size, 2, none⟩ (.int .i64 0)).setCell ⟨w.heap.size, 3, none⟩ (.string ⟨#[]⟩)).setCell ⟨w.heap.size, 4, none⟩ (.string ⟨#[]⟩)).setCell ⟨w.heap.size, 5, none⟩ (.string ⟨#[]⟩)).setCell ⟨w.heap.size, 6, none⟩ (.int .i64 0)).setCell ⟨w.heap.size, 7, none⟩ (.string ⟨#[]⟩)) = w8 at hb8 hk8 ⊢
        obtain ⟨⟨q0, q1, q2, q3⟩, ⟨q4, q5, q6, q7⟩, _⟩ := eight hb8
        have bel : Below w.heap.size w w8 := (unhide HB).trans (hk8.below (by have := (unhide HB).size; omega) (by simp))
        refine bodyPost_ret (v := .tuple #[.agg #[.int .i64 0, .int .i64 0, .int .i64 0, .string ⟨#[]⟩, .string ⟨#[]⟩, .string ⟨#[]⟩, .int .i64 0, .string ⟨#[]⟩], .int .i64 0, .int .i64 3]) (by simp [results, Try.results37, go_sem, q0, q1, q2, q3, q4, q5, q6, q7]) rfl ?_
        rw [(unhide HN3) (unhide HNO)]
        exact ⟨bel, rfl⟩

end Go.Proofs.Ytlndphpidkacgaa

/- The reference's RecordsOf: the same records. -/
namespace Go.Proofs.Ytlndphpidkacgaa
open Go.RowKit
set_option linter.unusedSimpArgs false
set_option linter.unusedVariables false

set_option maxRecDepth 100000 in
theorem RecordOf_any (a0 : Option Addr) (L cap : Nat) (bs : List UInt8) (w : World) (hb : ByAt w a0 bs) (hL : bs.length = L) (hcap : L ≤ cap) (hm : L ≤ 1000000) :
    Calls Try.prog 37 #[.slice a0 L cap] w (DecRes w (decR bs)) := by
  cases bs with
  | nil =>
    obtain rfl : L = 0 := hL.symm
    go_enter Try.func37, Try.ntmps37
    go_wp2
    refine bodyPost_ret (v := .tuple #[zeroRec.val, .int .i64 0, .int .i64 8]) (by simp [results, Try.results37, go_sem, zeroRec, ARec.val]) rfl ?_
    exact ⟨(Below.refl _ _).alloc (Nat.le_refl _) _, rfl⟩
  | cons x xs =>
    obtain ⟨b, off, rfl, hc⟩ := hb (by simp)
    exact RecordOf_some b off L cap x xs w hc (World.block_lt_of_cell? w _ (hc 0 x rfl)) (by simpa using hL) hcap hm

set_option maxRecDepth 100000 in
set_option maxHeartbeats 4000000 in
theorem RecordsOf_none (w : World) : Calls Try.prog 39 #[.slice none 0 0] w (AllRes w (allR [])) := by
  rw [allR_nil]
  have HD := hide (fun W => RecordOf_any none 0 0 [] W (fun h => absurd rfl h) rfl (by omega) (by omega))
  go_enter Try.func39, Try.ntmps39
  go_wp2
  go_loopw [4, 5, 6, 7, 8] (fun v i _ _ _ wr => v = .slice none 0 0 ∧ i = .int .i64 0 ∧ wr = w) (fun _ _ _ _ _ _ => 0)
  case atStart => exact ⟨rfl, rfl, rfl⟩
  case round =>
    obtain ⟨rfl, rfl, rfl⟩ := hrel
    go_wp2_with fail
    refine ((unhide HD) _).mono ?_
    rintro e w1 ⟨b1, rfl⟩
    have HB := hide b1
    clear b1
    simp only [decR, ARec.val, zeroRec]
    go_wp2
    go_ret2
    exact ⟨none, 0, rfl, World.ownsRow_nil _ _ _ _, (unhide HB).alloc (unhide HB).size _⟩

set_option maxRecDepth 100000 in
set_option maxHeartbeats 4000000 in
theorem RecordsOf_empty (A : Addr) (cap : Nat) (w : World) : Calls Try.prog 39 #[.slice (some A) 0 cap] w (AllRes w (allR [])) := by
  rw [allR_nil]
  have HD := hide (fun W B c => RecordOf_any (some B) 0 c [] W (fun h => absurd rfl h) rfl (by omega) (by omega))
  by_cases hc : cap = 0
  · subst hc
    go_enter Try.func39, Try.ntmps39
    go_wp2
    go_loopw [4, 5, 6, 7, 8] (fun v i _ _ _ wr => v = .slice none 0 0 ∧ i = .int .i64 0 ∧ wr = w) (fun _ _ _ _ _ _ => 0)
    case atStart => exact ⟨rfl, rfl, rfl⟩
    case round =>
      obtain ⟨rfl, rfl, rfl⟩ := hrel
      go_wp2_with fail
      refine ((unhide HD) _ _ _).mono ?_
      rintro e w1 ⟨b1, rfl⟩
      have HB := hide b1
      clear b1
      simp only [decR, ARec.val, zeroRec]
      go_wp2
      go_ret2
      exact ⟨none, 0, rfl, World.ownsRow_nil _ _ _ _, (unhide HB).alloc (unhide HB).size _⟩
  · go_enter Try.func39, Try.ntmps39
    go_wp2
    go_loopw [4, 5, 6, 7, 8] (fun v i _ _ _ wr => v = .slice none 0 0 ∧ i = .int .i64 0 ∧ wr = w) (fun _ _ _ _ _ _ => 0)
    case atStart => exact ⟨rfl, rfl, rfl⟩
    case round =>
      obtain ⟨rfl, rfl, rfl⟩ := hrel
      go_wp2_with fail
      refine ((unhide HD) _ _ _).mono ?_
      rintro e w1 ⟨b1, rfl⟩
      have HB := hide b1
      clear b1
      simp only [decR, ARec.val, zeroRec]
      go_wp2
      go_ret2
      exact ⟨none, 0, rfl, World.ownsRow_nil _ _ _ _, (unhide HB).alloc (unhide HB).size _⟩

set_option maxRecDepth 100000 in
set_option maxHeartbeats 4000000 in
theorem RecordsOf_some (b off L cap : Nat) (bs : List UInt8) (w : World) (hc : ∀ (j : Nat) (x : UInt8), bs[j]? = some x → w.cell? ⟨b, off + j, none⟩ = some (.int .u8 (x.toNat : Int))) (hbl : b < w.heap.size) (hL : bs.length = L) (hcap : L ≤ cap) (hm : L ≤ 1000000) :
    Calls Try.prog 39 #[.slice (some ⟨b, off, none⟩) L cap] w (AllRes w (allR bs)) := by
  obtain ⟨i0, hi0, hz0, hz1, hz2⟩ := info_parts info47
  have HD : Hid (∀ W k A c', Below w.heap.size w W → k ≤ L → L - k ≤ c' → (k < L → A = ⟨b, off + k, none⟩) → Calls Try.prog 37 #[.slice (some A) (L - k) c'] W (DecRes W (decR (bs.drop k)))) := fun W k A c' hW hk hcc hA => by
    refine RecordOf_any (some A) (L - k) c' (bs.drop k) W (fun h => ?_) (by rw [List.length_drop, hL]) hcc (by omega)
    have hlt : k < L := by
      rcases Nat.lt_or_ge k L with h' | h'
      · exact h'
      · exact absurd (List.drop_of_length_le (by omega)) h
    refine ⟨b, off + k, by rw [hA hlt], fun j x hx => ?_⟩
    rw [List.getElem?_drop] at hx
    have := hc (k + j) x hx
    rw [show off + k + j = off + (k + j) by omega]
    exact (hW.cell (p := ⟨b, off + (k + j), none⟩) hbl).trans this
  have HL := hide hL
  clear hc hL
  go_enter Try.func39, Try.ntmps39
  go_wp2
  go_loopw [4, 5, 6, 7, 8] (fun v i _ _ _ wr => ∃ (k m : Nat) (rs : List ARec), k ≤ L ∧ m ≤ k ∧ i = .int .i64 (k : Int) ∧ Hid (∃ a c, v = .slice a m c) ∧ Hid (rs.length = m) ∧ Hid (AllAt bs k rs) ∧ Hid (Below w.heap.size w wr) ∧ Hid (wr.ownsRow w.heap.size 47 8 v m (rs.flatMap rcells))) (fun _ i _ _ _ _ => L - (intOf i).toNat)
  case atStart => exact ⟨0, 0, [], Nat.zero_le _, Nat.zero_le _, rfl, ⟨none, 0, rfl⟩, rfl, AllAt.start bs, Below.refl _ _, World.ownsRow_nil _ _ _ _⟩
  case round =>
    obtain ⟨k, m, rs, hk, hmk, rfl, ⟨va, vc, rfl⟩, HM, HA, HB, HO⟩ := hrel
    obtain ⟨dd, hdd⟩ : ∃ d, d = decR (bs.drop k) := ⟨_, rfl⟩
    have HDD := hide hdd
    have HN : Hid (dd.code = 0 → 5 ≤ dd.n.toNat ∧ dd.n.toNat ≤ L - k ∧ 0 ≤ dd.n) := fun h => by
      have hx := unhide HL
      rw [hdd] at h ⊢
      have h2 := decR_n h
      rw [List.length_drop, hx] at h2
      exact h2
    have HAS : Hid (dd.code = 0 → AllAt bs (k + dd.n.toNat) (rs ++ [dd.rcd])) := fun h => by rw [hdd] at h ⊢; exact (unhide HA).step h
    have HAD : Hid (dd.code ≠ 0 → allR bs = (rs, k)) := fun h => by rw [hdd] at h; exact (unhide HA).done h
    have HC : Hid (∀ A c', L - k ≤ c' → (k < L → A = ⟨b, off + k, none⟩) → Calls Try.prog 37 #[.slice (some A) (L - k) c'] wr (DecRes wr dd)) := fun A c' h1 h2 => by rw [hdd]; exact (unhide HD) wr k A c' (unhide HB) hk h1 h2
    clear hdd
    obtain ⟨⟨rc, rn, ⟨rk, ra, rb, rt⟩, rdd, ru⟩, dn, dcode⟩ := dd
    dsimp only at HN HAS HAD
    by_cases q1 : cap = k
    · subst q1
      obtain rfl : L = cap := by omega
      have hd0 : dcode ≠ 0 := fun h => by have := (unhide HN) h; omega
      go_wp2_with fail
      have HCC := hide ((unhide HC) ⟨b, off, none⟩ 0 (by omega) (by omega))
      rw [Nat.sub_self] at HCC
      refine (unhide HCC).mono ?_
      rintro e w1 ⟨b1, rfl⟩
      have HB1 := hide ((unhide HB).trans (b1.mono (unhide HB).size))
      have HO1 := hide (ownsRow_same (unhide HO) (fun j hj => b1.block j ((unhide HO).lt j hj).2))
      clear b1
      simp only [ARec.val]
      go_wp2
      go_ret2
      rw [(unhide HAD) hd0]
      exact ⟨va, vc, by rw [HM.out]; exact rfl, by rw [HM.out]; exact (unhide HO1).alloc _, (unhide HB1).alloc (unhide HB1).size _⟩
    · go_wp2_with fail
      refine ((unhide HC) ⟨b, off + k, none⟩ (cap - k) (by omega) (fun _ => rfl)).mono ?_
      rintro e w1 ⟨b1, rfl⟩
      have HB1 := hide ((unhide HB).trans (b1.mono (unhide HB).size))
      have HO1 := hide (ownsRow_same (unhide HO) (fun j hj => b1.block j ((unhide HO).lt j hj).2))
      have hz1' : w.heap.size ≤ w1.heap.size := (unhide HB1).size
      clear b1
      simp only [ARec.val]
      by_cases hcode : dcode = 0
      · subst hcode
        obtain ⟨n5, nl, n0⟩ := (unhide HN) rfl
        have HSTEP := hide ((unhide HAS) rfl)
        have hwr : IntKind.i64.wrap ((k : Int) + dn) = (k : Int) + dn := by rw [IntKind.wrap_i64]; omega
        go_wp2_with (at_builtin; refine wpList_append_lies _ rfl _ _ 56 rfl w.heap.size 47 i0 _ 8 96 Try.underlying56 hi0 hz0 hz1 hz2 rfl (by omega) (.slice va m vc) m (rs.flatMap rcells) rfl (((unhide HO1).alloc _).alloc _) ⟨w1.heap.size + 1, 0, none⟩ 1 1 (rcells ⟨rc, rn, ⟨rk, ra, rb, rt⟩, rdd, ru⟩) rfl rfl (World.news_of_block (cs := #[.int .i64 rc, .int .i64 rn, .int .i64 rk, .string ra, .string rb, .string rt, .int .i64 rdd, .string ru]) (t := 47) (fr := (0, 0)) (by rw [show w1.heap.size + 1 = (w1.alloc (.cells #[.int .i64 rc, .int .i64 rn, .int .i64 rk, .string ra, .string rb, .string rt, .int .i64 rdd, .string ru] 47)).heap.size by simp]; exact heap_alloc_new _ _)) (by simp [rcells, Value.oneCell']) (by omega) (by unfold maxLen; omega) (by omega) (by simp; omega) (w1.heap.size + 1 + 1) (by simp) ?_; intro g2 c2 w2 hown2 hgrow hat hlt2)
        have HB2 := hide ((((unhide HB1).alloc hz1' (.cells #[.int .i64 rc, .int .i64 rn, .int .i64 rk, .string ra, .string rb, .string rt, .int .i64 rdd, .string ru] 47)).alloc (by simp; omega) (.cells #[.int .i64 rc, .int .i64 rn, .int .i64 rk, .string ra, .string rb, .string rt, .int .i64 rdd, .string ru] 47)).grown hgrow (by simp; omega) (fun j hj => ((unhide HO1).lt j hj).1))
        have HO2 := hide hown2
        clear hown2 hgrow hat hlt2
        go_roundw
        case rel => exact ⟨k + dn.toNat, m + 1, rs ++ [⟨rc, rn, ⟨rk, ra, rb, rt⟩, rdd, ru⟩], by omega, by omega, by congr 1; omega, ⟨_, _, rfl⟩, hide (by rw [List.length_append, HM.out]; rfl), HSTEP, unhide HB2, by rw [flat_snoc]; exact unhide HO2⟩
        case measure => simp [intOf]; omega
      · go_wp2
        go_ret2
        rw [(unhide HAD) hcode]
        exact ⟨va, vc, by rw [HM.out]; exact rfl, by rw [HM.out]; exact (unhide HO1).alloc _, (unhide HB1).alloc (unhide HB1).size _⟩


theorem allF_few : ∀ (f : Nat) (bs : List UInt8), (allF f bs).1.length ≤ bs.length
  | 0, _ => by simp [allF]
  | f + 1, bs => by
    rw [allF]
    by_cases h : (decR bs).code ≠ 0
    · rw [if_pos h]; simp
    · rw [if_neg h]
      have hn := decR_n (by simpa using h)
      have := allF_few f (bs.drop (decR bs).n.toNat)
      rw [List.length_drop] at this
      simp only [List.length_cons]
      omega
theorem allR_few (bs : List UInt8) : (allR bs).1.length ≤ bs.length := allF_few _ _

theorem All_by (a0 : Option Addr) (L cap : Nat) (bs : List UInt8) (w : World) (hb : ByAt w a0 bs) (hL : bs.length = L) (hcap : L ≤ cap) (hm : L ≤ 1000000) (hnil : a0 = none → L = 0 ∧ cap = 0) : Calls Try.prog 38 #[.slice a0 L cap] w (AllRes w (allR bs)) := by
  cases a0 with
  | none =>
    obtain ⟨rfl, rfl⟩ := hnil rfl
    rw [List.length_eq_zero_iff.1 hL]
    exact All_none w
  | some A =>
    rcases Nat.eq_zero_or_pos L with h | h
    · subst h
      rw [List.length_eq_zero_iff.1 hL]
      exact All_empty A cap w
    · obtain ⟨b, off, e, hc⟩ := hb (fun h0 => by rw [h0] at hL; simp at hL; omega)
      cases e
      obtain ⟨x, hx⟩ : ∃ x, bs[0]? = some x := ⟨_, List.getElem?_eq_getElem (by omega)⟩
      exact All_some b off L cap bs w hc (World.block_lt_of_cell? w _ (hc 0 x hx)) hL hcap hm
theorem RecordsOf_by (a0 : Option Addr) (L cap : Nat) (bs : List UInt8) (w : World) (hb : ByAt w a0 bs) (hL : bs.length = L) (hcap : L ≤ cap) (hm : L ≤ 1000000) (hnil : a0 = none → L = 0 ∧ cap = 0) : Calls Try.prog 39 #[.slice a0 L cap] w (AllRes w (allR bs)) := by
  cases a0 with
  | none =>
    obtain ⟨rfl, rfl⟩ := hnil rfl
    rw [List.length_eq_zero_iff.1 hL]
    exact RecordsOf_none w
  | some A =>
    rcases Nat.eq_zero_or_pos L with h | h
    · subst h
      rw [List.length_eq_zero_iff.1 hL]
      exact RecordsOf_empty A cap w
    · obtain ⟨b, off, e, hc⟩ := hb (fun h0 => by rw [h0] at hL; simp at hL; omega)
      cases e
      obtain ⟨x, hx⟩ : ∃ x, bs[0]? = some x := ⟨_, List.getElem?_eq_getElem (by omega)⟩
      exact RecordsOf_some b off L cap bs w hc (World.block_lt_of_cell? w _ (hc 0 x hx)) hL hcap hm

end Go.Proofs.Ytlndphpidkacgaa

