import Derived.Test.YtolififimldmlaaGreatPart08
set_option linter.unusedVariables false
set_option linter.unusedSimpArgs false
namespace Go.Proofs.YtolififimldmlaaGreat

theorem byteOf_u8 (x : UInt8) : byteOf (x.toNat : Int) = x := by
  have h := x.toNat_lt
  unfold byteOf
  apply UInt8.toNat_inj.1
  rw [UInt8.toNat_ofNat']; omega

theorem takeLine_bytes {r : List UInt8} {l : Ln} {r' : List UInt8} (h : takeLine r = some (l, r')) : lineBytes l ++ r' = r := by
  unfold takeLine at h
  split at h
  · cases h
  · rename_i h3
    split at h
    · cases h
    · rename_i h4
      simp only [Option.some.injEq, Prod.mk.injEq] at h
      obtain ⟨rfl, rfl⟩ := h
      match r, h3 with
      | a :: b :: c :: t, _ =>
        simp only [List.length_cons, List.getD_cons_succ, List.getD_cons_zero] at h4 ⊢
        have e : 3 + c.toNat = c.toNat + 1 + 1 + 1 := by omega
        rw [e]
        simp only [lineBytes, byteOf_u8, List.drop_succ_cons, List.drop_zero, List.cons_append, List.nil_append]
        rw [List.length_take, Nat.min_eq_left (by omega), byteOf_u8, List.take_append_drop]
      | [], h => simp at h
      | [_], h => simp at h
      | [_, _], h => simp at h

theorem takeN_bytes {b : List UInt8} : ∀ {k : Nat} {ls : List Ln} {r : List UInt8}, takeN b k = some (ls, r) → ls.length = k ∧ manyBytes ls ++ r = b := by
  intro k
  induction k with
  | zero => intro ls r h; cases h; exact ⟨rfl, rfl⟩
  | succ k ih =>
    intro ls r h
    cases e : takeN b k with
    | none => exact absurd h (by show (takeN b k).bind _ ≠ _; rw [e]; simp)
    | some p =>
      obtain ⟨ls0, r0⟩ := p
      rw [takeN_step b k ls0 r0 e] at h
      obtain ⟨i1, i2⟩ := ih e
      cases e2 : takeLine r0 with
      | none => rw [e2] at h; cases h
      | some q =>
        obtain ⟨l, r1⟩ := q
        rw [e2] at h
        simp only [Option.map_some, Option.some.injEq, Prod.mk.injEq] at h
        obtain ⟨rfl, rfl⟩ := h
        refine ⟨by simp [i1], ?_⟩
        rw [manyBytes_snoc, List.append_assoc, takeLine_bytes e2, i2]

theorem takeLines_bytes {b : List UInt8} {ls : List Ln} {r : List UInt8} (h : takeLines b = some (ls, r)) : linesBytes ls ++ r = b := by
  unfold takeLines at h
  split at h
  · cases h
  · rename_i h0
    obtain ⟨i1, i2⟩ := takeN_bytes h
    match b, h0 with
    | x :: t, _ =>
      simp only [List.getD_cons_zero, List.drop_succ_cons, List.drop_zero] at i1 i2
      unfold linesBytes
      rw [i1, byteOf_u8, List.cons_append, i2]
    | [], h => exact absurd rfl h

theorem head_bytes (b : List UInt8) (h : 8 ≤ b.length) : (parseF b).head = b.take 6 := by
  match b, h with
  | a :: b :: c :: d :: e :: f :: t, _ => simp [Fr.head, parseF, kindOf, byteOf_u8]
  | [], h | [_], h | [_, _], h | [_, _, _], h | [_, _, _, _], h | [_, _, _, _, _], h => simp at h

theorem mid_split (b : List UInt8) (h : 8 ≤ b.length) : b.take 6 ++ midOf b = b.take (b.length - 2) := by
  unfold midOf
  have e : b.length - 2 = 6 + (b.length - 2 - 6) := by omega
  conv => rhs; rw [e, List.take_add]

theorem parse_body (b : List UInt8) (h : 8 ≤ b.length) (hp : parseOk b = true) : (parseF b).body = b.take (b.length - 2) := by
  unfold Fr.body
  rw [head_bytes b h, ← mid_split b h, List.append_assoc]
  congr 1
  show (if hasB (kindOf b) 49 then lineBytes (parseF b).line else []) ++ (if hasB (kindOf b) 110 then linesBytes (parseF b).lines else []) = midOf b
  unfold parseOk at hp
  cases h49 : hasB (kindOf b) 49
  · rw [h49] at hp
    cases h110 : hasB (kindOf b) 110
    · rw [h110] at hp
      simp only [Bool.false_eq_true, if_false, List.isEmpty_iff] at hp ⊢
      rw [hp]; rfl
    · rw [h110] at hp
      simp only [Bool.false_eq_true, if_false, if_true, Bool.and_eq_true, List.isEmpty_iff] at hp ⊢
      have e : (parseF b).lines = tsLines (midOf b) := by simp [parseF, h110]
      rw [e, List.nil_append]
      cases e2 : takeLines (midOf b) with
      | none => simp [tsOk, e2] at hp
      | some q =>
        obtain ⟨ls, r⟩ := q
        have h2 := takeLines_bytes e2
        simp only [tsRest, tsLines, e2, Option.map_some, Option.getD_some] at hp ⊢
        rw [hp.2, List.append_nil] at h2
        exact h2
  · have h110 : hasB (kindOf b) 110 = false := by
      cases h : hasB (kindOf b) 110
      · rfl
      · exact absurd ⟨h49, h⟩ (no_both _)
    rw [h49] at hp
    rw [h110]
    simp only [Bool.false_eq_true, if_false, if_true, Bool.and_eq_true, List.isEmpty_iff] at hp ⊢
    have e : (parseF b).line = tlLine (midOf b) := by simp [parseF, h49]
    rw [e, List.append_nil]
    cases e2 : takeLine (midOf b) with
    | none => simp [tlOk, e2] at hp
    | some q =>
      obtain ⟨l, r⟩ := q
      have h2 := takeLine_bytes e2
      simp only [tlRest, tlLine, e2, Option.map_some, Option.getD_some] at hp ⊢
      rw [hp.2, List.append_nil] at h2
      exact h2

/-- Does a text end with the check of what stands ahead? -/
def stripOk (b : List UInt8) : Bool :=
  decide (2 ≤ b.length) && ((b.getD (b.length - 2) 0 == UInt8.ofNat (chk (b.take (b.length - 2)) % 256)) && (b.getD (b.length - 2 + 1) 0 == UInt8.ofNat (chk (b.take (b.length - 2)) / 256)))

theorem strip_iff (b : List UInt8) (h : 2 ≤ b.length) : stripOk b = true ↔ withChk (b.take (b.length - 2)) = b := by
  have e : b = b.take (b.length - 2) ++ [b.getD (b.length - 2) 0, b.getD (b.length - 2 + 1) 0] := by
    conv => lhs; rw [← List.take_append_drop (b.length - 2) b]
    congr 1
    apply List.ext_getElem
    · simp; omega
    · intro i h1 h2
      simp at h2
      match i, h2 with
      | 0, _ => simp [List.getD, show b.length - 2 < b.length from by omega]
      | 1, _ => simp [List.getD, show b.length - 2 + 1 < b.length from by omega]
  unfold stripOk withChk
  constructor
  · intro hs
    simp only [Bool.and_eq_true, beq_iff_eq] at hs
    rw [← hs.2.1, ← hs.2.2]; exact e.symm
  · intro hs
    have e2 := hs.trans e
    have e3 := List.append_cancel_left e2
    simp only [List.cons.injEq, and_true] at e3
    simp only [Bool.and_eq_true, decide_eq_true_eq, beq_iff_eq]
    exact ⟨h, e3.1.symm, e3.2.symm⟩

/-- As the program reads a frame. -/
def progR (b : List UInt8) : Option Fr :=
  if stripOk b = false then none else if b.length < 8 then none else if parseOk b = false then none else if (parseF b).ok = false then none else some (parseF b)

theorem progR_eq (b : List UInt8) : progR b = unpackR b := by
  unfold progR unpackR
  rcases Nat.lt_or_ge b.length 8 with h | h
  · rw [if_pos h, if_pos (Or.inl h)]; split <;> rfl
  · rw [if_neg (show ¬ b.length < 8 by omega)]
    by_cases hk : kindOf b < 1 ∨ 9 < kindOf b
    · have hf : (parseF b).ok = false := by
        rw [Bool.eq_false_iff]; intro e
        obtain ⟨h1, h2, _⟩ := Fr.ok_parts e
        have : (parseF b).kind = kindOf b := rfl
        rw [this] at h1 h2
        omega
      rw [hf, if_pos (Or.inr hk)]
      simp
    · rw [if_neg (show ¬ (b.length < 8 ∨ kindOf b < 1 ∨ 9 < kindOf b) by omega)]
      cases hp : parseOk b
      · simp
      · have hb := parse_body b h hp
        have hs := strip_iff b (by omega)
        have e : (parseF b).bytes = withChk (b.take (b.length - 2)) := by unfold Fr.bytes; rw [hb]
        rw [e]
        cases ho : (parseF b).ok
        · simp
        · cases hx : stripOk b
          · have : withChk (b.take (b.length - 2)) ≠ b := fun e => by rw [hs.2 e] at hx; cases hx
            simp [this]
          · simp [hs.1 hx]

end Go.Proofs.YtolififimldmlaaGreat

set_option linter.unusedVariables false
set_option linter.unusedSimpArgs false
namespace Go.Proofs.YtolififimldmlaaGreat

/-- What a disk says. -/
structure Mm where
  view : Int
  last : Int
  ls : List Ln
def Mm.zero : Mm := ⟨0, 0, []⟩

/-- A record's doing, right or not. -/
def candM (m : Mm) (body : List UInt8) : Option Mm :=
  if body.length = 0 then none
  else if (body.getD 0 0).toNat = 1 then (if tlOk (body.drop 1) && (tlRest (body.drop 1)).isEmpty then some ⟨m.view, m.last, m.ls ++ [tlLine (body.drop 1)]⟩ else none)
  else if (body.getD 0 0).toNat = 2 then (if body.length = 2 then some ⟨(body.getD 1 0).toNat, m.last, m.ls⟩ else none)
  else if (body.getD 0 0).toNat = 3 then (if body.length < 2 then none else if tsOk (body.drop 2) && (tsRest (body.drop 2)).isEmpty then some ⟨(body.getD 1 0).toNat, (body.getD 1 0).toNat, tsLines (body.drop 2)⟩ else none)
  else none
def okM (m : Mm) : Bool := decide (m.last ≤ m.view) && decide (m.view ≤ 100) && linesOk m.ls
def doesM (m : Mm) (body : List UInt8) : Option Mm := (candM m body).bind fun n => if okM n then some n else none

/-- The record at a text's start: what it says, and how many bytes it takes. -/
def recOf (b : List UInt8) : Option (List UInt8 × Nat) :=
  if b.length = 0 then none else if b.length < (b.getD 0 0).toNat + 3 then none else if stripOk (b.take ((b.getD 0 0).toNat + 3)) then some ((b.drop 1).take (b.getD 0 0).toNat, (b.getD 0 0).toNat + 3) else none

def readF (s : List UInt8) : Nat → Mm → Nat → Mm × Nat
  | 0, m, at_ => (m, at_)
  | f + 1, m, at_ => match recOf (s.drop at_) with
    | none => (m, at_)
    | some p => match doesM m p.1 with
      | none => (m, at_)
      | some m' => readF s f m' (at_ + p.2)
/-- A disk, read. -/
def readD (s : List UInt8) : Mm × Nat := readF s (s.length + 1) Mm.zero 0

theorem readF_stop {s : List UInt8} {m : Mm} {at_ : Nat} (h : recOf (s.drop at_) = none) (f : Nat) : readF s f m at_ = (m, at_) := by
  cases f with
  | zero => rfl
  | succ f => unfold readF; rw [h]
theorem readF_no {s : List UInt8} {m : Mm} {at_ : Nat} {p : List UInt8 × Nat} (h : recOf (s.drop at_) = some p) (hd : doesM m p.1 = none) (f : Nat) : readF s f m at_ = (m, at_) := by
  cases f with
  | zero => rfl
  | succ f => unfold readF; rw [h]; simp only; rw [hd]
theorem recOf_len {b : List UInt8} {p : List UInt8 × Nat} (h : recOf b = some p) : 3 ≤ p.2 ∧ p.2 ≤ b.length := by
  unfold recOf at h
  split at h
  · cases h
  · split at h
    · cases h
    · split at h
      · cases h; dsimp only; omega
      · cases h
/-- One record more was read. -/
theorem readF_step {s : List UInt8} {m m' : Mm} {at_ f : Nat} {p : List UInt8 × Nat} (hf : s.length + 1 ≤ f + at_) (h : recOf (s.drop at_) = some p) (hd : doesM m p.1 = some m') :
    ∃ f', readF s f m at_ = readF s f' m' (at_ + p.2) ∧ s.length + 1 ≤ f' + (at_ + p.2) := by
  have hl := recOf_len h
  rw [List.length_drop] at hl
  cases f with
  | zero => omega
  | succ f =>
    refine ⟨f, ?_, by omega⟩
    conv => lhs; unfold readF
    rw [h]; simp only; rw [hd]
theorem readF_le {s : List UInt8} : ∀ (f : Nat) (m : Mm) (at_ : Nat), at_ ≤ s.length → (readF s f m at_).2 ≤ s.length := by
  intro f
  induction f with
  | zero => intro m at_ h; exact h
  | succ f ih =>
    intro m at_ h
    unfold readF
    split
    · exact h
    · rename_i p hp
      have hl := recOf_len hp
      rw [List.length_drop] at hl
      split
      · exact h
      · exact ih _ _ (by omega)
theorem readD_le (s : List UInt8) : (readD s).2 ≤ s.length := readF_le _ _ _ (Nat.zero_le _)
theorem doesM_ok {m m' : Mm} {b : List UInt8} (h : doesM m b = some m') : okM m' = true := by
  unfold doesM at h
  cases e : candM m b with
  | none => rw [e] at h; cases h
  | some n =>
    rw [e] at h
    simp only [Option.bind_some] at h
    split at h
    · cases h; assumption
    · cases h
theorem okM_len {m : Mm} (h : okM m = true) : m.ls.length ≤ 20 := by
  unfold okM at h
  simp only [Bool.and_eq_true] at h
  exact (linesOk_all h.2).1

end Go.Proofs.YtolififimldmlaaGreat
