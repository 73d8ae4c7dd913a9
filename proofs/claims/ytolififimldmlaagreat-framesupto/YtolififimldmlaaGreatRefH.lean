import Derived.Test.YtolififimldmlaaGreatRefG
set_option linter.unusedVariables false
set_option linter.unusedSimpArgs false
namespace Go.Proofs.YtolififimldmlaaGreat
open Go.RowKit
attribute [local go_sem ↓] Go.wp_at_zero Go.wp_at_succ

def Fr.zero : Fr := ⟨0, 0, 0, 0, 0, 0, Ln.zero, []⟩
/-- What stands between a frame's head and its check. -/
def midOf (b : List UInt8) : List UInt8 := (b.drop 6).take (b.length - 2 - 6)
def kindOf (b : List UInt8) : Int := (b.getD 0 0).toNat
def parseF (b : List UInt8) : Fr :=
  ⟨kindOf b, (b.getD 1 0).toNat, (b.getD 2 0).toNat, (b.getD 3 0).toNat, (b.getD 4 0).toNat, (b.getD 5 0).toNat,
    if hasB (kindOf b) 49 then tlLine (midOf b) else Ln.zero, if hasB (kindOf b) 110 then tsLines (midOf b) else []⟩
def parseOk (b : List UInt8) : Bool :=
  if hasB (kindOf b) 49 then tlOk (midOf b) && (tlRest (midOf b)).isEmpty else if hasB (kindOf b) 110 then tsOk (midOf b) && (tsRest (midOf b)).isEmpty else (midOf b).isEmpty
/-- As the document's answer reads a frame. -/
def unpackR (b : List UInt8) : Option Fr :=
  if b.length < 8 ∨ kindOf b < 1 ∨ 9 < kindOf b then none else if parseOk b = false then none else if (parseF b).ok = false ∨ (parseF b).bytes ≠ b then none else some (parseF b)
def unpackF (b : List UInt8) : Fr := (unpackR b).getD Fr.zero
def unpackE (b : List UInt8) : Int := if (unpackR b).isSome then 0 else 3

theorem un_no {b : List UInt8} (h : unpackR b = none) : unpackF b = Fr.zero ∧ unpackE b = 3 := by simp [unpackF, unpackE, h]
theorem un_yes {b : List UInt8} {f : Fr} (h : unpackR b = some f) : unpackF b = f ∧ unpackE b = 0 := by simp [unpackF, unpackE, h]

/-- A frame that a call has made. -/
def RetFrame (w : World) (b : List UInt8) (e : Ending) (w' : World) : Prop :=
  ∃ g c, e = .returned (.tuple #[(unpackF b).val (g.map fun k => (⟨k, 0, none⟩ : Addr)) c, .int .i64 (unpackE b)]) ∧ OwnLines w w' g c (unpackF b).lines ∧ Below w.heap.size w w'

theorem ret_zero {w w' : World} {b : List UInt8} (h : unpackR b = none) (hb : Below w.heap.size w w') :
    RetFrame w b (.returned (.tuple #[.agg #[.int .i64 0, .int .i64 0, .int .i64 0, .int .i64 0, .int .i64 0, .int .i64 0, .int .i64 0, .int .i64 0, .string ⟨#[]⟩, .slice none 0 0], .int .i64 3])) w' := by
  obtain ⟨e1, e2⟩ := un_no h
  refine ⟨none, 0, ?_, ?_, hb⟩
  · rw [e1, e2]; rfl
  · rw [e1]; exact ⟨fun j hj => absurd hj (by simp [Fr.zero]), .inl ⟨rfl, rfl, rfl⟩, fun k e => by cases e⟩

set_option maxRecDepth 100000 in
set_option maxHeartbeats 2000000 in
theorem refUnpack_short (b : List UInt8) (w : World) (hn : b.length ≤ 100000000) (h : b.length < 8 ∨ kindOf b < 1 ∨ 9 < kindOf b) :
    Calls Tryz.prog 97 #[.string ⟨b.toArray⟩] w (RetFrame w b) := by
  have HN : Hid (unpackR b = none) := by show _ = _; unfold unpackR; rw [if_pos h]
  rcases Nat.lt_or_ge b.length 8 with h8 | h8
  · clear h
    go_enter Tryz.func97, Tryz.ntmps97
    go_wp2
    exact bodyPost_ret (v := .tuple #[.agg #[.int .i64 0, .int .i64 0, .int .i64 0, .int .i64 0, .int .i64 0, .int .i64 0, .int .i64 0, .int .i64 0, .string ⟨#[]⟩, .slice none 0 0], .int .i64 3]) (by simp [results, Tryz.results97, go_sem]) rfl (ret_zero HN.out (by first | exact (((Below.refl _ _).alloc (Nat.le_refl _) _).alloc (by simp) _) | skip))
  · have i0 : ∀ h, (⟨b.toArray⟩ : ByteArray)[0]'h = b.getD 0 0 := fun h => by rw [getD_at b 0 0 (by omega)]; rfl
    unfold kindOf at h
    generalize b.getD 0 0 = z at i0 h
    have hz : z.toNat < 256 := z.toNat_lt
    rcases Nat.lt_or_ge z.toNat 1 with h1 | h1
    · clear h
      go_enter Tryz.func97, Tryz.ntmps97
      go_wp2
      exact bodyPost_ret (v := .tuple #[.agg #[.int .i64 0, .int .i64 0, .int .i64 0, .int .i64 0, .int .i64 0, .int .i64 0, .int .i64 0, .int .i64 0, .string ⟨#[]⟩, .slice none 0 0], .int .i64 3]) (by simp [results, Tryz.results97, go_sem]) rfl (ret_zero HN.out (((Below.refl _ _).alloc (Nat.le_refl _) _).alloc (by simp) _))
    · have h9 : 9 < z.toNat := by omega
      clear h
      go_enter Tryz.func97, Tryz.ntmps97
      go_wp2
      exact bodyPost_ret (v := .tuple #[.agg #[.int .i64 0, .int .i64 0, .int .i64 0, .int .i64 0, .int .i64 0, .int .i64 0, .int .i64 0, .int .i64 0, .string ⟨#[]⟩, .slice none 0 0], .int .i64 3]) (by simp [results, Tryz.results97, go_sem]) rfl (ret_zero HN.out (((Below.refl _ _).alloc (Nat.le_refl _) _).alloc (by simp) _))

end Go.Proofs.YtolififimldmlaaGreat
