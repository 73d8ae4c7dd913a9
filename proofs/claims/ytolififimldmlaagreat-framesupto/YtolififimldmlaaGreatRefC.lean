import Derived.Test.YtolififimldmlaaGreatRefB
set_option linter.unusedVariables false
set_option linter.unusedSimpArgs false
namespace Go.Proofs.YtolififimldmlaaGreat
open Go.RowKit
attribute [local go_sem ↓] Go.wp_at_zero Go.wp_at_succ

theorem fieldStr_len (k : Int) : (fieldStr k).length ≤ 100000000 := by
  unfold fieldStr
  repeat' split
  all_goals simp

theorem has_k (k : Int) (c : UInt8) (n : Int) (hn : n = c.toNat) (w : World) :
    Calls Tryz.prog 93 #[.string ⟨(fieldStr k).toArray⟩, .int .u8 n] w fun e w' => e = .returned (.bool (hasB k c)) ∧ w' = w := by
  subst hn; exact has_any _ _ _ (fieldStr_len k)

theorem len_isEmpty {α : Type} (ls : List α) : ((ls.length : Int) == 0) = ls.isEmpty := by
  cases ls with
  | nil => rfl
  | cons a l => simp; omega

/-- A frame's value: its lines lie at a, of capacity cap. -/
def Fr.val (f : Fr) (a : Option Addr) (cap : Nat) : Value :=
  .agg #[.int .i64 f.kind, .int .i64 f.frm, .int .i64 f.view, .int .i64 f.place, .int .i64 f.agreed, .int .i64 f.last, .int .i64 f.line.c, .int .i64 f.line.t, .string ⟨f.line.s.toArray⟩, sla a f.lines.length cap]

set_option maxRecDepth 100000 in
set_option maxHeartbeats 2000000 in
theorem isFrame_any (f : Fr) (a : Option Addr) (cap : Nat) (w : World) (hl : LinesAt w a f.lines) (hn : f.lines.length ≤ 100000000) (hcap : f.lines.length ≤ cap) :
    Calls Tryz.prog 91 #[f.val a cap] w fun e w' => e = .returned (.bool f.ok) ∧ Below w.heap.size w w' := by
  obtain ⟨kind, frm, view, place, agreed, last, ⟨c, t, s⟩, ls⟩ := f
  have HL := hid hl
  dsimp only at HL hn hcap
  clear hl
  unfold Fr.val sla
  dsimp only
  rcases Int.lt_or_le kind 1 with h1 | h1
  · have HF : Hid (Fr.ok ⟨kind, frm, view, place, agreed, last, ⟨c, t, s⟩, ls⟩ = false) := by
      show Fr.ok _ = _
      unfold Fr.ok
      rw [show decide (1 ≤ kind) = false from by simp; omega]; simp
    go_enter Tryz.func91, Tryz.ntmps91
    go_wp2
    go_ret
    exact ⟨ret_bool HF.out.symm, (Below.refl _ _).alloc (Nat.le_refl _) _⟩
  rcases Int.lt_or_le 9 kind with h9 | h9
  · have HF : Hid (Fr.ok ⟨kind, frm, view, place, agreed, last, ⟨c, t, s⟩, ls⟩ = false) := by
      show Fr.ok _ = _
      unfold Fr.ok
      rw [show decide (kind ≤ 9) = false from by simp; omega]; simp
    go_enter Tryz.func91, Tryz.ntmps91
    go_wp2
    go_ret
    exact ⟨ret_bool HF.out.symm, (Below.refl _ _).alloc (Nat.le_refl _) _⟩
  have HOK : Hid (Fr.ok ⟨kind, frm, view, place, agreed, last, ⟨c, t, s⟩, ls⟩ = (fitsB (hasB kind 102) frm 0 4 && fitsB (hasB kind 118) view 0 100 && fitsB (hasB kind 112) place (if hasB kind 49 then 1 else 0) 20 &&
      fitsB (hasB kind 97) agreed 0 20 && fitsB (hasB kind 108) last 0 100 &&
      (if hasB kind 49 then (Ln.mk c t s).ok else (Ln.mk c t s).isZero) && !(kind == 9 && !s.isEmpty) && (if hasB kind 110 then linesOk ls else ls.isEmpty))) := by
    show Fr.ok _ = _
    unfold Fr.ok
    simp only [h1, h9, decide_true, Bool.true_and]
  go_enter Tryz.func91, Tryz.ntmps91
  go_wp2_with fail
  refine (fields_any kind _ h1 h9).mono ?_
  rintro e w1 ⟨rfl, hb1⟩
  have HB1 := hid hb1
  obtain ⟨q1, q2⟩ := bcell hb1
  have hz1 : w.heap.size < w1.heap.size := by have := hb1.size; simp at this; omega
  have HW1 : Hid (Below w.heap.size w w1) := ((Below.refl _ w).alloc (Nat.le_refl _) _).trans (hb1.mono (by simp))
  clear hb1 q2
  go_wp2_with fail
  refine (has_k kind 49 _ rfl _).mono ?_
  rintro e _ ⟨rfl, rfl⟩
  go_wp2_with fail
  refine (has_k kind 110 _ rfl _).mono ?_
  rintro e _ ⟨rfl, rfl⟩
  generalize hasB kind 49 = one at HOK ⊢
  generalize hasB kind 110 = all at HOK ⊢
  have more : ∀ (least : Int), Hid (least = if one then 1 else 0) → True := fun _ _ => trivial
  clear more
  cases one
  all_goals
    go_wp2_with fail
    refine (has_k kind 102 _ rfl _).mono ?_
    rintro e _ ⟨rfl, rfl⟩
    go_wp2_with fail
    refine (has_k kind 118 _ rfl _).mono ?_
    rintro e _ ⟨rfl, rfl⟩
    go_wp2_with fail
    refine (has_k kind 112 _ rfl _).mono ?_
    rintro e _ ⟨rfl, rfl⟩
    go_wp2_with fail
    refine (has_k kind 97 _ rfl _).mono ?_
    rintro e _ ⟨rfl, rfl⟩
    go_wp2_with fail
    refine (has_k kind 108 _ rfl _).mono ?_
    rintro e _ ⟨rfl, rfl⟩
    go_wp2_with fail
    refine (fits_any (hasB kind 102) frm 0 4 _).mono ?_
    rintro e _ ⟨rfl, rfl⟩
    go_wp2_with fail
    refine (fits_any (hasB kind 118) view 0 100 _).mono ?_
    rintro e _ ⟨rfl, rfl⟩
    go_wp2_with fail
    refine (fits_any (hasB kind 112) place _ 20 _).mono ?_
    rintro e _ ⟨rfl, rfl⟩
    go_wp2_with fail
    refine (fits_any (hasB kind 97) agreed 0 20 _).mono ?_
    rintro e _ ⟨rfl, rfl⟩
    go_wp2_with fail
    refine (fits_any (hasB kind 108) last 0 100 _).mono ?_
    rintro e _ ⟨rfl, rfl⟩
    simp only [if_true, Bool.false_eq_true, if_false] at HOK
    generalize fitsB (hasB kind 102) frm 0 4 = b1 at HOK ⊢
    generalize fitsB (hasB kind 118) view 0 100 = b2 at HOK ⊢
    generalize fitsB (hasB kind 112) place _ 20 = b3 at HOK ⊢
    generalize fitsB (hasB kind 97) agreed 0 20 = b4 at HOK ⊢
    generalize fitsB (hasB kind 108) last 0 100 = b5 at HOK ⊢
    go_wp2_with (go_at_call 143; refine (isLine_any ⟨c, t, s⟩ _).mono ?_; rintro e w2 ⟨rfl, hb2⟩; obtain ⟨r1, r2⟩ := bcell hb2; have HB2 := hid hb2; clear hb2 r2)
    all_goals (try (go_ret; refine ⟨ret_bool ?_, ?_⟩))
  all_goals (try first | exact HW1.out | exact HW1.out.trans (HB2.out.mono HW1.out.size))
  all_goals (try (rw [HOK.out]; simp_all [Ln.isZero]; done))
  all_goals
    have HB12 := hid (HW1.out.trans (HB2.out.mono HW1.out.size))
    have hz2 : w.heap.size < w2.heap.size := by have := HB2.out.size; omega
    refine (areLines_any a cap ls _ (HL.out.below HB12.out) hn hcap).mono ?_
    rintro e w3 ⟨rfl, hb3⟩
    obtain ⟨p1, p2⟩ := bcell hb3
    have HB3 := hid (HB12.out.trans (hb3.mono HB12.out.size))
    clear hb3 p2
    have HLE : Hid (((ls.length : Int) == 0) = ls.isEmpty) := len_isEmpty ls
    cases all
    all_goals
      go_wp2
    all_goals
      go_ret
      refine ⟨ret_bool ?_, HB3.out⟩
      rw [HOK.out]
      have := HLE.out
      simp_all [Ln.isZero]

end Go.Proofs.YtolififimldmlaaGreat
