import Derived.Test.YtolififimldmlaaGreatGoI
set_option linter.unusedVariables false
set_option linter.unusedSimpArgs false
namespace Go.Proofs.YtolififimldmlaaGreat
open Go.RowKit
attribute [local go_sem ↓] Go.wp_at_zero Go.wp_at_succ

/-- A kind's row of the table, as the program writes it. -/
def fb (k : Int) : Int :=
  if k = 1 then 32 else if k = 2 then 47 else if k = 3 then 7 else if k = 4 then 11 else if k = 5 then 3 else if k = 8 then 3 else if k = 6 then 91 else if k = 7 then 75 else if k = 9 then 38 else 0

set_option maxHeartbeats 1000000 in
theorem fieldsOf_go (k : Int) (w : World) : Calls Tryz.prog 69 #[.int .i64 k] w fun e w' => e = .returned (.int .i64 (fb k)) ∧ w' = w := by
  go_enter Tryz.func69, Tryz.ntmps69
  go_wp2
  all_goals (go_ret; refine ⟨ret_int ?_, rfl⟩; unfold fb; simp_all)

/-- Does a number fit? -/
def fitsG (has n most : Int) : Bool := if has = 0 then n == 0 else decide (0 ≤ n) && decide (n ≤ most)

set_option maxHeartbeats 1000000 in
theorem fits_go (has n most : Int) (w : World) : Calls Tryz.prog 113 #[.int .i64 has, .int .i64 n, .int .i64 most] w fun e w' => e = .returned (.bool (fitsG has n most)) ∧ w' = w := by
  go_enter Tryz.func113, Tryz.ntmps113
  go_wp2
  all_goals (go_ret; refine ⟨ret_bool ?_, rfl⟩; unfold fitsG; simp_all; try omega)

def leastG (k : Int) : Int := if k = 2 ∨ k = 9 then 1 else 0
set_option maxHeartbeats 1000000 in
theorem leastPlace_go (k : Int) (w : World) : Calls Tryz.prog 114 #[.int .i64 k] w fun e w' => e = .returned (.int .i64 (leastG k)) ∧ w' = w := by
  go_enter Tryz.func114, Tryz.ntmps114
  go_wp2
  all_goals (go_ret; refine ⟨ret_int ?_, rfl⟩; unfold leastG; simp_all)

def fitsLineG (f : Fr) (has : Int) : Bool := if has = 0 then f.line.isZero else !(f.kind == 9 && !f.line.s.isEmpty) && f.line.ok
set_option maxHeartbeats 1000000 in
theorem fitsLine_go (f : Fr) (a : Option Addr) (cap : Nat) (has : Int) (w : World) : Calls Tryz.prog 115 #[f.val a cap, .int .i64 has] w fun e w' => e = .returned (.bool (fitsLineG f has)) ∧ Below w.heap.size w w' := by
  obtain ⟨kind, frm, view, place, agreed, last, ⟨c, t, s⟩, ls⟩ := f
  unfold Fr.val sla
  dsimp only
  have HO : Hid (∀ h, fitsLineG ⟨kind, frm, view, place, agreed, last, ⟨c, t, s⟩, ls⟩ h = if h = 0 then (Ln.mk c t s).isZero else !(kind == 9 && !s.isEmpty) && (Ln.mk c t s).ok) := fun h => rfl
  go_enter Tryz.func115, Tryz.ntmps115
  go_wp2_with (go_at_call 160; refine (rightLine_any ⟨c, t, s⟩ _).mono ?_; rintro e w2 ⟨rfl, hb2⟩; have HB2 := hid hb2; clear hb2)
  all_goals
    go_ret
    refine ⟨ret_bool ?_, ?_⟩
  all_goals (try first | exact (Below.refl _ _).alloc (Nat.le_refl _) _ | exact ((Below.refl _ _).alloc (Nat.le_refl _) _).trans (HB2.out.mono (by simp)))
  all_goals (rw [HO.out]; simp_all [Ln.isZero])

def fitsLinesG (f : Fr) (has : Int) : Bool := if has = 0 then f.lines.isEmpty else linesOk f.lines
set_option maxHeartbeats 1000000 in
theorem fitsLines_go (f : Fr) (a : Option Addr) (cap : Nat) (has : Int) (w : World) (hl : LinesAt w a f.lines) (hn : f.lines.length ≤ 100000000) (hcap : f.lines.length ≤ cap) : Calls Tryz.prog 116 #[f.val a cap, .int .i64 has] w fun e w' => e = .returned (.bool (fitsLinesG f has)) ∧ Below w.heap.size w w' := by
  obtain ⟨kind, frm, view, place, agreed, last, ⟨c, t, s⟩, ls⟩ := f
  have HL := hid hl
  dsimp only at HL hn hcap
  clear hl
  unfold Fr.val sla
  dsimp only
  have HO : Hid (∀ h, fitsLinesG ⟨kind, frm, view, place, agreed, last, ⟨c, t, s⟩, ls⟩ h = if h = 0 then ls.isEmpty else linesOk ls) := fun h => rfl
  go_enter Tryz.func116, Tryz.ntmps116
  go_wp2_with (go_at_call 161; refine (right_lines a cap ls _ (HL.out.alloc _) hn hcap).mono ?_; rintro e w2 ⟨rfl, hb2⟩; have HB2 := hid hb2; clear hb2)
  all_goals
    go_ret
    refine ⟨ret_bool ?_, ?_⟩
  all_goals (try first | exact (Below.refl _ _).alloc (Nat.le_refl _) _ | exact ((Below.refl _ _).alloc (Nat.le_refl _) _).trans (HB2.out.mono (by simp)))
  all_goals (rw [HO.out]; have := len_isEmpty ls; simp_all)

end Go.Proofs.YtolififimldmlaaGreat
