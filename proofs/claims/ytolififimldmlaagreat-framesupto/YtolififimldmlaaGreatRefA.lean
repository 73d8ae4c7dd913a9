import Derived.Test.YtolififimldmlaaGreatBase
import Derived.Test.YtolififimldmlaaGreatSpec
set_option linter.unusedVariables false
set_option linter.unusedSimpArgs false
namespace Go.Proofs.YtolififimldmlaaGreat
open Go.RowKit
attribute [local go_sem ↓] Go.wp_at_zero Go.wp_at_succ

/-- A line's value; its cells. -/
def Ln.cells (l : Ln) : List Value := [.int .i64 l.c, .int .i64 l.t, .string ⟨l.s.toArray⟩]

/-- A slice's value over the lines' own address. -/
def sla (a : Option Addr) (n c : Nat) : Value := .slice a n c

/-- The lines lie there. -/
def LinesAt (w : World) (a : Option Addr) (ls : List Ln) : Prop :=
  ∀ j (h : j < ls.length), ∃ g o, a = some ⟨g, o, none⟩ ∧ w.cell? ⟨g, o + j * 3, none⟩ = some (.int .i64 ls[j].c) ∧ w.cell? ⟨g, o + j * 3 + 1, none⟩ = some (.int .i64 ls[j].t) ∧ w.cell? ⟨g, o + j * 3 + 2, none⟩ = some (.string ⟨ls[j].s.toArray⟩)

theorem LinesAt.below {w w' : World} {a : Option Addr} {ls : List Ln} (h : LinesAt w a ls) (hb : Below w.heap.size w w') : LinesAt w' a ls := fun j hj => by
  obtain ⟨g, o, e, h0, h1, h2⟩ := h j hj
  exact ⟨g, o, e, (hb.cell (World.block_lt_of_cell? _ _ h0)).trans h0, (hb.cell (World.block_lt_of_cell? _ _ h1)).trans h1, (hb.cell (World.block_lt_of_cell? _ _ h2)).trans h2⟩

set_option maxHeartbeats 400000 in
theorem isLine_any (l : Ln) (w : World) : Calls Tryz.prog 143 #[.agg #[.int .i64 l.c, .int .i64 l.t, .string ⟨l.s.toArray⟩]] w fun e w' => e = .returned (.bool l.ok) ∧ Below w.heap.size w w' := by
  obtain ⟨c, t, s⟩ := l
  dsimp only
  go_enter Tryz.func143, Tryz.ntmps143
  go_wp2
  all_goals (go_ret; refine ⟨ret_bool ?_, (Below.refl _ _).alloc (Nat.le_refl _) _⟩; rw [Bool.eq_iff_iff]; simp [Ln.ok]; omega)

set_option maxHeartbeats 400000 in
theorem turn_any (a : Option Addr) (cap : Nat) (ls : List Ln) (c : Int) (w : World) (hl : LinesAt w a ls) (hn : ls.length ≤ 100000000) :
    Calls Tryz.prog 149 #[sla a ls.length cap, .int .i64 c] w fun e w' => e = .returned (.int .i64 (turnOf ls c)) ∧ w' = w := by
  have HL := hid hl
  clear hl
  unfold sla
  go_enter Tryz.func149, Tryz.ntmps149
  go_wp2
  go_loop [5, 6] (fun n i => ∃ k : Nat, k ≤ ls.length ∧ i = .int .i64 k ∧ n = .int .i64 (turnOf (ls.take k) c)) (fun _ i => ls.length - (intOf i).toNat)
  case atStart => exact ⟨0, Nat.zero_le _, rfl, rfl⟩
  case round =>
    obtain ⟨k, hk, rfl, rfl⟩ := hrel
    by_cases hlt : k < ls.length
    · obtain ⟨g, o, rfl, h0, h1, h2⟩ := HL.out k hlt
      have HS : Hid (turnOf (ls.take (k + 1)) c = if ls[k].c = c ∧ turnOf (ls.take k) c < ls[k].t then ls[k].t else turnOf (ls.take k) c) := by
        rw [take_snoc ls k hlt]; exact turnOf_snoc _ _ _
      generalize turnOf (ls.take k) c = T at HS ⊢
      generalize ls[k] = x at HS h0 h1 h2
      go_wp2
      all_goals
        go_round
        case rel => exact ⟨k + 1, by omega, by go_num, by rw [HS.out]; simp_all <;> omega⟩
        case measure => simp [intOf]; omega
    · go_wp2
      go_ret
      exact ⟨ret_int (by rw [List.take_of_length_le (by omega)]), rfl⟩

set_option maxHeartbeats 400000 in
theorem has_any (l : List UInt8) (c : UInt8) (w : World) (hn : l.length ≤ 100000000) :
    Calls Tryz.prog 93 #[.string ⟨l.toArray⟩, .int .u8 c.toNat] w fun e w' => e = .returned (.bool (memB l c)) ∧ w' = w := by
  go_enter Tryz.func93, Tryz.ntmps93
  go_wp2
  go_loop [5] (fun i => ∃ k : Nat, k ≤ l.length ∧ i = .int .i64 k ∧ memB (l.take k) c = false) (fun i => l.length - (intOf i).toNat)
  case atStart => exact ⟨0, Nat.zero_le _, rfl, rfl⟩
  case round =>
    obtain ⟨k, hk, rfl, hno⟩ := hrel
    have HN := hid hno
    clear hno
    by_cases hlt : k < l.length
    · go_wp2
      · have h : ((l[k].toNat : Int) == (c.toNat : Int)) = true := by assumption
        go_ret
        exact ⟨ret_bool (memB_hit l c k hlt (by simpa using h)).symm, rfl⟩
      · have h : ((l[k].toNat : Int) == (c.toNat : Int)) = false := by assumption
        go_round
        case rel => exact ⟨k + 1, by omega, by go_num, memB_miss l c k hlt (by simpa using h) HN.out⟩
        case measure => simp [intOf]; omega
    · go_wp2
      go_ret
      exact ⟨ret_bool (by have h := HN.out; rw [List.take_of_length_le (by omega)] at h; exact h.symm), rfl⟩

set_option maxHeartbeats 400000 in
theorem fields_any (k : Int) (w : World) (h1 : 1 ≤ k) (h9 : k ≤ 9) : Calls Tryz.prog 92 #[.int .i64 k] w fun e w' => e = .returned (.string ⟨(fieldStr k).toArray⟩) ∧ Below w.heap.size w w' := by
  have : k = 1 ∨ k = 2 ∨ k = 3 ∨ k = 4 ∨ k = 5 ∨ k = 6 ∨ k = 7 ∨ k = 8 ∨ k = 9 := by omega
  clear h1 h9
  rcases this with rfl | rfl | rfl | rfl | rfl | rfl | rfl | rfl | rfl
  all_goals
    go_enter Tryz.func92, Tryz.ntmps92
    go_wp2
    go_ret
    exact ⟨rfl, (Below.refl _ _).alloc (Nat.le_refl _) _⟩

set_option maxHeartbeats 400000 in
theorem fits_any (is : Bool) (n least most : Int) (w : World) : Calls Tryz.prog 142 #[.bool is, .int .i64 n, .int .i64 least, .int .i64 most] w fun e w' => e = .returned (.bool (fitsB is n least most)) ∧ w' = w := by
  cases is
  all_goals
    go_enter Tryz.func142, Tryz.ntmps142
    go_wp2
  all_goals (go_ret; refine ⟨ret_bool ?_, rfl⟩; rw [Bool.eq_iff_iff]; simp [fitsB]; try omega)

end Go.Proofs.YtolififimldmlaaGreat
