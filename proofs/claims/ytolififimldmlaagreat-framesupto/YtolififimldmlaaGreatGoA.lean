import Derived.Test.YtolififimldmlaaGreatRefA
set_option linter.unusedVariables false
set_option linter.unusedSimpArgs false
namespace Go.Proofs.YtolififimldmlaaGreat
open Go.RowKit
attribute [local go_sem ↓] Go.wp_at_zero Go.wp_at_succ

set_option maxHeartbeats 400000 in
theorem rightLine_any (l : Ln) (w : World) : Calls Tryz.prog 160 #[.agg #[.int .i64 l.c, .int .i64 l.t, .string ⟨l.s.toArray⟩]] w fun e w' => e = .returned (.bool l.ok) ∧ Below w.heap.size w w' := by
  obtain ⟨c, t, s⟩ := l
  dsimp only
  go_enter Tryz.func160, Tryz.ntmps160
  go_wp2
  all_goals (go_ret; refine ⟨ret_bool ?_, (Below.refl _ _).alloc (Nat.le_refl _) _⟩; rw [Bool.eq_iff_iff]; simp [Ln.ok]; omega)

set_option maxHeartbeats 400000 in
theorem greatest_any (a : Option Addr) (cap : Nat) (ls : List Ln) (c : Int) (w : World) (hl : LinesAt w a ls) (hn : ls.length ≤ 100000000) :
    Calls Tryz.prog 121 #[sla a ls.length cap, .int .i64 c] w fun e w' => e = .returned (.int .i64 (turnOf ls c)) ∧ Below w.heap.size w w' := by
  have HL := hid hl
  clear hl
  unfold sla
  go_enter Tryz.func121, Tryz.ntmps121
  go_wp2
  go_loopw [5, 10] (fun n i wr => ∃ k : Nat, k ≤ ls.length ∧ i = .int .i64 k ∧ n = .int .i64 (turnOf (ls.take k) c) ∧ Below w.heap.size w wr) (fun _ i _ => ls.length - (intOf i).toNat)
  case atStart => exact ⟨0, Nat.zero_le _, rfl, rfl, Below.refl _ _⟩
  case round =>
    obtain ⟨k, hk, rfl, rfl, hb⟩ := hrel
    by_cases hlt : k < ls.length
    · obtain ⟨g, o, rfl, h0, h1, h2⟩ := HL.out k hlt
      have d0 := (hb.cell (World.block_lt_of_cell? w _ h0)).trans h0
      have d1 := (hb.cell (World.block_lt_of_cell? w _ h1)).trans h1
      have d2 := (hb.cell (World.block_lt_of_cell? w _ h2)).trans h2
      clear h0 h1 h2
      have HS : Hid (turnOf (ls.take (k + 1)) c = if ls[k].c = c ∧ turnOf (ls.take k) c < ls[k].t then ls[k].t else turnOf (ls.take k) c) := by
        rw [take_snoc ls k hlt]; exact turnOf_snoc _ _ _
      generalize turnOf (ls.take k) c = T at HS ⊢
      generalize ls[k] = x at HS d0 d1 d2
      go_wp2
      all_goals
        go_roundw
        case rel => exact ⟨k + 1, by omega, by go_num, by rw [HS.out]; simp_all <;> omega, hb.alloc hb.size _⟩
        case measure => simp [intOf]; omega
    · go_wp2
      go_ret
      exact ⟨ret_int (by rw [List.take_of_length_le (by omega)]), hb⟩

end Go.Proofs.YtolififimldmlaaGreat
