import Derived.Test.YtolififimldmlaaGreatStill
set_option linter.unusedVariables false
set_option linter.unusedSimpArgs false
namespace Go.Proofs.YtolififimldmlaaGreat
open Go.RowKit
attribute [local go_sem ↓] Go.wp_at_zero Go.wp_at_succ

set_option maxRecDepth 100000 in
set_option maxHeartbeats 1000000 in
theorem sameLines_any (a b : Option Addr) (c d : Nat) (ls : List Ln) (w : World) (hn : ls.length ≤ 100000000) (ha : LinesAt w a ls) (hb : LinesAt w b ls) :
    Calls Tryz.prog 56 #[sla a ls.length c, sla b ls.length d] w fun e w' => e = .returned (.bool true) ∧ Below w.heap.size w w' := by
  have HA := hid ha
  have HB := hid hb
  clear ha hb
  unfold sla
  have hz : ((ls.length : Int) != (ls.length : Int)) = false := by simp
  go_enter Tryz.func56, Tryz.ntmps56
  go_wp2
  go_loopw [5] (fun i wr => ∃ (k m : Nat), k ≤ ls.length ∧ i = .int .i64 k ∧ wr = w.drewN m) (fun i _ => ls.length - (intOf i).toNat)
  case atStart => exact ⟨0, 0, Nat.zero_le _, rfl, rfl⟩
  case round =>
    obtain ⟨k, m, hk, rfl, rfl⟩ := hrel
    by_cases hlt : k < ls.length
    · have b1 : (0 : Int) ≤ (k : Int) := by omega
      have b2 : (k : Int) < (ls.length : Int) := by omega
      obtain ⟨g, o, rfl, h0, h1, h2⟩ := HA.out k hlt
      obtain ⟨g', o', rfl, h0', h1', h2'⟩ := HB.out k hlt
      generalize ls[k] = x at h0 h1 h2 h0' h1' h2'
      have hx : (x.s == x.s) = true := by simp
      go_wp2
      go_quiet (fail)
      go_wp2
      go_roundw
      case rel => exact ⟨k + 1, _, by omega, by go_num, rfl⟩
      case measure => simp [intOf]; omega
    · go_wp2
      go_ret
      exact ⟨rfl, below_drewN (Below.refl _ _) _⟩

set_option maxRecDepth 100000 in
set_option maxHeartbeats 1000000 in
theorem frame_any (f : Fr) (a : Option Addr) (cap : Nat) (w : World) (hl : LinesAt w a f.lines) (hn : f.lines.length ≤ 100000000) (hcap : f.lines.length ≤ cap) :
    Calls Tryz.prog 29 #[f.val a cap] w fun e w' => e = .returned (.string ⟨(packS f).toArray⟩) ∧ Below w.heap.size w w' := by
  have HP := hid (fun w1 (h : Below w.heap.size w w1) => refPack_any f a cap w1 (hl.below h) hn hcap)
  clear hl
  unfold Fr.val sla at HP ⊢
  go_enter Tryz.func29, Tryz.ntmps29
  go_wp2_with fail
  refine (HP.out _ ((Below.refl _ _).alloc (Nat.le_refl _) _)).mono ?_
  rintro e w1 ⟨rfl, hb1⟩
  go_wp2
  go_ret
  exact ⟨rfl, ((Below.refl _ _).alloc (Nat.le_refl _) _).trans (hb1.mono (by simp))⟩

end Go.Proofs.YtolififimldmlaaGreat
