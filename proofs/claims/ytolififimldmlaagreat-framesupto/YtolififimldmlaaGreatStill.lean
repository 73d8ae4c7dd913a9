import Derived.Test.YtolififimldmlaaGreatLaw
set_option linter.unusedVariables false
set_option linter.unusedSimpArgs false
namespace Go.Proofs.YtolififimldmlaaGreat
open Go.RowKit
attribute [local go_sem ↓] Go.wp_at_zero Go.wp_at_succ

set_option maxRecDepth 100000 in
set_option maxHeartbeats 1000000 in
theorem still_any (l : List UInt8) (g c : Nat) (w : World) (hn : l.length ≤ 10000000) (hl : Lent w g l) :
    Calls Tryz.prog 64 #[.slice (some ⟨g, 0, none⟩) (l.length + 8) c, .string ⟨l.toArray⟩] w fun e w' => e = .returned (.bool true) ∧ Below w.heap.size w w' := by
  have HL := hid hl
  clear hl
  go_enter Tryz.func64, Tryz.ntmps64
  go_wp2
  go_loopw [5] (fun i wr => ∃ (k m : Nat), k ≤ l.length + 8 ∧ i = .int .i64 k ∧ wr = w.drewN m) (fun i _ => l.length + 8 - (intOf i).toNat)
  case atStart => exact ⟨0, 0, Nat.zero_le _, rfl, rfl⟩
  case round =>
    obtain ⟨k, m, hk, rfl, rfl⟩ := hrel
    by_cases hlt : k < l.length + 8
    · have b1 : (0 : Int) ≤ (k : Int) := by omega
      have b2 : (k : Int) < (l.length : Int) + 8 := by omega
      by_cases hl : k < l.length
      · have h0 := HL.out.at_ k hl
        have b3 : (k : Int) < (l.length : Int) := by omega
        have hne : ((l[k].toNat : Int) != (l[k].toNat : Int)) = false := by simp
        have hne2 : ∀ hh, ((l[k].toNat : Int) != (((⟨l.toArray⟩ : ByteArray)[k]'hh).toNat : Int)) = false := fun hh => hne
        have b5 : decide ((k : Int) < (l.length : Int)) = true := by simp; omega
        have b6 : decide ((l.length : Int) ≤ (k : Int)) = false := by simp; omega
        have b7 : decide (l.length ≤ k) = false := by simp; omega
        go_wp2
        go_quiet (fail)
        go_wp2
        go_roundw
        case rel => exact ⟨k + 1, _, by omega, by go_num, rfl⟩
        case measure => simp [intOf]; omega
      · have h0 := HL.out.sp k (by omega) hlt
        have b3 : decide ((k : Int) < (l.length : Int)) = false := by simp; omega
        have b4 : decide ((l.length : Int) ≤ (k : Int)) = true := by simp; omega
        have b5 : decide (k < l.length) = false := by simp; omega
        have b6 : decide (l.length ≤ k) = true := by simp; omega
        have b7 : ((201 : Int) != 201) = false := rfl
        go_wp2
        go_quiet (fail)
        go_wp2
        go_roundw
        case rel => exact ⟨k + 1, _, by omega, by go_num, rfl⟩
        case measure => simp [intOf]; omega
    · go_wp2
      go_ret
      exact ⟨rfl, below_drewN (Below.refl _ _) _⟩

end Go.Proofs.YtolififimldmlaaGreat
