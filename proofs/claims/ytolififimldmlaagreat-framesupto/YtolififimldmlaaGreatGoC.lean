import Derived.Test.YtolififimldmlaaGreatRefD
set_option linter.unusedVariables false
set_option linter.unusedSimpArgs false
namespace Go.Proofs.YtolififimldmlaaGreat
open Go.RowKit
attribute [local go_sem ↓] Go.wp_at_zero Go.wp_at_succ

/-- Bytes lie there. -/
def BytesIn (w : World) (a : Option Addr) (l : List UInt8) : Prop :=
  ∀ j (h : j < l.length), ∃ g o, a = some ⟨g, o, none⟩ ∧ w.cell? ⟨g, o + j, none⟩ = some (.int .u8 l[j].toNat)

theorem wrap16 (n : Int) : IntKind.u16.wrap n = n % 65536 := by
  have : IntKind.u16.wrap n = n.emod 65536 := by simp [IntKind.wrap, IntKind.bits, IntKind.signed]; rfl
  exact this

set_option maxHeartbeats 400000 in
theorem sum_any (a : Option Addr) (cap : Nat) (l : List UInt8) (w : World) (hl : BytesIn w a l) (hn : l.length ≤ 100000000) :
    Calls Tryz.prog 117 #[sla a l.length cap] w fun e w' => e = .returned (.int .u16 (chk l : Int)) ∧ w' = w := by
  have HL := hid hl
  clear hl
  unfold sla
  go_enter Tryz.func117, Tryz.ntmps117
  go_wp2
  go_loop [3, 8] (fun n i => ∃ (k c : Nat), k ≤ l.length ∧ i = .int .i64 k ∧ n = .int .u16 c ∧ c < 65536 ∧ Hid (c = chk (l.take k))) (fun _ i => l.length - (intOf i).toNat)
  case atStart => exact ⟨0, 7, Nat.zero_le _, rfl, rfl, by omega, rfl⟩
  case round =>
    obtain ⟨k, c, hk, rfl, rfl, hc, hv⟩ := hrel
    by_cases hlt : k < l.length
    · obtain ⟨g, o, rfl, h0⟩ := HL.out k hlt
      have hb : (l[k].toNat : Int) < 256 := by have := l[k].toNat_lt; omega
      have hb0 : (0 : Int) ≤ (l[k].toNat : Int) := by omega
      have HC : Hid (((c : Int) * 31 + (l[k].toNat : Int)) % 65536 = (chk (l.take (k + 1)) : Int)) := by
        show _ = _; rw [hv.out]; exact chkInt l k hlt
      have HL2 : Hid (chk (l.take (k + 1)) < 65536) := chk_lt _
      go_wp2
      go_round
      case rel => exact ⟨k + 1, chk (l.take (k + 1)), by omega, by go_num, by rw [wrap16, wrap16, ← HC.out]; congr 1; omega, HL2.out, rfl⟩
      case measure => simp [intOf]; omega
    · go_wp2
      go_ret
      have e : k = l.length := by omega
      subst e
      have hv := hv.out
      rw [List.take_length] at hv
      exact ⟨ret_int (by rw [hv]), rfl⟩

end Go.Proofs.YtolififimldmlaaGreat
