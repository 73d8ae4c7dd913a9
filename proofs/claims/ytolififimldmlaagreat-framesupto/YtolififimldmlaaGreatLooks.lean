import Derived.Test.YtolififimldmlaaGreatHold
set_option linter.unusedVariables false
set_option linter.unusedSimpArgs false
namespace Go.Proofs.YtolififimldmlaaGreat
open Go.RowKit
attribute [local go_sem ↓] Go.wp_at_zero Go.wp_at_succ

theorem HoldIs.below {w w' : World} {h : HG} (hh : HoldIs w h) (hb : Below w.heap.size w w') : HoldIs w' h := by
  have hc : ∀ {a : Addr} {v : Value}, w.cell? a = some v → w'.cell? a = some v := fun {a v} e => (hb.cell (World.block_lt_of_cell? w _ e)).trans e
  refine ⟨hc hh.c0, hc hh.c1, hc hh.c2, hc hh.c3, fun j hj => ?_, fun j hj => ?_, fun j hj => ?_⟩
  · obtain ⟨g, e, a⟩ := hh.bs j hj; exact ⟨g, e, hc a⟩
  · obtain ⟨g, e, a, b, c⟩ := hh.ls j hj; exact ⟨g, e, hc a, hc b, hc c⟩
  · obtain ⟨g, cc, e, a, b, c, d⟩ := hh.os j hj; exact ⟨g, cc, e, hc a, hc b, hc c, hc d⟩

set_option maxHeartbeats 400000 in
theorem looks_any (W n cap : Nat) (gh : Option Nat) (H : Nat → HG) (w : World) (hn : n ≤ 100000000)
    (hc : w.cell? ⟨W, 1, none⟩ = some (sl gh n cap))
    (hp : ∀ j, j < n → ∃ g, gh = some g ∧ w.cell? ⟨g, j, none⟩ = some (.pointer (some ⟨(H j).p, 0, none⟩)))
    (hh : ∀ j, j < n → HoldIs w (H j)) (hs : ∀ j, j < n → (H j).m ≤ 100000000 ∧ (H j).bn ≤ 100000000 ∧ (H j).ln ≤ 100000000 ∧ (H j).on ≤ 100000000) :
    Calls Tryz.prog 31 #[.pointer (some ⟨W, 0, none⟩)] w fun e w' => e = .returned (.bool true) ∧ Below w.heap.size w w' := by
  have hp' : Hid (∀ j, j < n → ∃ g, gh = some g ∧ w.cell? ⟨g, j, none⟩ = some (.pointer (some ⟨(H j).p, 0, none⟩))) := hp
  have hh' : Hid (∀ j, j < n → HoldIs w (H j)) := hh
  have hs' : Hid (∀ j, j < n → (H j).m ≤ 100000000 ∧ (H j).bn ≤ 100000000 ∧ (H j).ln ≤ 100000000 ∧ (H j).on ≤ 100000000) := hs
  clear hp hh hs
  unfold sl at hc
  go_enter Tryz.func31, Tryz.ntmps31
  go_wp2
  go_loopw [3] (fun i wr => ∃ k : Nat, k ≤ n ∧ i = .int .i64 k ∧ Below w.heap.size w wr) (fun i _ => n - (intOf i).toNat)
  case atStart => exact ⟨0, Nat.zero_le _, rfl, Below.refl _ _⟩
  case round =>
    obtain ⟨k, hk, rfl, hb⟩ := hrel
    have d : wr.cell? ⟨W, 1, none⟩ = _ := (hb.cell (World.block_lt_of_cell? w _ hc)).trans hc
    by_cases hlt : k < n
    · obtain ⟨g, rfl, hg⟩ := hp'.out k hlt
      have dg : wr.cell? ⟨g, k, none⟩ = _ := (hb.cell (World.block_lt_of_cell? w _ hg)).trans hg
      obtain ⟨s1, s2, s3, s4⟩ := hs'.out k hlt
      have hk' : Hid (HoldIs wr (H k)) := (hh'.out k hlt).below (by exact ⟨hb.os, hb.tape, hb.output, hb.size, hb.block⟩)
      go_wp2_with fail
      refine (marked_any (H k) _ hk'.out s1 s2 s3 s4).mono ?_
      rintro e w1 ⟨rfl, hb1⟩
      go_wp2
      go_roundw
      case rel => exact ⟨k + 1, by omega, by go_num, hb.trans (hb1.mono hb.size)⟩
      case measure => simp [intOf]; omega
    · go_wp2
      go_ret
      exact ⟨rfl, hb⟩

end Go.Proofs.YtolififimldmlaaGreat
