import Derived.Test.YtolififimldmlaaGreatBase
set_option linter.unusedVariables false
set_option linter.unusedSimpArgs false
namespace Go.Proofs.YtolififimldmlaaGreat
open Go.RowKit
attribute [local go_sem ↓] Go.wp_at_zero Go.wp_at_succ

/-- A slice value: over the head of a block, or nil. -/
def sl (b : Option Nat) (n c : Nat) : Value := .slice (b.map fun g => ⟨g, 0, none⟩) n c

/-- What a hold in memory is: its block, its three lists, its mark. -/
structure HG where
  p : Nat
  b : Option Nat
  bn : Nat
  bc : Nat
  l : Option Nat
  ln : Nat
  lc : Nat
  o : Option Nat
  on : Nat
  oc : Nat
  q : Nat → Nat
  m : Nat

structure HoldIs (w : World) (h : HG) : Prop where
  c0 : w.cell? ⟨h.p, 0, none⟩ = some (sl h.b h.bn h.bc)
  c1 : w.cell? ⟨h.p, 1, none⟩ = some (sl h.l h.ln h.lc)
  c2 : w.cell? ⟨h.p, 2, none⟩ = some (sl h.o h.on h.oc)
  c3 : w.cell? ⟨h.p, 3, none⟩ = some (.int .i64 h.m)
  bs : ∀ j, j < h.bn → ∃ g, h.b = some g ∧ w.cell? ⟨g, j, none⟩ = some (.int .u8 (sg h.m j))
  ls : ∀ j, j < h.ln → ∃ g, h.l = some g ∧ w.cell? ⟨g, j * 3, none⟩ = some (.int .i64 77) ∧ w.cell? ⟨g, j * 3 + 1, none⟩ = some (.int .i64 h.m) ∧ w.cell? ⟨g, j * 3 + 2, none⟩ = some (.string ⟨#[]⟩)
  os : ∀ j, j < h.on → ∃ g c, h.o = some g ∧ w.cell? ⟨g, j * 3, none⟩ = some (.bool false) ∧ w.cell? ⟨g, j * 3 + 1, none⟩ = some (.int .i64 h.m) ∧ w.cell? ⟨g, j * 3 + 2, none⟩ = some (.slice (some ⟨h.q j, 0, none⟩) 1 c) ∧
    w.cell? ⟨h.q j, 0, none⟩ = some (.int .u8 ((h.m : Int) % 256))

set_option maxRecDepth 100000 in
set_option maxHeartbeats 1000000 in
theorem marked_any (h : HG) (w : World) (hh : HoldIs w h) (hm : h.m ≤ 100000000) (h1 : h.bn ≤ 100000000) (h2 : h.ln ≤ 100000000) (h3 : h.on ≤ 100000000) :
    Calls Tryz.prog 67 #[.pointer (some ⟨h.p, 0, none⟩)] w fun e w' => e = .returned (.bool true) ∧ Below w.heap.size w w' := by
  obtain ⟨p, b, bn, bc, l, ln, lc, o, on, oc, qf, m⟩ := h
  obtain ⟨c0, c1, c2, c3, bs, ls, os⟩ := hh
  dsimp only at *
  have hbs : Hid (∀ j, j < bn → ∃ g, b = some g ∧ w.cell? ⟨g, j, none⟩ = some (.int .u8 (sg m j))) := bs
  have hls : Hid (∀ j, j < ln → ∃ g, l = some g ∧ w.cell? ⟨g, j * 3, none⟩ = some (.int .i64 77) ∧ w.cell? ⟨g, j * 3 + 1, none⟩ = some (.int .i64 m) ∧ w.cell? ⟨g, j * 3 + 2, none⟩ = some (.string ⟨#[]⟩)) := ls
  have hos : Hid (∀ j, j < on → ∃ g c, o = some g ∧ w.cell? ⟨g, j * 3, none⟩ = some (.bool false) ∧ w.cell? ⟨g, j * 3 + 1, none⟩ = some (.int .i64 m) ∧ w.cell? ⟨g, j * 3 + 2, none⟩ = some (.slice (some ⟨qf j, 0, none⟩) 1 c) ∧
    w.cell? ⟨qf j, 0, none⟩ = some (.int .u8 ((m : Int) % 256))) := os
  clear bs ls os
  unfold sl at c0 c1 c2
  go_enter Tryz.func67, Tryz.ntmps67
  go_wp2
  go_loopw [3, 4] (fun ok i wr => ∃ k : Nat, k ≤ bn ∧ i = .int .i64 k ∧ ok = .bool true ∧ Below w.heap.size w wr) (fun _ i _ => bn - (intOf i).toNat)
  case atStart => exact ⟨0, Nat.zero_le _, rfl, rfl, Below.refl _ _⟩
  case round =>
    obtain ⟨k, hk, rfl, rfl, hb⟩ := hrel
    by_cases hlt : k < bn
    · obtain ⟨g, rfl, hg⟩ := hbs.out k hlt
      have d0 : wr.cell? ⟨p, 0, none⟩ = _ := (hb.cell (World.block_lt_of_cell? w _ c0)).trans c0
      have d3 : wr.cell? ⟨p, 3, none⟩ = _ := (hb.cell (World.block_lt_of_cell? w _ c3)).trans c3
      have dg : wr.cell? ⟨g, k, none⟩ = _ := (hb.cell (World.block_lt_of_cell? w _ hg)).trans hg
      go_wp2
      go_quiet ((go_at_call 112; exact Calls.quiet_of_same (sign_any m k _ hm (by omega))))
      go_wp2
      go_roundw
      case rel => exact ⟨k + 1, by omega, by go_num, by simp, below_drewN hb _⟩
      case measure => simp [intOf]; omega
    · have d0 : wr.cell? ⟨p, 0, none⟩ = _ := (hb.cell (World.block_lt_of_cell? w _ c0)).trans c0
      go_wp2

      go_loopw [3, 5] (fun ok i wq => ∃ k2 : Nat, k2 ≤ ln ∧ i = .int .i64 k2 ∧ ok = .bool true ∧ Below w.heap.size w wq) (fun _ i _ => ln - (intOf i).toNat)
      case atStart => exact ⟨0, Nat.zero_le _, rfl, rfl, hb⟩
      case round =>
        clear hb
        obtain ⟨k2, hk2, rfl, rfl, hb⟩ := hrel
        by_cases hlt2 : k2 < ln
        · obtain ⟨g, rfl, hg0, hg1, hg2⟩ := hls.out k2 hlt2
          have d1 : wr.cell? ⟨p, 1, none⟩ = _ := (hb.cell (World.block_lt_of_cell? w _ c1)).trans c1
          have d3 : wr.cell? ⟨p, 3, none⟩ = _ := (hb.cell (World.block_lt_of_cell? w _ c3)).trans c3
          have dg0 : wr.cell? ⟨g, k2 * 3, none⟩ = _ := (hb.cell (World.block_lt_of_cell? w _ hg0)).trans hg0
          have dg1 : wr.cell? ⟨g, k2 * 3 + 1, none⟩ = _ := (hb.cell (World.block_lt_of_cell? w _ hg1)).trans hg1
          have dg2 : wr.cell? ⟨g, k2 * 3 + 2, none⟩ = _ := (hb.cell (World.block_lt_of_cell? w _ hg2)).trans hg2
          go_wp2
          go_quiet (fail)
          go_wp2
          go_roundw
          case rel => exact ⟨k2 + 1, by omega, by go_num, by simp, below_drewN hb _⟩
          case measure => simp [intOf]; omega
        · have d1 : wr.cell? ⟨p, 1, none⟩ = _ := (hb.cell (World.block_lt_of_cell? w _ c1)).trans c1
          go_wp2

          go_loopw [3, 6] (fun ok i wq => ∃ k3 : Nat, k3 ≤ on ∧ i = .int .i64 k3 ∧ ok = .bool true ∧ Below w.heap.size w wq) (fun _ i _ => on - (intOf i).toNat)
          case atStart => exact ⟨0, Nat.zero_le _, rfl, rfl, hb⟩
          case round =>
            clear hb
            obtain ⟨k3, hk3, rfl, rfl, hb⟩ := hrel
            by_cases hlt3 : k3 < on
            · obtain ⟨g, c, rfl, hg0, hg1, hg2, hg3⟩ := hos.out k3 hlt3
              generalize qf k3 = q at hg2 hg3
              have d2 : wr.cell? ⟨p, 2, none⟩ = _ := (hb.cell (World.block_lt_of_cell? w _ c2)).trans c2
              have d3 : wr.cell? ⟨p, 3, none⟩ = _ := (hb.cell (World.block_lt_of_cell? w _ c3)).trans c3
              have dg0 : wr.cell? ⟨g, k3 * 3, none⟩ = _ := (hb.cell (World.block_lt_of_cell? w _ hg0)).trans hg0
              have dg1 : wr.cell? ⟨g, k3 * 3 + 1, none⟩ = _ := (hb.cell (World.block_lt_of_cell? w _ hg1)).trans hg1
              have dg2 : wr.cell? ⟨g, k3 * 3 + 2, none⟩ = _ := (hb.cell (World.block_lt_of_cell? w _ hg2)).trans hg2
              have dq : wr.cell? ⟨q, 0, none⟩ = _ := (hb.cell (World.block_lt_of_cell? w _ hg3)).trans hg3
              have e3 : p < wr.heap.size := World.block_lt_of_cell? wr _ d3
              have eq : q < wr.heap.size := World.block_lt_of_cell? wr _ dq
              have hconv := fun (w' : World) (q c : Nat) (x : Int) (h : w'.cell? ⟨q, 0, none⟩ = some (.int .u8 x)) => conv1 q c x w' h
              go_wp2
              go_region_held (fun w' => w'.cell? ⟨p, 3, none⟩ = some (.int .i64 m) ∧ w'.cell? ⟨q, 0, none⟩ = some (.int .u8 ((m : Int) % 256)) ∧ w'.cell? ⟨wr.heap.size, 0, none⟩ = some (.bool false) ∧ w'.cell? ⟨wr.heap.size, 1, none⟩ = some (.int .i64 m) ∧ w'.cell? ⟨wr.heap.size, 2, none⟩ = some (.slice (some ⟨q, 0, none⟩) 1 c)) (go_keep) (fail)
              go_wp2
              go_roundw
              case rel => exact ⟨k3 + 1, by omega, by go_num, by rw [IntKind.wrap_u8, beq_self_eq_true], ((hb.alloc hb.size _).alloc (by simp; have := hb.size; omega) _).drew⟩
              case measure => simp [intOf]; omega
            · have d2 : wr.cell? ⟨p, 2, none⟩ = _ := (hb.cell (World.block_lt_of_cell? w _ c2)).trans c2
              go_wp2
              go_ret
              exact ⟨rfl, hb⟩

end Go.Proofs.YtolififimldmlaaGreat
