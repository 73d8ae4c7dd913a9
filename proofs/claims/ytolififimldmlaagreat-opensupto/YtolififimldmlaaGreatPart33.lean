import Derived.Test.YtolififimldmlaaGreatPart32
set_option linter.unusedVariables false
set_option linter.unusedSimpArgs false
namespace Go.Proofs.YtolififimldmlaaGreat
open Go.RowKit
attribute [local go_sem ↓] Go.wp_at_zero Go.wp_at_succ

/-- A player, as the script has made it: its block, all blocks of both keepers, what they are. -/
structure PG where
  p : Nat
  N : Nat → Prop
  s : LK

/-- All players lie there, and nothing of them is read or written by the law's own lists. -/
structure PS (KIs : KeeperIs) (Iv : LK → Prop) (x : World) (W : Nat) (gh : Option Nat) (n : Nat) (H : Nat → HG) (gp : Option Nat) (np cp : Nat) (P : Nat → PG) : Prop where
  own : OwnRow x 118 1 gp np cp
  ptr : ∀ j, j < np → ∃ g, gp = some g ∧ x.cell? ⟨g, j, none⟩ = some (.pointer (some ⟨(P j).p, 0, none⟩))
  pl : ∀ j, j < np → Player KIs x (P j).p (P j).N (P j).s
  lt : ∀ j, j < np → ∀ k, (P j).N k → k < x.heap.size
  fr : ∀ j, j < np → ∀ k, (P j).N k → Free W gh n H k ∧ gp ≠ some k
  frg : ∀ k, gp = some k → Free W gh n H k
  iv : ∀ j, j < np → Iv (P j).s

theorem PS.stays {KIs : KeeperIs} {Iv : LK → Prop} (HKS : KeepsSaid KIs) {x y : World} {W : Nat} {gh gh' : Option Nat} {n n' : Nat} {H H' : Nat → HG} {gp : Option Nat} {np cp : Nat} {P : Nat → PG} (h : PS KIs Iv x W gh n H gp np cp P)
    (ht : Touch (fun k => k = W ∨ gh = some k) x y) (hf : ∀ k, k < x.heap.size → Free W gh n H k → Free W gh' n' H' k) : PS KIs Iv y W gh' n' H' gp np cp P := by
  have no : ∀ k, Free W gh n H k → ¬ (k = W ∨ gh = some k) := fun k f t => by
    rcases t with t | t
    · exact f.1 t
    · exact f.2.1 t
  refine ⟨h.own.touch ht (fun k e => no k (h.frg k e)), fun j hj => ?_, fun j hj => (h.pl j hj).touch HKS ht (fun k hk => no k (h.fr j hj k hk).1), fun j hj k hk => Nat.lt_of_lt_of_le (h.lt j hj k hk) ht.size, fun j hj k hk => ⟨hf k (h.lt j hj k hk) (h.fr j hj k hk).1, (h.fr j hj k hk).2⟩, fun k e => hf k (h.own.lt e) (h.frg k e), h.iv⟩
  obtain ⟨g, e, c⟩ := h.ptr j hj
  exact ⟨g, e, ht.cell c (no g (h.frg g e))⟩

theorem PS.below {KIs : KeeperIs} {Iv : LK → Prop} (HKS : KeepsSaid KIs) {x y : World} {W : Nat} {gh : Option Nat} {n : Nat} {H : Nat → HG} {gp : Option Nat} {np cp : Nat} {P : Nat → PG} (h : PS KIs Iv x W gh n H gp np cp P) (hb : Below x.heap.size x y) : PS KIs Iv y W gh n H gp np cp P :=
  h.stays HKS (Touch.of_belowAll hb _) (fun _ _ f => f)

/-- The list of players in the law's world is another one. -/
theorem WI.setPs {x : World} {W : Nat} {psv : Value} {lead : Bool} {gh : Option Nat} {n cap : Nat} {H : Nat → HG} (h : WI x W psv lead gh n cap H) (v : Value) : WI (x.setCell ⟨W, 0, none⟩ v) W v lead gh n cap H := by
  have t : Touch (fun k => k = W) x (x.setCell ⟨W, 0, none⟩ v) := (Touch.refl (fun k => k = W) x).setCell (p := ⟨W, 0, none⟩) (fun _ => rfl) v
  have hwb := heap_setCell h.wb 0 v
  simp only [List.setIfInBounds_toArray, List.set_cons_zero] at hwb
  refine ⟨hwb, h.ow.touch t (fun k e e2 => h.hw (by rw [← e2]; exact e)), h.hw, fun j hj => ?_, fun j hj => (h.is j hj).foot (fun k i hf => ?_), h.sm, h.ap⟩
  · obtain ⟨g, e, c⟩ := h.ptr j hj
    exact ⟨g, e, t.cell c (fun e2 => h.hw (by rw [← e2]; exact e))⟩
  · exact World.cell?_of_block (t.block k ((h.is j hj).foot_lt hf) (fun e => (h.ap j hj k i hf).1 e))

/-- Which of n things a raw number speaks of. -/
def pickN (c : Int) (n : Nat) : Nat := ((if c < 0 then -(c + 1) else c) % (n : Int)).toNat
theorem pickN_lt (c : Int) {n : Nat} (h : 0 < n) : pickN c n < n := by
  unfold pickN
  have := Int.emod_lt_of_pos (if c < 0 then -(c + 1) else c) (show (0 : Int) < (n : Int) by omega)
  have := Int.emod_nonneg (if c < 0 then -(c + 1) else c) (show (n : Int) ≠ 0 by omega)
  omega

set_option maxHeartbeats 1000000 in
theorem pick_any (c : Int) (n : Nat) (w : World) (h0 : 0 < n) (hn : n ≤ 100) (hc : -9223372036854775808 ≤ c ∧ c ≤ 9223372036854775807) :
    Calls Tryz.prog 54 #[.int .i64 c, .int .i64 n] w fun e w' => e = .returned (.int .i64 (pickN c n)) ∧ w' = w := by
  obtain ⟨hc1, hc2⟩ := hc
  have hnz : ((n : Int) == 0) = false := beq_eq_false_iff_ne.2 (by omega)
  have hnz2 : ¬ (n : Int) = 0 := by omega
  by_cases hneg : c < 0
  · have w1 : IntKind.i64.wrap (c + 1) = c + 1 := by rw [IntWalk.i64_left, IntWalk.wrap64_in _ (by omega)]
    have w2 : IntKind.i64.wrap (-(c + 1)) = -(c + 1) := by rw [IntWalk.i64_left, IntWalk.wrap64_in _ (by omega)]
    go_enter Tryz.func54, Tryz.ntmps54
    go_wp2
    go_ret
    refine ⟨ret_int ?_, rfl⟩
    unfold pickN
    rw [if_pos hneg, ← Int.neg_tmod, Int.tmod_eq_emod_of_nonneg (by omega), Int.toNat_of_nonneg (Int.emod_nonneg _ hnz2)]
  · go_enter Tryz.func54, Tryz.ntmps54
    go_wp2
    go_ret
    refine ⟨ret_int ?_, rfl⟩
    unfold pickN
    rw [if_neg (by omega), Int.toNat_of_nonneg (Int.emod_nonneg _ hnz2)]

end Go.Proofs.YtolififimldmlaaGreat
