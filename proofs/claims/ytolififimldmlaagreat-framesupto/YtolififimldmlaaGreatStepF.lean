import Derived.Test.YtolififimldmlaaGreatUnpackedW
set_option linter.unusedVariables false
set_option linter.unusedSimpArgs false
namespace Go.Proofs.YtolififimldmlaaGreat
open Go.RowKit
attribute [local go_sem ↓] Go.wp_at_zero Go.wp_at_succ

/-- Stepped, from a world with one box more. -/
theorem Stepped.box {x : World} {W : Nat} {psv : Value} {lead : Bool} {gh : Option Nat} {n m : Nat} {y : World} {o : Obj} (h : Stepped (x.alloc o) W psv lead gh n m y) : Stepped x W psv lead gh n m y := by
  obtain ⟨⟨gh', cap', H', a, b⟩, t⟩ := h
  refine ⟨⟨gh', cap', H', a, fun k e => ?_⟩, ((Touch.refl _ x).alloc o).trans t (fun _ _ e => e)⟩
  rcases b k e with e | e
  · exact .inl e
  · rw [World.size_alloc] at e; exact .inr (by omega)

set_option maxRecDepth 100000 in
set_option maxHeartbeats 1000000 in
theorem stepF (HPS : PackSaid) (HUS : UnpackSaid) (x : World) (W : Nat) (psv : Value) (lead : Bool) (gh : Option Nat) (n cap : Nat) (H : Nat → HG) (hw : WI x W psv lead gh n cap H) (hn : n ≤ 90000000)
    (o : OpG) (hk : o.kind = 1 ∨ o.kind = 2) (hsl : o.s.length ≤ 9000000) (hl : LinesAt x o.fa o.f.lines) (hfl : o.f.lines.length ≤ 10000000) (hfc : o.f.lines.length ≤ o.fc) :
    Calls Tryz.prog 30 #[.pointer (some ⟨W, 0, none⟩), .agg o.cells] x fun e y => e = .returned (.bool true) ∧ Stepped x W psv lead gh n 8 y := by
  have HP := hid (packed_any HPS (x.alloc (.cells o.cells 76)) W psv lead gh n cap H (hw.alloc _) hn o.f o.fa o.fc (hl.alloc _) hfl hfc)
  have HU := hid (unpacked_any HUS (x.alloc (.cells o.cells 76)) W psv lead gh n cap H (hw.alloc _) hn o hsl)
  clear hw hl
  unfold Fr.val at HP
  unfold OpG.cells sla at *
  obtain ⟨okind, on, l, f, fa, fc, c1, c2, c3, oa⟩ := o
  dsimp only at *
  rcases hk with rfl | rfl
  · go_enter Tryz.func30, Tryz.ntmps30
    go_wp2_with fail
    refine HP.out.mono ?_
    rintro e y ⟨rfl, hs⟩
    go_wp2
    go_ret
    exact ⟨rfl, hs.box⟩
  · go_enter Tryz.func30, Tryz.ntmps30
    go_wp2_with fail
    refine HU.out.mono ?_
    rintro e y ⟨rfl, hs⟩
    go_wp2
    go_ret
    exact ⟨rfl, hs.box⟩

end Go.Proofs.YtolififimldmlaaGreat
