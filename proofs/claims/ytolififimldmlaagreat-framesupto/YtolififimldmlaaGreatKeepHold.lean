import Derived.Test.YtolififimldmlaaGreatKeepWalk
set_option linter.unusedVariables false
set_option linter.unusedSimpArgs false
namespace Go.Proofs.YtolififimldmlaaGreat
open Go.RowKit

/-- A block that neither the law's world nor any of its holds reads. -/
def Free (W : Nat) (gh : Option Nat) (n : Nat) (H : Nat → HG) (k : Nat) : Prop := k ≠ W ∧ gh ≠ some k ∧ ∀ j, j < n → ∀ i, ¬ (H j).foot k i

theorem WI.free_new {x : World} {W : Nat} {psv : Value} {lead : Bool} {gh : Option Nat} {n cap : Nat} {H : Nat → HG} (h : WI x W psv lead gh n cap H) {k : Nat} (hk : x.heap.size ≤ k) : Free W gh n H k :=
  ⟨fun e => by have := heap_lt h.wb; omega, fun e => by have := h.ow.lt e; omega, fun j hj i hf => by have := (h.is j hj).foot_lt hf; omega⟩

theorem WI.alloc {x : World} {W : Nat} {psv : Value} {lead : Bool} {gh : Option Nat} {n cap : Nat} {H : Nat → HG} (h : WI x W psv lead gh n cap H) (o : Obj) : WI (x.alloc o) W psv lead gh n cap H :=
  h.below ((Below.refl _ _).alloc (Nat.le_refl _) _)

/-- What one 'keep' of a new hold leaves. -/
structure KeptH (y : World) (W : Nat) (psv : Value) (lead : Bool) (gh : Option Nat) (n : Nat) (H : Nat → HG) (R : Nat → Prop) (z : World) : Prop where
  ex : ∃ gh' cap' H', WI z W psv lead gh' (n + 4) cap' H' ∧ (∀ k, gh' = some k → gh = some k ∨ y.heap.size ≤ k) ∧ (∀ k, k < y.heap.size → Free W gh n H k → ¬ R k → Free W gh' (n + 4) H' k)
  tch : Touch (fun k => k = W ∨ gh = some k ∨ R k) y z

theorem keep_hold (y : World) (W : Nat) (psv : Value) (lead : Bool) (gh : Option Nat) (n cap : Nat) (H : Nat → HG) (hw : WI y W psv lead gh n cap H) (b l o : Option Nat) (bn bc ln lc on oc : Nat)
    (rb : OwnRow y 5 1 b bn bc) (rl : OwnRow y 27 3 l ln lc) (ro : OwnRow y 71 3 o on oc)
    (bl : ∀ g, b = some g → l ≠ some g) (bo : ∀ g, b = some g → o ≠ some g) (lo : ∀ g, l = some g → o ≠ some g)
    (fr : ∀ k, (b = some k ∨ l = some k ∨ o = some k) → Free W gh n H k) (hn : n ≤ 99999990) (hb : bn ≤ 99999990) (hl : ln ≤ 99999990) (ho : on ≤ 99999990) :
    Calls Tryz.prog 58 #[.pointer (some ⟨W, 0, none⟩), .pointer (some ⟨y.heap.size, 0, none⟩)] (y.alloc (.cells #[sl b bn bc, sl l ln lc, sl o on oc, .int .i64 0] 126)) fun e z => e = .returned (.tuple #[]) ∧
      KeptH y W psv lead gh n H (fun k => b = some k ∨ l = some k ∨ o = some k) z := by
  have hlt : ∀ k, (b = some k ∨ l = some k ∨ o = some k) → k < y.heap.size := fun k e => by
    rcases e with e | e | e
    · exact rb.lt e
    · exact rl.lt e
    · exact ro.lt e
  have hc : Cur (y.alloc (.cells #[sl b bn bc, sl l ln lc, sl o on oc, .int .i64 0] 126)) ⟨y.heap.size, b, bn, bc, l, ln, lc, o, on, oc, fun _ => 0, 0⟩ :=
    ⟨heap_alloc_new y _, rb.alloc _, rl.alloc _, ro.alloc _, fun e => by have := hlt _ (.inl e); dsimp only at this; omega, fun e => by have := hlt _ (.inr (.inl e)); dsimp only at this; omega, fun e => by have := hlt _ (.inr (.inr e)); dsimp only at this; omega, bl, bo, lo⟩
  have hWl : W < y.heap.size := heap_lt hw.wb
  refine (keep_any _ W psv lead gh n cap H ⟨y.heap.size, b, bn, bc, l, ln, lc, o, on, oc, fun _ => 0, 0⟩ (hw.alloc _) hc (fun j hj k i hf => ⟨fun e => ?_, fun e => (fr k e).2.2 j hj i hf⟩) (by dsimp only; omega) (fun e => ?_) (fun k e => ⟨(fr k e).1, (fr k e).2.1⟩) hn hb hl ho).mono ?_
  · have := (hw.is j hj).foot_lt hf
    dsimp only at e
    omega
  · have := hw.ow.lt e
    dsimp only at this
    omega
  · rintro e z ⟨rfl, gh', cap', H', K⟩
    have ts := K.tch.size
    rw [World.size_alloc] at ts
    refine ⟨rfl, ⟨gh', cap', H', K.wi, fun k e => ?_, fun k hk hf hr => ?_⟩, ?_⟩
    · rcases K.gha k e with e | e
      · exact .inl e
      · rw [World.size_alloc] at e; exact .inr (by omega)
    · refine ⟨hf.1, fun e => ?_, fun j hj i hft => ?_⟩
      · rcases K.gha k e with e | e
        · exact hf.2.1 e
        · rw [World.size_alloc] at e; omega
      · by_cases hjn : j < n
        · rw [K.old j hjn] at hft; exact hf.2.2 j hjn i hft
        · rcases K.new j (by omega) hj k i hft with e | e | e
          · dsimp only at e; omega
          · exact hr e
          · rw [World.size_alloc] at e; omega
    · refine ((Touch.refl (fun k => k = W ∨ gh = some k ∨ (b = some k ∨ l = some k ∨ o = some k)) y).alloc _).trans K.tch (fun i hi e => ?_)
      rcases e with e | e | e | e
      · exact .inl e
      · exact .inr (.inl e)
      · dsimp only at e; omega
      · exact .inr (.inr e)

end Go.Proofs.YtolififimldmlaaGreat
