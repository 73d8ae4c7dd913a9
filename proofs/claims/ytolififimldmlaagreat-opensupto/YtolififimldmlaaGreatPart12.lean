import Derived.Test.YtolififimldmlaaGreatPart07
set_option linter.unusedVariables false
set_option linter.unusedSimpArgs false
namespace Go.Proofs.YtolififimldmlaaGreat
open Go.RowKit
attribute [local go_sem ↓] Go.wp_at_zero Go.wp_at_succ

/-- The cells that a hold reads. -/
def HG.foot (h : HG) (k i : Nat) : Prop := k = h.p ∨ (h.b = some k ∧ i < h.bn) ∨ (h.l = some k ∧ i < h.ln * 3) ∨ (h.o = some k ∧ i < h.on * 3) ∨ ∃ j, j < h.on ∧ k = h.q j

theorem HoldIs.foot {x y : World} {h : HG} (hh : HoldIs x h) (hk : ∀ k i, h.foot k i → y.cell? ⟨k, i, none⟩ = x.cell? ⟨k, i, none⟩) : HoldIs y h := by
  refine ⟨(hk _ _ (.inl rfl)).trans hh.c0, (hk _ _ (.inl rfl)).trans hh.c1, (hk _ _ (.inl rfl)).trans hh.c2, (hk _ _ (.inl rfl)).trans hh.c3, fun j hj => ?_, fun j hj => ?_, fun j hj => ?_⟩
  · obtain ⟨g, e, a⟩ := hh.bs j hj; exact ⟨g, e, (hk _ _ (.inr (.inl ⟨e, hj⟩))).trans a⟩
  · obtain ⟨g, e, a, b, c⟩ := hh.ls j hj
    exact ⟨g, e, (hk _ _ (.inr (.inr (.inl ⟨e, by omega⟩)))).trans a, (hk _ _ (.inr (.inr (.inl ⟨e, by omega⟩)))).trans b, (hk _ _ (.inr (.inr (.inl ⟨e, by omega⟩)))).trans c⟩
  · obtain ⟨g, cc, e, a, b, c, d⟩ := hh.os j hj
    exact ⟨g, cc, e, (hk _ _ (.inr (.inr (.inr (.inl ⟨e, by omega⟩))))).trans a, (hk _ _ (.inr (.inr (.inr (.inl ⟨e, by omega⟩))))).trans b, (hk _ _ (.inr (.inr (.inr (.inl ⟨e, by omega⟩))))).trans c,
      (hk _ _ (.inr (.inr (.inr (.inr ⟨j, hj, rfl⟩))))).trans d⟩

theorem HoldIs.foot_lt {x : World} {h : HG} (hh : HoldIs x h) {k i : Nat} (hf : h.foot k i) : k < x.heap.size := by
  rcases hf with rfl | ⟨e, hi⟩ | ⟨e, hi⟩ | ⟨e, hi⟩ | ⟨j, hj, rfl⟩
  · exact World.block_lt_of_cell? _ _ hh.c0
  · obtain ⟨g, e', a⟩ := hh.bs i hi
    rw [e] at e'; cases e'; exact World.block_lt_of_cell? _ _ a
  · obtain ⟨g, e', a, _⟩ := hh.ls (i / 3) (by omega)
    rw [e] at e'; cases e'; exact World.block_lt_of_cell? _ _ a
  · obtain ⟨g, _, e', a, _⟩ := hh.os (i / 3) (by omega)
    rw [e] at e'; cases e'; exact World.block_lt_of_cell? _ _ a
  · obtain ⟨g, _, e', _, _, _, a⟩ := hh.os j hj
    exact World.block_lt_of_cell? _ _ a

/-- The law's world in memory: its block, its list of holds, and that each hold reads as it was marked. -/
structure WI (x : World) (W : Nat) (psv : Value) (lead : Bool) (gh : Option Nat) (n cap : Nat) (H : Nat → HG) : Prop where
  wb : x.heap[W]? = some (.cells #[psv, sl gh n cap, .bool lead] 81 (0, 0))
  ow : OwnRow x 124 1 gh n cap
  hw : gh ≠ some W
  ptr : ∀ j, j < n → ∃ g, gh = some g ∧ x.cell? ⟨g, j, none⟩ = some (.pointer (some ⟨(H j).p, 0, none⟩))
  is : ∀ j, j < n → HoldIs x (H j)
  sm : ∀ j, j < n → (H j).m ≤ 100000000 ∧ (H j).bn ≤ 100000000 ∧ (H j).ln ≤ 100000000 ∧ (H j).on ≤ 100000000
  ap : ∀ j, j < n → ∀ k i, (H j).foot k i → k ≠ W ∧ gh ≠ some k

theorem WI.looks {x : World} {W : Nat} {psv : Value} {lead : Bool} {gh : Option Nat} {n cap : Nat} {H : Nat → HG} (h : WI x W psv lead gh n cap H) (hn : n ≤ 100000000) :
    Calls Tryz.prog 31 #[.pointer (some ⟨W, 0, none⟩)] x fun e w' => e = .returned (.bool true) ∧ Below x.heap.size x w' :=
  looks_any W n cap gh H x hn (by rw [cell_of_heap h.wb]; rfl) h.ptr h.is h.sm

/-- All that is the law's own stays if nothing of it is touched. -/
theorem WI.touch {T : Nat → Prop} {x y : World} {W : Nat} {psv : Value} {lead : Bool} {gh : Option Nat} {n cap : Nat} {H : Nat → HG} (h : WI x W psv lead gh n cap H) (ht : Touch T x y)
    (hW : ¬ T W) (hg : ∀ k, gh = some k → ¬ T k) (hf : ∀ j, j < n → ∀ k i, (H j).foot k i → y.cell? ⟨k, i, none⟩ = x.cell? ⟨k, i, none⟩) : WI y W psv lead gh n cap H :=
  ⟨ht.heapAt h.wb hW, h.ow.touch ht hg, h.hw, fun j hj => by obtain ⟨g, e, a⟩ := h.ptr j hj; exact ⟨g, e, ht.cell a (hg g e)⟩, fun j hj => (h.is j hj).foot (hf j hj), h.sm, h.ap⟩

theorem WI.below {x y : World} {W : Nat} {psv : Value} {lead : Bool} {gh : Option Nat} {n cap : Nat} {H : Nat → HG} (h : WI x W psv lead gh n cap H) (hb : Below x.heap.size x y) : WI y W psv lead gh n cap H :=
  h.touch (T := fun _ => False) (Touch.of_belowAll hb _) (fun e => e) (fun _ _ e => e) (fun j hj k i hf => hb.cell ((h.is j hj).foot_lt hf))

/-- One hold more is put behind the others. -/
theorem WI.push {x y z : World} {W : Nat} {psv : Value} {lead : Bool} {gh : Option Nat} {n cap : Nat} {H : Nat → HG} (h : WI x W psv lead gh n cap H) {g : HG} (hc : Cur x g) (hi : HoldIs x g)
    (hs : g.m ≤ 100000000 ∧ g.bn ≤ 100000000 ∧ g.ln ≤ 100000000 ∧ g.on ≤ 100000000) (hf : ∀ k i, g.foot k i → k ≠ W ∧ gh ≠ some k) (hr : ∀ k, g.rows k → k ≠ W ∧ gh ≠ some k)
    {o : Obj} {k4 c4 : Nat} (a : AppPost (x.alloc o) y 124 1 gh n 1 [.pointer (some ⟨g.p, 0, none⟩)] k4 c4) (hz : z = y.setCell ⟨W, 1, none⟩ (.slice (some ⟨k4, 0, none⟩) (n + 1) c4)) :
    WI z W psv lead (some k4) (n + 1) c4 (fun j => if j = n then g else H j) ∧ Cur z g ∧ HoldIs z g ∧ Touch (fun k => k = W ∨ gh = some k) x z ∧ (gh = some k4 ∨ x.heap.size < k4) := by
  have hW : W < x.heap.size := heap_lt h.wb
  have lies : gh = some k4 ∨ x.heap.size < k4 := by
    rcases a.lies with e | e
    · exact .inl e
    · exact .inr (by simp at e; omega)
  have nW : k4 ≠ W := by
    rcases lies with e | e
    · exact fun e' => h.hw (by rw [← e']; exact e)
    · omega
  have t1 : Touch (fun k => k = W ∨ gh = some k) x y := ((Touch.refl _ x).alloc o).trans a.touch (fun _ _ e => .inr e)
  have t2 : Touch (fun k => k = W ∨ gh = some k) x z := by subst hz; exact t1.setCell (p := ⟨W, 1, none⟩) (fun _ => .inl rfl) _
  have wy : y.heap[W]? = _ := ((Touch.refl _ x).alloc o |>.trans a.touch (T := fun k => gh = some k) (fun _ _ e => e)).heapAt h.wb h.hw
  have cell : ∀ k i, k < x.heap.size → k ≠ W → gh ≠ some k → z.cell? ⟨k, i, none⟩ = x.cell? ⟨k, i, none⟩ := fun k i hk n1 n2 => World.cell?_of_block (t2.block k hk (fun e => e.elim n1 n2))
  have keepH : ∀ j, j < n → ∀ k i, (H j).foot k i → z.cell? ⟨k, i, none⟩ = x.cell? ⟨k, i, none⟩ := fun j hj k i hk => cell k i ((h.is j hj).foot_lt hk) (h.ap j hj k i hk).1 (h.ap j hj k i hk).2
  have keepG : ∀ k i, g.foot k i → z.cell? ⟨k, i, none⟩ = x.cell? ⟨k, i, none⟩ := fun k i hk => cell k i (hi.foot_lt hk) (hf k i hk).1 (hf k i hk).2
  have oy : OwnRow z 124 1 (some k4) (n + 1) c4 := by subst hz; exact a.own.setOther W 1 _ (fun e => nW (Option.some.inj e))
  have cz : ∀ i, z.cell? ⟨k4, i, none⟩ = y.cell? ⟨k4, i, none⟩ := fun i => by subst hz; exact cell_set_ne _ (.inl (Ne.symm nW))
  have fl : ∀ k, k < x.heap.size → gh ≠ some k → some k4 ≠ some k := fun k hk n1 e => by
    have e := Option.some.inj e
    subst e
    rcases lies with q | q
    · exact n1 q
    · omega
  refine ⟨⟨?_, oy, fun e => nW (Option.some.inj e), fun j hj => ⟨k4, rfl, ?_⟩, fun j hj => ?_, fun j hj => ?_, fun j hj k i hk => ?_⟩, ?_, hi.foot keepG, t2, lies⟩
  · subst hz; rw [heap_setCell wy]; rfl
  · rw [cz]
    by_cases e : j = n
    · subst e
      have := a.new 0 (by omega)
      simpa using this
    · obtain ⟨g', e', hc'⟩ := h.ptr j (by omega)
      rw [a.old j (by omega) g' e', if_neg e]
      exact (World.cell?_alloc_past _ _ _ (World.block_lt_of_cell? _ _ hc')).trans hc'
  · by_cases e : j = n
    · rw [if_pos e]; exact hi.foot keepG
    · rw [if_neg e]; exact (h.is j (by omega)).foot (keepH j (by omega))
  · by_cases e : j = n
    · rw [if_pos e]; exact hs
    · rw [if_neg e]; exact h.sm j (by omega)
  · by_cases e : j = n
    · rw [if_pos e] at hk
      exact ⟨(hf k i hk).1, fl k (hi.foot_lt hk) (hf k i hk).2⟩
    · rw [if_neg e] at hk
      exact ⟨(h.ap j (by omega) k i hk).1, fl k ((h.is j (by omega)).foot_lt hk) (h.ap j (by omega) k i hk).2⟩
  · have pf := hf g.p 0 (.inl rfl)
    exact hc.touch t2 (fun e => e.elim pf.1 pf.2) (fun k e t => t.elim (hr k (.inl e)).1 (hr k (.inl e)).2) (fun k e t => t.elim (hr k (.inr (.inl e))).1 (hr k (.inr (.inl e))).2) (fun k e t => t.elim (hr k (.inr (.inr e))).1 (hr k (.inr (.inr e))).2)

end Go.Proofs.YtolififimldmlaaGreat
