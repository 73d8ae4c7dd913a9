import Derived.Test.YtolififimldmlaaGreatPart05
set_option linter.unusedVariables false
set_option linter.unusedSimpArgs false
namespace Go.Proofs.YtolififimldmlaaGreat
open Go.RowKit
attribute [local go_sem ↓] Go.wp_at_zero Go.wp_at_succ

/-- The cells that a hold reads. -/
def HG.foot (h : HG) (k i : Nat) : Prop := k = h.p ∨ (h.b = some k ∧ i < h.bn) ∨ (h.l = some k ∧ i < h.ln * 3) ∨ (h.o = some k ∧ i < h.on * 3) ∨ ∃ j, j < h.on ∧ k = h.q j

theorem HoldIs.foot {x y : World} {h : HG} (hh : HoldIs x h) (hk : ∀ k i, h.foot k i → y.cell? ⟨k, i, none⟩ = x.cell? ⟨k, i, none⟩) : HoldIs y h := by
  refine ⟨(hk _ _ (.inl rfl)).trans hh.c0, (hk _ _ (.inl rfl)).trans hh.c1, (hk _ _ (.inl rfl)).trans hh.c2, (hk _ _ (.inl rfl)).trans hh.c3, fun j hj => ?_, fun j hj => ?_, fun j hj => ?_⟩
  · obtain ⟨g, e, a⟩ := hh.bs j hj; exact ⟨g, e, (hk _ _ (.inr (.inl ⟨e, hj⟩))).trans a⟩
  · obtain ⟨g, e, a, b, c⟩ := hh.ls j hj
    exact ⟨g, e, (hk _ _ (.inr (.inr (.inl ⟨e, by omega⟩)))).trans a, (hk _ _ (.inr (.inr (.inl ⟨e, by omega⟩)))).trans b, (hk _ _ (.inr (.inr (.inl ⟨e, by omega⟩)))).trans c⟩
  · obtain ⟨g, cc, e, a, b, c, d⟩ := hh.os j hj
    exact ⟨g, cc, e, (hk _ _ (.inr (.inr (.inr (.inl ⟨e, by omega⟩))))).trans a, (hk _ _ (.inr (.inr (.inr (.inl ⟨e, by omega⟩))))).trans b, (hk _ _ (.inr (.inr (.inr (.inl ⟨e, by omega⟩))))).trans c,
      (hk _ _ (.inr (.inr (.inr (.inr ⟨j, hj, rfl⟩))))).trans d⟩

theorem HoldIs.foot_lt {x : World} {h : HG} (hh : HoldIs x h) {k i : Nat} (hf : h.foot k i) : k < x.heap.size := by
  rcases hf with rfl | ⟨e, hi⟩ | ⟨e, hi⟩ | ⟨e, hi⟩ | ⟨j, hj, rfl⟩
  · exact World.block_lt_of_cell? _ _ hh.c0
  · obtain ⟨g, e', a⟩ := hh.bs i hi
    rw [e] at e'; cases e'; exact World.block_lt_of_cell? _ _ a
  · obtain ⟨g, e', a, _⟩ := hh.ls (i / 3) (by omega)
    rw [e] at e'; cases e'; exact World.block_lt_of_cell? _ _ a
  · obtain ⟨g, _, e', a, _⟩ := hh.os (i / 3) (by omega)
    rw [e] at e'; cases e'; exact World.block_lt_of_cell? _ _ a
  · obtain ⟨g, _, e', _, _, _, a⟩ := hh.os j hj
    exact World.block_lt_of_cell? _ _ a

/-- The law's world in memory: its block, its list of holds, and that each hold reads as it was marked. -/
structure WI (x : World) (W : Nat) (psv : Value) (lead : Bool) (gh : Option Nat) (n cap : Nat) (H : Nat → HG) : Prop where
  wb : x.heap[W]? = some (.cells #[psv, sl gh n cap, .bool lead] 81 (0, 0))
  ow : OwnRow x 124 1 gh n cap
  hw : gh ≠ some W
  ptr : ∀ j, j < n → ∃ g, gh = some g ∧ x.cell? ⟨g, j, none⟩ = some (.pointer (some ⟨(H j).p, 0, none⟩))
  is : ∀ j, j < n → HoldIs x (H j)
  sm : ∀ j, j < n → (H j).m ≤ 100000000 ∧ (H j).bn ≤ 100000000 ∧ (H j).ln ≤ 100000000 ∧ (H j).on ≤ 100000000
  ap : ∀ j, j < n → ∀ k i, (H j).foot k i → k ≠ W ∧ gh ≠ some k

theorem WI.looks {x : World} {W : Nat} {psv : Value} {lead : Bool} {gh : Option Nat} {n cap : Nat} {H : Nat → HG} (h : WI x W psv lead gh n cap H) (hn : n ≤ 100000000) :
    Calls Tryz.prog 31 #[.pointer (some ⟨W, 0, none⟩)] x fun e w' => e = .returned (.bool true) ∧ Below x.heap.size x w' :=
  looks_any W n cap gh H x hn (by rw [cell_of_heap h.wb]; rfl) h.ptr h.is h.sm

/-- All that is the law's own stays if nothing of it is touched. -/
theorem WI.touch {T : Nat → Prop} {x y : World} {W : Nat} {psv : Value} {lead : Bool} {gh : Option Nat} {n cap : Nat} {H : Nat → HG} (h : WI x W psv lead gh n cap H) (ht : Touch T x y)
    (hW : ¬ T W) (hg : ∀ k, gh = some k → ¬ T k) (hf : ∀ j, j < n → ∀ k i, (H j).foot k i → y.cell? ⟨k, i, none⟩ = x.cell? ⟨k, i, none⟩) : WI y W psv lead gh n cap H :=
  ⟨ht.heapAt h.wb hW, h.ow.touch ht hg, h.hw, fun j hj => by obtain ⟨g, e, a⟩ := h.ptr j hj; exact ⟨g, e, ht.cell a (hg g e)⟩, fun j hj => (h.is j hj).foot (hf j hj), h.sm, h.ap⟩

theorem WI.below {x y : World} {W : Nat} {psv : Value} {lead : Bool} {gh : Option Nat} {n cap : Nat} {H : Nat → HG} (h : WI x W psv lead gh n cap H) (hb : Below x.heap.size x y) : WI y W psv lead gh n cap H :=
  h.touch (T := fun _ => False) (Touch.of_belowAll hb _) (fun e => e) (fun _ _ e => e) (fun j hj k i hf => hb.cell ((h.is j hj).foot_lt hf))

/-- One hold more is put behind the others. -/
theorem WI.push {x y z : World} {W : Nat} {psv : Value} {lead : Bool} {gh : Option Nat} {n cap : Nat} {H : Nat → HG} (h : WI x W psv lead gh n cap H) {g : HG} (hc : Cur x g) (hi : HoldIs x g)
    (hs : g.m ≤ 100000000 ∧ g.bn ≤ 100000000 ∧ g.ln ≤ 100000000 ∧ g.on ≤ 100000000) (hf : ∀ k i, g.foot k i → k ≠ W ∧ gh ≠ some k) (hr : ∀ k, g.rows k → k ≠ W ∧ gh ≠ some k)
    {o : Obj} {k4 c4 : Nat} (a : AppPost (x.alloc o) y 124 1 gh n 1 [.pointer (some ⟨g.p, 0, none⟩)] k4 c4) (hz : z = y.setCell ⟨W, 1, none⟩ (.slice (some ⟨k4, 0, none⟩) (n + 1) c4)) :
    WI z W psv lead (some k4) (n + 1) c4 (fun j => if j = n then g else H j) ∧ Cur z g ∧ HoldIs z g ∧ Touch (fun k => k = W ∨ gh = some k) x z ∧ (gh = some k4 ∨ x.heap.size < k4) := by
  have hW : W < x.heap.size := heap_lt h.wb
  have lies : gh = some k4 ∨ x.heap.size < k4 := by
    rcases a.lies with e | e
    · exact .inl e
    · exact .inr (by simp at e; omega)
  have nW : k4 ≠ W := by
    rcases lies with e | e
    · exact fun e' => h.hw (by rw [← e']; exact e)
    · omega
  have t1 : Touch (fun k => k = W ∨ gh = some k) x y := ((Touch.refl _ x).alloc o).trans a.touch (fun _ _ e => .inr e)
  have t2 : Touch (fun k => k = W ∨ gh = some k) x z := by subst hz; exact t1.setCell (p := ⟨W, 1, none⟩) (fun _ => .inl rfl) _
  have wy : y.heap[W]? = _ := ((Touch.refl _ x).alloc o |>.trans a.touch (T := fun k => gh = some k) (fun _ _ e => e)).heapAt h.wb h.hw
  have cell : ∀ k i, k < x.heap.size → k ≠ W → gh ≠ some k → z.cell? ⟨k, i, none⟩ = x.cell? ⟨k, i, none⟩ := fun k i hk n1 n2 => World.cell?_of_block (t2.block k hk (fun e => e.elim n1 n2))
  have keepH : ∀ j, j < n → ∀ k i, (H j).foot k i → z.cell? ⟨k, i, none⟩ = x.cell? ⟨k, i, none⟩ := fun j hj k i hk => cell k i ((h.is j hj).foot_lt hk) (h.ap j hj k i hk).1 (h.ap j hj k i hk).2
  have keepG : ∀ k i, g.foot k i → z.cell? ⟨k, i, none⟩ = x.cell? ⟨k, i, none⟩ := fun k i hk => cell k i (hi.foot_lt hk) (hf k i hk).1 (hf k i hk).2
  have oy : OwnRow z 124 1 (some k4) (n + 1) c4 := by subst hz; exact a.own.setOther W 1 _ (fun e => nW (Option.some.inj e))
  have cz : ∀ i, z.cell? ⟨k4, i, none⟩ = y.cell? ⟨k4, i, none⟩ := fun i => by subst hz; exact cell_set_ne _ (.inl (Ne.symm nW))
  have fl : ∀ k, k < x.heap.size → gh ≠ some k → some k4 ≠ some k := fun k hk n1 e => by
    have e := Option.some.inj e
    subst e
    rcases lies with q | q
    · exact n1 q
    · omega
  refine ⟨⟨?_, oy, fun e => nW (Option.some.inj e), fun j hj => ⟨k4, rfl, ?_⟩, fun j hj => ?_, fun j hj => ?_, fun j hj k i hk => ?_⟩, ?_, hi.foot keepG, t2, lies⟩
  · subst hz; rw [heap_setCell wy]; rfl
  · rw [cz]
    by_cases e : j = n
    · subst e
      have := a.new 0 (by omega)
      simpa using this
    · obtain ⟨g', e', hc'⟩ := h.ptr j (by omega)
      rw [a.old j (by omega) g' e', if_neg e]
      exact (World.cell?_alloc_past _ _ _ (World.block_lt_of_cell? _ _ hc')).trans hc'
  · by_cases e : j = n
    · rw [if_pos e]; exact hi.foot keepG
    · rw [if_neg e]; exact (h.is j (by omega)).foot (keepH j (by omega))
  · by_cases e : j = n
    · rw [if_pos e]; exact hs
    · rw [if_neg e]; exact h.sm j (by omega)
  · by_cases e : j = n
    · rw [if_pos e] at hk
      exact ⟨(hf k i hk).1, fl k (hi.foot_lt hk) (hf k i hk).2⟩
    · rw [if_neg e] at hk
      exact ⟨(h.ap j (by omega) k i hk).1, fl k ((h.is j (by omega)).foot_lt hk) (h.ap j (by omega) k i hk).2⟩
  · have pf := hf g.p 0 (.inl rfl)
    exact hc.touch t2 (fun e => e.elim pf.1 pf.2) (fun k e t => t.elim (hr k (.inl e)).1 (hr k (.inl e)).2) (fun k e t => t.elim (hr k (.inr (.inl e))).1 (hr k (.inr (.inl e))).2) (fun k e t => t.elim (hr k (.inr (.inr e))).1 (hr k (.inr (.inr e))).2)

end Go.Proofs.YtolififimldmlaaGreat

set_option linter.unusedVariables false
set_option linter.unusedSimpArgs false
namespace Go.Proofs.YtolififimldmlaaGreat
open Go.RowKit
attribute [local go_sem ↓] Go.wp_at_zero Go.wp_at_succ

/-- The state of 'keep' behind r rounds. -/
structure KInv (x : World) (W : Nat) (psv : Value) (lead : Bool) (gh : Option Nat) (n : Nat) (H : Nat → HG) (h : HG) (r : Nat) (y : World) (gh' : Option Nat) (cap' : Nat) (H' : Nat → HG) (g : HG) : Prop where
  wi : WI y W psv lead gh' (n + 1 + r) cap' H'
  agree : ∀ j, j < n → H' j = H j
  cur : Cur y g
  is : HoldIs y g
  qok : g.qok
  em : g.m = n + 1
  ebn : g.bn = h.bn + r
  eln : g.ln = h.ln + r
  eon : g.on = h.on + r
  apart : ∀ j, j < n + 1 + r → ∀ k i, (H' j).foot k i → ¬ (g.b = some k ∧ g.bn ≤ i) ∧ ¬ (g.l = some k ∧ g.ln * 3 ≤ i) ∧ ¬ (g.o = some k ∧ g.on * 3 ≤ i)
  gf : ∀ k i, g.foot k i → k ≠ W ∧ gh' ≠ some k
  gr : ∀ k, g.rows k → k ≠ W ∧ gh' ≠ some k
  tch : Touch (fun k => k = W ∨ gh = some k ∨ k = h.p ∨ h.rows k) x y
  gha : ∀ k, gh' = some k → gh = some k ∨ x.heap.size ≤ k
  new : ∀ j, n ≤ j → j < n + 1 + r → ∀ k i, (H' j).foot k i → k = h.p ∨ h.rows k ∨ x.heap.size ≤ k
  grn : ∀ k, g.rows k → h.rows k ∨ x.heap.size ≤ k
  gfn : ∀ k i, g.foot k i → k = h.p ∨ h.rows k ∨ x.heap.size ≤ k

/-- A hold reads nothing of its own spare room. -/
theorem foot_apart {y : World} {g : HG} (hc : Cur y g) (hq : g.qok) (k i : Nat) (hf : g.foot k i) : ¬ (g.b = some k ∧ g.bn ≤ i) ∧ ¬ (g.l = some k ∧ g.ln * 3 ≤ i) ∧ ¬ (g.o = some k ∧ g.on * 3 ≤ i) := by
  rcases hf with rfl | ⟨e, hi⟩ | ⟨e, hi⟩ | ⟨e, hi⟩ | ⟨j, hj, rfl⟩
  · exact ⟨fun h => hc.pb h.1, fun h => hc.pl h.1, fun h => hc.po h.1⟩
  · exact ⟨fun h => by omega, fun h => hc.bl k e h.1, fun h => hc.bo k e h.1⟩
  · exact ⟨fun h => hc.bl k h.1 e, fun h => by omega, fun h => hc.lo k e h.1⟩
  · exact ⟨fun h => hc.bo k h.1 e, fun h => hc.lo k h.1 e, fun h => by omega⟩
  · exact ⟨fun h => hq j hj (.inl h.1), fun h => hq j hj (.inr (.inl h.1)), fun h => hq j hj (.inr (.inr h.1))⟩

theorem Cur.rows_lt {y : World} {g : HG} (hc : Cur y g) {k : Nat} (hr : g.rows k) : k < y.heap.size := by
  rcases hr with e | e | e
  · exact hc.rb.lt e
  · exact hc.rl.lt e
  · exact hc.ro.lt e

section
variable {x : World} {W : Nat} {psv : Value} {lead : Bool} {gh : Option Nat} {n : Nat} {H : Nat → HG} {h : HG} {r : Nat} {y : World} {gh' : Option Nat} {cap' : Nat} {H' : Nat → HG} {g : HG}

theorem Longer.rows {y y2 : World} {g g2 : HG} (L : Longer y g y2 g2) (k : Nat) (hr : g2.rows k) : g.rows k ∨ y.heap.size < k := by
  rcases hr with e | e | e
  · exact (L.lb k e).imp .inl id
  · exact (L.ll k e).imp (fun e => .inr (.inl e)) id
  · exact (L.lo k e).imp (fun e => .inr (.inr e)) id

theorem Longer.foots {y y2 : World} {g g2 : HG} (L : Longer y g y2 g2) (k i : Nat) (hf : g2.foot k i) : g.rows k ∨ y.heap.size ≤ k ∨ g.foot k 0 := by
  rcases hf with rfl | ⟨e, hi⟩ | ⟨e, hi⟩ | ⟨e, hi⟩ | ⟨j, hj, rfl⟩
  · exact .inr (.inl (by rw [L.ep]; omega))
  · rcases L.lb k e with e | e
    · exact .inl (.inl e)
    · exact .inr (.inl (by omega))
  · rcases L.ll k e with e | e
    · exact .inl (.inr (.inl e))
    · exact .inr (.inl (by omega))
  · rcases L.lo k e with e | e
    · exact .inl (.inr (.inr e))
    · exact .inr (.inl (by omega))
  · by_cases e : j = g.on
    · subst e; exact .inr (.inl (by have := L.qn; omega))
    · have hj' : j < g.on := by have := L.eon; omega
      exact .inr (.inr (.inr (.inr (.inr (.inr ⟨j, hj', L.eq j hj'⟩)))))

theorem KInv.longer (K : KInv x W psv lead gh n H h r y gh' cap' H' g) {y2 : World} {g2 : HG} (L : Longer y g y2 g2) : WI y2 W psv lead gh' (n + 1 + r) cap' H' :=
  K.wi.touch L.touch (fun e => (K.gr _ e).1 rfl) (fun k e e' => (K.gr k e').2 e) (fun j hj k i hf => by
    obtain ⟨a, b, c⟩ := K.apart j hj k i hf
    exact L.keep k i ((K.wi.is j hj).foot_lt hf) a b c)

theorem KInv.step (K : KInv x W psv lead gh n H h r y gh' cap' H' g) {y2 y3 y4 : World} {g2 : HG} (L : Longer y g y2 g2) (hs : n + 1 ≤ 100000000 ∧ h.bn + r + 1 ≤ 100000000 ∧ h.ln + r + 1 ≤ 100000000 ∧ h.on + r + 1 ≤ 100000000)
    {o : Obj} {k4 c4 : Nat} (a : AppPost (y2.alloc o) y3 124 1 gh' (n + 1 + r) 1 [.pointer (some ⟨g2.p, 0, none⟩)] k4 c4) (hz : y4 = y3.setCell ⟨W, 1, none⟩ (.slice (some ⟨k4, 0, none⟩) (n + 1 + r + 1) c4)) :
    KInv x W psv lead gh n H h (r + 1) y4 (some k4) c4 (fun j => if j = n + 1 + r then g2 else H' j) g2 := by
  have w2 := K.longer L
  have hWy : W < y.heap.size := heap_lt K.wi.wb
  have hgy : ∀ k, gh' = some k → k < y.heap.size := fun k e => K.wi.ow.lt e
  have gr2 : ∀ k, g2.rows k → k ≠ W ∧ gh' ≠ some k := fun k hr => by
    rcases L.rows k hr with e | e
    · exact K.gr k e
    · exact ⟨by omega, fun e' => by have := hgy k e'; omega⟩
  have gf2 : ∀ k i, g2.foot k i → k ≠ W ∧ gh' ≠ some k := fun k i hf => by
    rcases L.foots k i hf with e | e | e
    · exact K.gr k e
    · exact ⟨by omega, fun e' => by have := hgy k e'; omega⟩
    · exact K.gf k 0 e
  have tsz := L.touch.size
  have xsz := K.tch.size
  obtain ⟨q1, q2, q3, q4, q5⟩ := w2.push L.cur L.is ⟨by rw [L.em, K.em]; exact hs.1, by rw [L.ebn, K.ebn]; omega, by rw [L.eln, K.eln]; omega, by rw [L.eon, K.eon]; omega⟩ gf2 gr2 a hz
  refine ⟨q1, fun j hj => ?_, q2, q3, L.qok, by rw [L.em, K.em], by rw [L.ebn, K.ebn]; omega, by rw [L.eln, K.eln]; omega, by rw [L.eon, K.eon]; omega, fun j hj k i hf => ?_, fun k i hf => ?_, fun k hr => ?_, ?_, fun k e => ?_, fun j h1 h2 k i hf => ?_, fun k hr => ?_, fun k i hf => ?_⟩
  · rw [if_neg (by omega)]; exact K.agree j hj
  · by_cases e : j = n + 1 + r
    · rw [if_pos e] at hf
      exact foot_apart L.cur L.qok k i hf
    · rw [if_neg e] at hf
      have hjl : j < n + 1 + r := by omega
      obtain ⟨a1, a2, a3⟩ := K.apart j hjl k i hf
      have hk := (K.wi.is j hjl).foot_lt hf
      have e1 := L.ebn
      have e2 := L.eln
      have e3 := L.eon
      refine ⟨fun q => ?_, fun q => ?_, fun q => ?_⟩
      · rcases L.lb k q.1 with e | e
        · exact a1 ⟨e, by omega⟩
        · omega
      · rcases L.ll k q.1 with e | e
        · exact a2 ⟨e, by omega⟩
        · omega
      · rcases L.lo k q.1 with e | e
        · exact a3 ⟨e, by omega⟩
        · omega
  · refine ⟨(gf2 k i hf).1, fun e => ?_⟩
    have e := Option.some.inj e
    subst e
    rcases q5 with q | q
    · exact (gf2 _ i hf).2 q
    · have := L.is.foot_lt hf; omega
  · refine ⟨(gr2 k hr).1, fun e => ?_⟩
    have e := Option.some.inj e
    subst e
    rcases q5 with q | q
    · exact (gr2 _ hr).2 q
    · have := L.cur.rows_lt hr; omega
  · refine (K.tch.trans L.touch (fun i hi e => ?_)).trans q4 (fun i hi e => ?_)
    · rcases K.grn i e with e | e
      · exact .inr (.inr (.inr e))
      · omega
    · rcases e with e | e
      · exact .inl e
      · rcases K.gha i e with e | e
        · exact .inr (.inl e)
        · omega
  · have e := Option.some.inj e
    subst e
    rcases q5 with q | q
    · exact K.gha _ q
    · exact .inr (by omega)
  · by_cases e : j = n + 1 + r
    · rw [if_pos e] at hf
      rcases L.foots k i hf with e | e | e
      · exact .inr (K.grn k e)
      · exact .inr (.inr (by omega))
      · exact K.gfn k 0 e
    · rw [if_neg e] at hf
      exact K.new j h1 (by omega) k i hf
  · rcases L.rows k hr with e | e
    · exact K.grn k e
    · exact .inr (by omega)
  · rcases L.foots k i hf with e | e | e
    · exact .inr (K.grn k e)
    · exact .inr (.inr (by omega))
    · exact K.gfn k 0 e
end

theorem WI.marks {x x0 x1 : World} {W : Nat} {psv : Value} {lead : Bool} {gh : Option Nat} {n cap : Nat} {H : Nat → HG} {h : HG} (w : WI x W psv lead gh n cap H)
    (hap : ∀ j, j < n → ∀ k i, (H j).foot k i → k ≠ h.p ∧ ¬ h.rows k) (hpW : h.p ≠ W) (hpg : gh ≠ some h.p) (hr : ∀ k, h.rows k → k ≠ W ∧ gh ≠ some k)
    (t0 : Touch (fun k => k = h.p) x x0) (ex : x0.heap.size = x.heap.size) (t1 : Touch h.rows x0 x1) : WI x1 W psv lead gh n cap H := by
  have cell01 : ∀ k i, k < x.heap.size → k ≠ h.p → ¬ h.rows k → x1.cell? ⟨k, i, none⟩ = x.cell? ⟨k, i, none⟩ := fun k i hk n1 n2 =>
    (World.cell?_of_block (t1.block k (by omega) n2)).trans (World.cell?_of_block (t0.block k hk n1))
  have t01 : Touch (fun k => k = h.p ∨ h.rows k) x x1 := (t0.mono (fun _ _ e => .inl e)).trans t1 (fun _ _ e => .inr e)
  exact w.touch t01 (fun e => e.elim (fun e => hpW e.symm) (fun e => (hr W e).1 rfl)) (fun k e t => t.elim (fun e' => hpg (by rw [← e']; exact e)) (fun e' => (hr k e').2 e))
    (fun j hj k i hf => cell01 k i ((w.is j hj).foot_lt hf) (hap j hj k i hf).1 (hap j hj k i hf).2)

/-- The first hold of a 'keep': behind the marks it stands behind the others. -/
theorem KInv.first {x x0 x1 y3 y4 : World} {W : Nat} {psv : Value} {lead : Bool} {gh : Option Nat} {n cap : Nat} {H : Nat → HG} {h : HG} {q : Nat → Nat} (w : WI x W psv lead gh n cap H)
    (hap : ∀ j, j < n → ∀ k i, (H j).foot k i → k ≠ h.p ∧ ¬ h.rows k) (hpW : h.p ≠ W) (hpg : gh ≠ some h.p) (hr : ∀ k, h.rows k → k ≠ W ∧ gh ≠ some k)
    (c0 : Cur x0 { h with m := n + 1 }) (t0 : Touch (fun k => k = h.p) x x0) (ex : x0.heap.size = x.heap.size)
    (c1 : Cur x1 { h with m := n + 1, q := q }) (i1 : HoldIs x1 { h with m := n + 1, q := q }) (hq : ∀ j, j < h.on → x0.heap.size ≤ q j) (t1 : Touch h.rows x0 x1)
    (hs : n + 1 ≤ 100000000 ∧ h.bn ≤ 100000000 ∧ h.ln ≤ 100000000 ∧ h.on ≤ 100000000)
    {o : Obj} {k4 c4 : Nat} (a : AppPost (x1.alloc o) y3 124 1 gh n 1 [.pointer (some ⟨h.p, 0, none⟩)] k4 c4) (hz : y4 = y3.setCell ⟨W, 1, none⟩ (.slice (some ⟨k4, 0, none⟩) (n + 1) c4)) :
    KInv x W psv lead gh n H h 0 y4 (some k4) c4 (fun j => if j = n then { h with m := n + 1, q := q } else H j) { h with m := n + 1, q := q } := by
  have cell01 : ∀ k i, k < x.heap.size → k ≠ h.p → ¬ h.rows k → x1.cell? ⟨k, i, none⟩ = x.cell? ⟨k, i, none⟩ := fun k i hk n1 n2 =>
    (World.cell?_of_block (t1.block k (by omega) n2)).trans (World.cell?_of_block (t0.block k hk n1))
  have t01 : Touch (fun k => k = h.p ∨ h.rows k) x x1 := (t0.mono (fun _ _ e => .inl e)).trans t1 (fun _ _ e => .inr e)
  have w1 : WI x1 W psv lead gh n cap H := w.touch t01 (fun e => e.elim (fun e => hpW e.symm) (fun e => (hr W e).1 rfl)) (fun k e t => t.elim (fun e' => hpg (by rw [← e']; exact e)) (fun e' => (hr k e').2 e))
    (fun j hj k i hf => cell01 k i ((w.is j hj).foot_lt hf) (hap j hj k i hf).1 (hap j hj k i hf).2)
  have hqn : ∀ j, j < h.on → x.heap.size ≤ q j := fun j hj => by have := hq j hj; omega
  have rl : ∀ k, h.rows k → k < x.heap.size := fun k e => by have := Cur.rows_lt (g := { h with m := n + 1 }) c0 (k := k) e; omega
  have hWx : W < x.heap.size := heap_lt w.wb
  have hgx : ∀ k, gh = some k → k < x.heap.size := fun k e => w.ow.lt e
  have gf : ∀ k i, HG.foot { h with m := n + 1, q := q } k i → k ≠ W ∧ gh ≠ some k := fun k i hf => by
    rcases hf with e | ⟨e, _⟩ | ⟨e, _⟩ | ⟨e, _⟩ | ⟨j, hj, e⟩
    · dsimp only at e; rw [e]; exact ⟨hpW, hpg⟩
    · exact hr k (.inl e)
    · exact hr k (.inr (.inl e))
    · exact hr k (.inr (.inr e))
    · dsimp only at e hj; have := hqn j hj; exact ⟨by omega, fun e' => by have := hgx k e'; omega⟩
  have qok : HG.qok { h with m := n + 1, q := q } := fun j hj hrw => by
    have h1 := rl _ hrw
    have := hqn j hj
    dsimp only at h1
    omega
  obtain ⟨q1, q2, q3, q4, q5⟩ := w1.push c1 i1 hs gf hr a hz
  have s1 := t01.size
  refine ⟨q1, fun j hj => by rw [if_neg (by omega)], q2, q3, qok, rfl, rfl, rfl, rfl, fun j hj k i hf => ?_, fun k i hf => ?_, fun k hrw => ?_, ?_, fun k e => ?_, fun j h1 h2 k i hf => ?_, fun k e => .inl e, fun k i hf => ?_⟩
  · by_cases e : j = n
    · rw [if_pos e] at hf
      exact foot_apart c1 qok k i hf
    · rw [if_neg e] at hf
      have := (hap j (by omega) k i hf).2
      exact ⟨fun q => this (.inl q.1), fun q => this (.inr (.inl q.1)), fun q => this (.inr (.inr q.1))⟩
  · refine ⟨(gf k i hf).1, fun e => ?_⟩
    have e := Option.some.inj e
    subst e
    rcases q5 with q | q
    · exact (gf _ i hf).2 q
    · have := i1.foot_lt hf; omega
  · refine ⟨(hr k hrw).1, fun e => ?_⟩
    have e := Option.some.inj e
    subst e
    rcases q5 with q | q
    · exact (hr _ hrw).2 q
    · have := rl _ hrw; omega
  · exact (t01.mono (fun _ _ e => e.elim (fun e => .inr (.inr (.inl e))) (fun e => .inr (.inr (.inr e))))).trans q4 (fun _ _ e => e.elim .inl (fun e => .inr (.inl e)))
  · have e := Option.some.inj e
    subst e
    rcases q5 with q | q
    · exact .inl q
    · exact .inr (by omega)
  · have e : j = n := by omega
    rw [if_pos e] at hf
    rcases hf with e | ⟨e, _⟩ | ⟨e, _⟩ | ⟨e, _⟩ | ⟨j, hj, e⟩
    · exact .inl e
    · exact .inr (.inl (.inl e))
    · exact .inr (.inl (.inr (.inl e)))
    · exact .inr (.inl (.inr (.inr e)))
    · dsimp only at e hj; have := hqn j hj; exact .inr (.inr (by omega))
  · rcases hf with e | ⟨e, _⟩ | ⟨e, _⟩ | ⟨e, _⟩ | ⟨j, hj, e⟩
    · exact .inl e
    · exact .inr (.inl (.inl e))
    · exact .inr (.inl (.inr (.inl e)))
    · exact .inr (.inl (.inr (.inr e)))
    · dsimp only at e hj; have := hqn j hj; exact .inr (.inr (by omega))

end Go.Proofs.YtolififimldmlaaGreat

set_option linter.unusedVariables false
set_option linter.unusedSimpArgs false
namespace Go.Proofs.YtolififimldmlaaGreat
open Go.RowKit
attribute [local go_sem ↓] Go.wp_at_zero Go.wp_at_succ

theorem Cur.setMark {x : World} {h : HG} (hc : Cur x h) (m : Nat) : Cur (x.setCell ⟨h.p, 3, none⟩ (.int .i64 m)) { h with m := m } := by
  have t : Touch (fun k => k = h.p) x (x.setCell ⟨h.p, 3, none⟩ (.int .i64 m)) := (Touch.refl (fun k => k = h.p) x).setCell (p := ⟨h.p, 3, none⟩) (fun _ => rfl) _
  refine ⟨?_, hc.rb.touch t (fun g e e' => hc.pb (by rw [← e']; exact e)), hc.rl.touch t (fun g e e' => hc.pl (by rw [← e']; exact e)), hc.ro.touch t (fun g e e' => hc.po (by rw [← e']; exact e)), hc.pb, hc.pl, hc.po, hc.bl, hc.bo, hc.lo⟩
  rw [heap_setCell hc.hp]; rfl

/-- What 'keep' leaves. -/
structure Kept (x : World) (W : Nat) (psv : Value) (lead : Bool) (gh : Option Nat) (n : Nat) (H : Nat → HG) (h : HG) (y : World) (gh' : Option Nat) (cap' : Nat) (H' : Nat → HG) : Prop where
  wi : WI y W psv lead gh' (n + 4) cap' H'
  tch : Touch (fun k => k = W ∨ gh = some k ∨ k = h.p ∨ h.rows k) x y
  gha : ∀ k, gh' = some k → gh = some k ∨ x.heap.size ≤ k
  old : ∀ j, j < n → H' j = H j
  new : ∀ j, n ≤ j → j < n + 4 → ∀ k i, (H' j).foot k i → k = h.p ∨ h.rows k ∨ x.heap.size ≤ k

set_option maxRecDepth 100000 in
set_option maxHeartbeats 1000000 in
theorem keep_any (x : World) (W : Nat) (psv : Value) (lead : Bool) (gh : Option Nat) (n cap : Nat) (H : Nat → HG) (h : HG) (hw : WI x W psv lead gh n cap H) (hc : Cur x h)
    (hap : ∀ j, j < n → ∀ k i, (H j).foot k i → k ≠ h.p ∧ ¬ h.rows k) (hpW : h.p ≠ W) (hpg : gh ≠ some h.p) (hr : ∀ k, h.rows k → k ≠ W ∧ gh ≠ some k)
    (hn : n ≤ 99999990) (hb : h.bn ≤ 99999990) (hl : h.ln ≤ 99999990) (ho : h.on ≤ 99999990) :
    Calls Tryz.prog 58 #[.pointer (some ⟨W, 0, none⟩), .pointer (some ⟨h.p, 0, none⟩)] x fun e y => e = .returned (.tuple #[]) ∧ ∃ gh' cap' H', Kept x W psv lead gh n H h y gh' cap' H' := by
  have HWI := hid hw
  have HC := hid hc
  have HAP := hid hap
  have HPG := hid hpg
  have HR := hid hr
  have HPW := hid hpW
  have t0 : Hid (Touch (fun k => k = h.p) x (x.setCell ⟨h.p, 3, none⟩ (.int .i64 ((n + 1 : Nat) : Int)))) := (Touch.refl (fun k => k = h.p) x).setCell (p := ⟨h.p, 3, none⟩) (fun _ => rfl) _
  have C0 := hid (hc.setMark (n + 1))
  have a1 : x.cell? ⟨W, 1, none⟩ = _ := cell_of_heap hw.wb 1
  have a3 : x.cell? ⟨h.p, 3, none⟩ = _ := cell_of_heap hc.hp 3
  have f3 : x.frozen? ⟨h.p, 3, none⟩ = false := frozen_of_heap hc.hp 3
  simp only [List.getElem?_toArray, List.getElem?_cons_zero, List.getElem?_cons_succ] at a1 a3
  unfold sl at a1
  clear hw hc hap hpg hr hpW
  have e1 : ((n : Int) + 1) = ((n + 1 : Nat) : Int) := by omega
  have HE1 := hid e1
  clear e1
  obtain ⟨ip, hip, hip0, hip1, hip2⟩ := info_parts Tryz.info124
  go_enter Tryz.func58, Tryz.ntmps58
  go_wp2_with fail
  rw [HE1.out]
  refine (marks_any { h with m := n + 1 } _ C0.out (by dsimp only; omega) (by dsimp only; omega) (by dsimp only; omega) (by dsimp only; omega)).mono ?_
  rintro e x1 ⟨rfl, q, c1, i1, hq, t1⟩
  have HC1 := hid c1
  have HI1 := hid i1
  have HQ := hid hq
  have T1 : Hid (Touch h.rows _ x1) := t1
  clear c1 i1 hq t1
  have W1 := hid (HWI.out.marks (h := h) HAP.out HPW.out HPG.out HR.out t0.out (by simp [World.setCell]) T1.out)
  clear a1 a3 f3
  have a1 : x1.cell? ⟨W, 1, none⟩ = _ := cell_of_heap W1.out.wb 1
  simp only [List.getElem?_toArray, List.getElem?_cons_zero, List.getElem?_cons_succ] at a1
  unfold sl at a1
  have ow1 : Hid (OwnRow (x1.alloc (.cells #[.pointer (some ⟨h.p, 0, none⟩)] 124)) 124 1 gh n cap) := W1.out.ow.alloc _
  go_wp2_with (at_builtin; refine wpList_app _ rfl (.tmp 21) (.tmp 23) 79 rfl 124 ip (.pointer none) 1 8 Tryz.underlying79 hip hip0 hip1 hip2 rfl gh n cap (by rfl) ow1.out ⟨x1.heap.size, 0, none⟩ 1 1 [.pointer (some ⟨h.p, 0, none⟩)] rfl rfl ?c1 ?c2 (by omega) (by omega) (by omega) ?_)
  case c1 =>
    intro j u hj
    match j, hj with
    | 0, hj => simp at hj; subst hj; simp [Addr.add]
  case c2 => intro u hu; simp at hu; subst hu; rfl
  intro k4 c4 y3 P
  have K0 := hid (KInv.first HWI.out HAP.out HPW.out HPG.out HR.out C0.out t0.out (by simp [World.setCell]) HC1.out HI1.out HQ.out T1.out ⟨by omega, by omega, by omega, by omega⟩ P rfl)
  have hWy : y3.heap[W]? = _ := P.touch.heapAt (o := .cells #[psv, sl gh n cap, .bool lead] 81 (0, 0)) (by rw [Below.heap_alloc _ _ _ (heap_lt W1.out.wb)]; exact W1.out.wb) W1.out.hw
  have b1 : y3.cell? ⟨W, 1, none⟩ = _ := cell_of_heap hWy 1
  have f1 : y3.frozen? ⟨W, 1, none⟩ = false := frozen_of_heap hWy 1
  simp only [List.getElem?_toArray, List.getElem?_cons_zero, List.getElem?_cons_succ] at b1
  clear hWy P
  go_wp2
  clear b1 f1 a1
  generalize y3.setCell ⟨W, 1, none⟩ (.slice (some ⟨k4, 0, none⟩) (n + 1) c4) = y4 at K0 ⊢
  go_loopw [4, 5] (fun v i yr => ∃ (r : Nat) (gh' : Option Nat) (cap' : Nat) (H' : Nat → HG) (g : HG), r ≤ 3 ∧ i = .int .i64 r ∧ v = .pointer (some ⟨g.p, 0, none⟩) ∧ KInv x W psv lead gh n H h r yr gh' cap' H' g) (fun _ i _ => 3 - (intOf i).toNat)
  case atStart => exact ⟨0, _, _, _, { h with m := n + 1, q := q }, by omega, rfl, rfl, K0.out⟩
  case round =>
    obtain ⟨r, gh', cap', H', g, hr3, rfl, rfl, K⟩ := hrel
    have HK := hid K
    by_cases hlt : r < 3
    · clear K
      have em := HK.out.em
      have ebn := HK.out.ebn
      have eln := HK.out.eln
      have eon := HK.out.eon
      have hm1 : g.m ≤ 100000000 := by omega
      have hm2 : g.bn ≤ 100000000 := by omega
      have hm3 : g.ln ≤ 100000000 := by omega
      have hm4 : g.on ≤ 100000000 := by omega
      clear em ebn eln eon
      go_wp2_with fail
      refine (longer_any g _ HK.out.cur HK.out.is HK.out.qok hm1 hm2 hm3 hm4).mono ?_
      rintro e y2 ⟨g2, rfl, L⟩
      have HL := hid L
      clear L
      have W2 := hid (HK.out.longer HL.out)
      have a1 : y2.cell? ⟨W, 1, none⟩ = _ := cell_of_heap W2.out.wb 1
      simp only [List.getElem?_toArray, List.getElem?_cons_zero, List.getElem?_cons_succ] at a1
      unfold sl at a1
      have ow2 : Hid (OwnRow (y2.alloc (.cells #[.pointer (some ⟨g2.p, 0, none⟩)] 124)) 124 1 gh' (n + 1 + r) cap') := W2.out.ow.alloc _
      go_wp2_with (at_builtin; refine wpList_app _ rfl (.tmp 38) (.tmp 40) 79 rfl 124 ip (.pointer none) 1 8 Tryz.underlying79 hip hip0 hip1 hip2 rfl gh' (n + 1 + r) cap' (by rfl) ow2.out ⟨y2.heap.size, 0, none⟩ 1 1 [.pointer (some ⟨g2.p, 0, none⟩)] rfl rfl ?d1 ?d2 (by omega) (by omega) (by omega) ?_)
      case d1 =>
        intro j u hj
        match j, hj with
        | 0, hj => simp at hj; subst hj; simp [Addr.add]
      case d2 => intro u hu; simp at hu; subst hu; rfl
      intro k5 c5 y5 P
      have K1 := hid (HK.out.step HL.out ⟨by omega, by omega, by omega, by omega⟩ P rfl)
      have hWy : y5.heap[W]? = _ := P.touch.heapAt (o := .cells #[psv, sl gh' (n + 1 + r) cap', .bool lead] 81 (0, 0)) (by rw [Below.heap_alloc _ _ _ (heap_lt W2.out.wb)]; exact W2.out.wb) W2.out.hw
      have b1 : y5.cell? ⟨W, 1, none⟩ = _ := cell_of_heap hWy 1
      have f1 : y5.frozen? ⟨W, 1, none⟩ = false := frozen_of_heap hWy 1
      simp only [List.getElem?_toArray, List.getElem?_cons_zero, List.getElem?_cons_succ] at b1
      clear hWy P
      go_wp2
      go_roundw
      case rel => exact ⟨r + 1, _, _, _, g2, by omega, by go_num, rfl, K1.out⟩
      case measure => simp [intOf]; omega
    · have e3 : r = 3 := by omega
      subst e3
      go_wp2
      go_end0
      exact ⟨rfl, gh', cap', H', K.wi, K.tch, K.gha, K.agree, K.new⟩

end Go.Proofs.YtolififimldmlaaGreat
