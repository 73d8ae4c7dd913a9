import Derived.Test.YtolififimldmlaaGreatPart12
set_option linter.unusedVariables false
set_option linter.unusedSimpArgs false
namespace Go.Proofs.YtolififimldmlaaGreat
open Go.RowKit
attribute [local go_sem ↓] Go.wp_at_zero Go.wp_at_succ

/-- The state of 'keep' behind r rounds. -/
structure KInv (x : World) (W : Nat) (psv : Value) (lead : Bool) (gh : Option Nat) (n : Nat) (H : Nat → HG) (h : HG) (r : Nat) (y : World) (gh' : Option Nat) (cap' : Nat) (H' : Nat → HG) (g : HG) : Prop where
  wi : WI y W psv lead gh' (n + 1 + r) cap' H'
  agree : ∀ j, j < n → H' j = H j
  cur : Cur y g
  is : HoldIs y g
  qok : g.qok
  em : g.m = n + 1
  ebn : g.bn = h.bn + r
  eln : g.ln = h.ln + r
  eon : g.on = h.on + r
  apart : ∀ j, j < n + 1 + r → ∀ k i, (H' j).foot k i → ¬ (g.b = some k ∧ g.bn ≤ i) ∧ ¬ (g.l = some k ∧ g.ln * 3 ≤ i) ∧ ¬ (g.o = some k ∧ g.on * 3 ≤ i)
  gf : ∀ k i, g.foot k i → k ≠ W ∧ gh' ≠ some k
  gr : ∀ k, g.rows k → k ≠ W ∧ gh' ≠ some k
  tch : Touch (fun k => k = W ∨ gh = some k ∨ k = h.p ∨ h.rows k) x y
  gha : ∀ k, gh' = some k → gh = some k ∨ x.heap.size ≤ k
  new : ∀ j, n ≤ j → j < n + 1 + r → ∀ k i, (H' j).foot k i → k = h.p ∨ h.rows k ∨ x.heap.size ≤ k
  grn : ∀ k, g.rows k → h.rows k ∨ x.heap.size ≤ k
  gfn : ∀ k i, g.foot k i → k = h.p ∨ h.rows k ∨ x.heap.size ≤ k

/-- A hold reads nothing of its own spare room. -/
theorem foot_apart {y : World} {g : HG} (hc : Cur y g) (hq : g.qok) (k i : Nat) (hf : g.foot k i) : ¬ (g.b = some k ∧ g.bn ≤ i) ∧ ¬ (g.l = some k ∧ g.ln * 3 ≤ i) ∧ ¬ (g.o = some k ∧ g.on * 3 ≤ i) := by
  rcases hf with rfl | ⟨e, hi⟩ | ⟨e, hi⟩ | ⟨e, hi⟩ | ⟨j, hj, rfl⟩
  · exact ⟨fun h => hc.pb h.1, fun h => hc.pl h.1, fun h => hc.po h.1⟩
  · exact ⟨fun h => by omega, fun h => hc.bl k e h.1, fun h => hc.bo k e h.1⟩
  · exact ⟨fun h => hc.bl k h.1 e, fun h => by omega, fun h => hc.lo k e h.1⟩
  · exact ⟨fun h => hc.bo k h.1 e, fun h => hc.lo k h.1 e, fun h => by omega⟩
  · exact ⟨fun h => hq j hj (.inl h.1), fun h => hq j hj (.inr (.inl h.1)), fun h => hq j hj (.inr (.inr h.1))⟩

theorem Cur.rows_lt {y : World} {g : HG} (hc : Cur y g) {k : Nat} (hr : g.rows k) : k < y.heap.size := by
  rcases hr with e | e | e
  · exact hc.rb.lt e
  · exact hc.rl.lt e
  · exact hc.ro.lt e

section
variable {x : World} {W : Nat} {psv : Value} {lead : Bool} {gh : Option Nat} {n : Nat} {H : Nat → HG} {h : HG} {r : Nat} {y : World} {gh' : Option Nat} {cap' : Nat} {H' : Nat → HG} {g : HG}

theorem Longer.rows {y y2 : World} {g g2 : HG} (L : Longer y g y2 g2) (k : Nat) (hr : g2.rows k) : g.rows k ∨ y.heap.size < k := by
  rcases hr with e | e | e
  · exact (L.lb k e).imp .inl id
  · exact (L.ll k e).imp (fun e => .inr (.inl e)) id
  · exact (L.lo k e).imp (fun e => .inr (.inr e)) id

theorem Longer.foots {y y2 : World} {g g2 : HG} (L : Longer y g y2 g2) (k i : Nat) (hf : g2.foot k i) : g.rows k ∨ y.heap.size ≤ k ∨ g.foot k 0 := by
  rcases hf with rfl | ⟨e, hi⟩ | ⟨e, hi⟩ | ⟨e, hi⟩ | ⟨j, hj, rfl⟩
  · exact .inr (.inl (by rw [L.ep]; omega))
  · rcases L.lb k e with e | e
    · exact .inl (.inl e)
    · exact .inr (.inl (by omega))
  · rcases L.ll k e with e | e
    · exact .inl (.inr (.inl e))
    · exact .inr (.inl (by omega))
  · rcases L.lo k e with e | e
    · exact .inl (.inr (.inr e))
    · exact .inr (.inl (by omega))
  · by_cases e : j = g.on
    · subst e; exact .inr (.inl (by have := L.qn; omega))
    · have hj' : j < g.on := by have := L.eon; omega
      exact .inr (.inr (.inr (.inr (.inr (.inr ⟨j, hj', L.eq j hj'⟩)))))

theorem KInv.longer (K : KInv x W psv lead gh n H h r y gh' cap' H' g) {y2 : World} {g2 : HG} (L : Longer y g y2 g2) : WI y2 W psv lead gh' (n + 1 + r) cap' H' :=
  K.wi.touch L.touch (fun e => (K.gr _ e).1 rfl) (fun k e e' => (K.gr k e').2 e) (fun j hj k i hf => by
    obtain ⟨a, b, c⟩ := K.apart j hj k i hf
    exact L.keep k i ((K.wi.is j hj).foot_lt hf) a b c)

theorem KInv.step (K : KInv x W psv lead gh n H h r y gh' cap' H' g) {y2 y3 y4 : World} {g2 : HG} (L : Longer y g y2 g2) (hs : n + 1 ≤ 100000000 ∧ h.bn + r + 1 ≤ 100000000 ∧ h.ln + r + 1 ≤ 100000000 ∧ h.on + r + 1 ≤ 100000000)
    {o : Obj} {k4 c4 : Nat} (a : AppPost (y2.alloc o) y3 124 1 gh' (n + 1 + r) 1 [.pointer (some ⟨g2.p, 0, none⟩)] k4 c4) (hz : y4 = y3.setCell ⟨W, 1, none⟩ (.slice (some ⟨k4, 0, none⟩) (n + 1 + r + 1) c4)) :
    KInv x W psv lead gh n H h (r + 1) y4 (some k4) c4 (fun j => if j = n + 1 + r then g2 else H' j) g2 := by
  have w2 := K.longer L
  have hWy : W < y.heap.size := heap_lt K.wi.wb
  have hgy : ∀ k, gh' = some k → k < y.heap.size := fun k e => K.wi.ow.lt e
  have gr2 : ∀ k, g2.rows k → k ≠ W ∧ gh' ≠ some k := fun k hr => by
    rcases L.rows k hr with e | e
    · exact K.gr k e
    · exact ⟨by omega, fun e' => by have := hgy k e'; omega⟩
  have gf2 : ∀ k i, g2.foot k i → k ≠ W ∧ gh' ≠ some k := fun k i hf => by
    rcases L.foots k i hf with e | e | e
    · exact K.gr k e
    · exact ⟨by omega, fun e' => by have := hgy k e'; omega⟩
    · exact K.gf k 0 e
  have tsz := L.touch.size
  have xsz := K.tch.size
  obtain ⟨q1, q2, q3, q4, q5⟩ := w2.push L.cur L.is ⟨by rw [L.em, K.em]; exact hs.1, by rw [L.ebn, K.ebn]; omega, by rw [L.eln, K.eln]; omega, by rw [L.eon, K.eon]; omega⟩ gf2 gr2 a hz
  refine ⟨q1, fun j hj => ?_, q2, q3, L.qok, by rw [L.em, K.em], by rw [L.ebn, K.ebn]; omega, by rw [L.eln, K.eln]; omega, by rw [L.eon, K.eon]; omega, fun j hj k i hf => ?_, fun k i hf => ?_, fun k hr => ?_, ?_, fun k e => ?_, fun j h1 h2 k i hf => ?_, fun k hr => ?_, fun k i hf => ?_⟩
  · rw [if_neg (by omega)]; exact K.agree j hj
  · by_cases e : j = n + 1 + r
    · rw [if_pos e] at hf
      exact foot_apart L.cur L.qok k i hf
    · rw [if_neg e] at hf
      have hjl : j < n + 1 + r := by omega
      obtain ⟨a1, a2, a3⟩ := K.apart j hjl k i hf
      have hk := (K.wi.is j hjl).foot_lt hf
      have e1 := L.ebn
      have e2 := L.eln
      have e3 := L.eon
      refine ⟨fun q => ?_, fun q => ?_, fun q => ?_⟩
      · rcases L.lb k q.1 with e | e
        · exact a1 ⟨e, by omega⟩
        · omega
      · rcases L.ll k q.1 with e | e
        · exact a2 ⟨e, by omega⟩
        · omega
      · rcases L.lo k q.1 with e | e
        · exact a3 ⟨e, by omega⟩
        · omega
  · refine ⟨(gf2 k i hf).1, fun e => ?_⟩
    have e := Option.some.inj e
    subst e
    rcases q5 with q | q
    · exact (gf2 _ i hf).2 q
    · have := L.is.foot_lt hf; omega
  · refine ⟨(gr2 k hr).1, fun e => ?_⟩
    have e := Option.some.inj e
    subst e
    rcases q5 with q | q
    · exact (gr2 _ hr).2 q
    · have := L.cur.rows_lt hr; omega
  · refine (K.tch.trans L.touch (fun i hi e => ?_)).trans q4 (fun i hi e => ?_)
    · rcases K.grn i e with e | e
      · exact .inr (.inr (.inr e))
      · omega
    · rcases e with e | e
      · exact .inl e
      · rcases K.gha i e with e | e
        · exact .inr (.inl e)
        · omega
  · have e := Option.some.inj e
    subst e
    rcases q5 with q | q
    · exact K.gha _ q
    · exact .inr (by omega)
  · by_cases e : j = n + 1 + r
    · rw [if_pos e] at hf
      rcases L.foots k i hf with e | e | e
      · exact .inr (K.grn k e)
      · exact .inr (.inr (by omega))
      · exact K.gfn k 0 e
    · rw [if_neg e] at hf
      exact K.new j h1 (by omega) k i hf
  · rcases L.rows k hr with e | e
    · exact K.grn k e
    · exact .inr (by omega)
  · rcases L.foots k i hf with e | e | e
    · exact .inr (K.grn k e)
    · exact .inr (.inr (by omega))
    · exact K.gfn k 0 e
end

theorem WI.marks {x x0 x1 : World} {W : Nat} {psv : Value} {lead : Bool} {gh : Option Nat} {n cap : Nat} {H : Nat → HG} {h : HG} (w : WI x W psv lead gh n cap H)
    (hap : ∀ j, j < n → ∀ k i, (H j).foot k i → k ≠ h.p ∧ ¬ h.rows k) (hpW : h.p ≠ W) (hpg : gh ≠ some h.p) (hr : ∀ k, h.rows k → k ≠ W ∧ gh ≠ some k)
    (t0 : Touch (fun k => k = h.p) x x0) (ex : x0.heap.size = x.heap.size) (t1 : Touch h.rows x0 x1) : WI x1 W psv lead gh n cap H := by
  have cell01 : ∀ k i, k < x.heap.size → k ≠ h.p → ¬ h.rows k → x1.cell? ⟨k, i, none⟩ = x.cell? ⟨k, i, none⟩ := fun k i hk n1 n2 =>
    (World.cell?_of_block (t1.block k (by omega) n2)).trans (World.cell?_of_block (t0.block k hk n1))
  have t01 : Touch (fun k => k = h.p ∨ h.rows k) x x1 := (t0.mono (fun _ _ e => .inl e)).trans t1 (fun _ _ e => .inr e)
  exact w.touch t01 (fun e => e.elim (fun e => hpW e.symm) (fun e => (hr W e).1 rfl)) (fun k e t => t.elim (fun e' => hpg (by rw [← e']; exact e)) (fun e' => (hr k e').2 e))
    (fun j hj k i hf => cell01 k i ((w.is j hj).foot_lt hf) (hap j hj k i hf).1 (hap j hj k i hf).2)

/-- The first hold of a 'keep': behind the marks it stands behind the others. -/
theorem KInv.first {x x0 x1 y3 y4 : World} {W : Nat} {psv : Value} {lead : Bool} {gh : Option Nat} {n cap : Nat} {H : Nat → HG} {h : HG} {q : Nat → Nat} (w : WI x W psv lead gh n cap H)
    (hap : ∀ j, j < n → ∀ k i, (H j).foot k i → k ≠ h.p ∧ ¬ h.rows k) (hpW : h.p ≠ W) (hpg : gh ≠ some h.p) (hr : ∀ k, h.rows k → k ≠ W ∧ gh ≠ some k)
    (c0 : Cur x0 { h with m := n + 1 }) (t0 : Touch (fun k => k = h.p) x x0) (ex : x0.heap.size = x.heap.size)
    (c1 : Cur x1 { h with m := n + 1, q := q }) (i1 : HoldIs x1 { h with m := n + 1, q := q }) (hq : ∀ j, j < h.on → x0.heap.size ≤ q j) (t1 : Touch h.rows x0 x1)
    (hs : n + 1 ≤ 100000000 ∧ h.bn ≤ 100000000 ∧ h.ln ≤ 100000000 ∧ h.on ≤ 100000000)
    {o : Obj} {k4 c4 : Nat} (a : AppPost (x1.alloc o) y3 124 1 gh n 1 [.pointer (some ⟨h.p, 0, none⟩)] k4 c4) (hz : y4 = y3.setCell ⟨W, 1, none⟩ (.slice (some ⟨k4, 0, none⟩) (n + 1) c4)) :
    KInv x W psv lead gh n H h 0 y4 (some k4) c4 (fun j => if j = n then { h with m := n + 1, q := q } else H j) { h with m := n + 1, q := q } := by
  have cell01 : ∀ k i, k < x.heap.size → k ≠ h.p → ¬ h.rows k → x1.cell? ⟨k, i, none⟩ = x.cell? ⟨k, i, none⟩ := fun k i hk n1 n2 =>
    (World.cell?_of_block (t1.block k (by omega) n2)).trans (World.cell?_of_block (t0.block k hk n1))
  have t01 : Touch (fun k => k = h.p ∨ h.rows k) x x1 := (t0.mono (fun _ _ e => .inl e)).trans t1 (fun _ _ e => .inr e)
  have w1 : WI x1 W psv lead gh n cap H := w.touch t01 (fun e => e.elim (fun e => hpW e.symm) (fun e => (hr W e).1 rfl)) (fun k e t => t.elim (fun e' => hpg (by rw [← e']; exact e)) (fun e' => (hr k e').2 e))
    (fun j hj k i hf => cell01 k i ((w.is j hj).foot_lt hf) (hap j hj k i hf).1 (hap j hj k i hf).2)
  have hqn : ∀ j, j < h.on → x.heap.size ≤ q j := fun j hj => by have := hq j hj; omega
  have rl : ∀ k, h.rows k → k < x.heap.size := fun k e => by have := Cur.rows_lt (g := { h with m := n + 1 }) c0 (k := k) e; omega
  have hWx : W < x.heap.size := heap_lt w.wb
  have hgx : ∀ k, gh = some k → k < x.heap.size := fun k e => w.ow.lt e
  have gf : ∀ k i, HG.foot { h with m := n + 1, q := q } k i → k ≠ W ∧ gh ≠ some k := fun k i hf => by
    rcases hf with e | ⟨e, _⟩ | ⟨e, _⟩ | ⟨e, _⟩ | ⟨j, hj, e⟩
    · dsimp only at e; rw [e]; exact ⟨hpW, hpg⟩
    · exact hr k (.inl e)
    · exact hr k (.inr (.inl e))
    · exact hr k (.inr (.inr e))
    · dsimp only at e hj; have := hqn j hj; exact ⟨by omega, fun e' => by have := hgx k e'; omega⟩
  have qok : HG.qok { h with m := n + 1, q := q } := fun j hj hrw => by
    have h1 := rl _ hrw
    have := hqn j hj
    dsimp only at h1
    omega
  obtain ⟨q1, q2, q3, q4, q5⟩ := w1.push c1 i1 hs gf hr a hz
  have s1 := t01.size
  refine ⟨q1, fun j hj => by rw [if_neg (by omega)], q2, q3, qok, rfl, rfl, rfl, rfl, fun j hj k i hf => ?_, fun k i hf => ?_, fun k hrw => ?_, ?_, fun k e => ?_, fun j h1 h2 k i hf => ?_, fun k e => .inl e, fun k i hf => ?_⟩
  · by_cases e : j = n
    · rw [if_pos e] at hf
      exact foot_apart c1 qok k i hf
    · rw [if_neg e] at hf
      have := (hap j (by omega) k i hf).2
      exact ⟨fun q => this (.inl q.1), fun q => this (.inr (.inl q.1)), fun q => this (.inr (.inr q.1))⟩
  · refine ⟨(gf k i hf).1, fun e => ?_⟩
    have e := Option.some.inj e
    subst e
    rcases q5 with q | q
    · exact (gf _ i hf).2 q
    · have := i1.foot_lt hf; omega
  · refine ⟨(hr k hrw).1, fun e => ?_⟩
    have e := Option.some.inj e
    subst e
    rcases q5 with q | q
    · exact (hr _ hrw).2 q
    · have := rl _ hrw; omega
  · exact (t01.mono (fun _ _ e => e.elim (fun e => .inr (.inr (.inl e))) (fun e => .inr (.inr (.inr e))))).trans q4 (fun _ _ e => e.elim .inl (fun e => .inr (.inl e)))
  · have e := Option.some.inj e
    subst e
    rcases q5 with q | q
    · exact .inl q
    · exact .inr (by omega)
  · have e : j = n := by omega
    rw [if_pos e] at hf
    rcases hf with e | ⟨e, _⟩ | ⟨e, _⟩ | ⟨e, _⟩ | ⟨j, hj, e⟩
    · exact .inl e
    · exact .inr (.inl (.inl e))
    · exact .inr (.inl (.inr (.inl e)))
    · exact .inr (.inl (.inr (.inr e)))
    · dsimp only at e hj; have := hqn j hj; exact .inr (.inr (by omega))
  · rcases hf with e | ⟨e, _⟩ | ⟨e, _⟩ | ⟨e, _⟩ | ⟨j, hj, e⟩
    · exact .inl e
    · exact .inr (.inl (.inl e))
    · exact .inr (.inl (.inr (.inl e)))
    · exact .inr (.inl (.inr (.inr e)))
    · dsimp only at e hj; have := hqn j hj; exact .inr (.inr (by omega))

end Go.Proofs.YtolififimldmlaaGreat
