import Derived.Test.YtolififimldmlaaGreatLooks
set_option linter.unusedVariables false
set_option linter.unusedSimpArgs false
namespace Go.Proofs.YtolififimldmlaaGreat
open Go.RowKit

/-- All blocks that were there are as they were, but for those of which T speaks. -/
structure Touch (T : Nat → Prop) (w w' : World) : Prop where
  os : w'.os = w.os
  tape : w'.tape = w.tape
  output : w'.output = w.output
  size : w.heap.size ≤ w'.heap.size
  block : ∀ k, k < w.heap.size → ¬ T k → w'.heap[k]? = w.heap[k]?

theorem Touch.refl (T : Nat → Prop) (w : World) : Touch T w w := ⟨rfl, rfl, rfl, Nat.le_refl _, fun _ _ _ => rfl⟩
theorem Touch.trans {T T' : Nat → Prop} {a b c : World} (h : Touch T a b) (k : Touch T' b c) (ht : ∀ i, i < a.heap.size → T' i → T i) : Touch T a c :=
  ⟨k.os.trans h.os, k.tape.trans h.tape, k.output.trans h.output, Nat.le_trans h.size k.size,
    fun i hi hn => (k.block i (Nat.lt_of_lt_of_le hi h.size) (fun e => hn (ht i hi e))).trans (h.block i hi hn)⟩
theorem Touch.mono {T T' : Nat → Prop} {a b : World} (h : Touch T a b) (ht : ∀ i, i < a.heap.size → T i → T' i) : Touch T' a b :=
  ⟨h.os, h.tape, h.output, h.size, fun i hi hn => h.block i hi (fun e => hn (ht i hi e))⟩
theorem Touch.drew {T : Nat → Prop} {a w : World} (h : Touch T a w) : Touch T a w.drew := ⟨h.os, h.tape, h.output, h.size, h.block⟩
theorem Touch.drewN {T : Nat → Prop} {a w : World} (h : Touch T a w) (n : Nat) : Touch T a (w.drewN n) := ⟨h.os, h.tape, h.output, h.size, h.block⟩
theorem Touch.alloc {T : Nat → Prop} {a w : World} (h : Touch T a w) (o : Obj) : Touch T a (w.alloc o) :=
  h.trans (T' := T) ⟨rfl, rfl, rfl, by simp, fun k hk _ => Below.heap_alloc _ _ _ (by omega)⟩ (fun _ _ e => e)
theorem Touch.setCell {T : Nat → Prop} {a w : World} (h : Touch T a w) {p : Addr} (hp : p.block < a.heap.size → T p.block) (u : Value) : Touch T a (w.setCell p u) :=
  h.trans (T' := fun k => k = p.block) ⟨rfl, rfl, rfl, by simp [World.setCell], fun k hk hn => Below.heap_setCell _ _ _ _ hn⟩ (fun i hi e => by subst e; exact hp hi)
theorem Touch.grown {T : Nat → Prop} {a w w' : World} {row : Option Nat} (h : Touch T a w) (hg : w.grownBy w' row) (hr : ∀ k, k < a.heap.size → row = some k → T k) : Touch T a w' :=
  h.trans (T' := fun k => row = some k) ⟨hg.os, hg.tape, hg.output, hg.size, fun k hk hn => hg.block k hk (fun e => hn e.symm)⟩ (fun i hi e => hr i hi e)
theorem Touch.below {T : Nat → Prop} {w w' : World} (h : Touch T w w') {B : Nat} (hB : B ≤ w.heap.size) (ht : ∀ k, k < w.heap.size → T k → B ≤ k) : Below B w w' :=
  ⟨h.os, h.tape, h.output, h.size, fun k hk => h.block k (by omega) (fun e => by have := ht k (by omega) e; omega)⟩
theorem Touch.of_below {B : Nat} {w w' : World} (h : Below B w w') : Touch (fun k => B ≤ k) w w' := ⟨h.os, h.tape, h.output, h.size, fun k _ hn => h.block k (by omega)⟩
theorem Touch.of_belowAll {w w' : World} (h : Below w.heap.size w w') (T : Nat → Prop) : Touch T w w' := ⟨h.os, h.tape, h.output, h.size, fun k hk _ => h.block k hk⟩
theorem Touch.heapAt {T : Nat → Prop} {w w' : World} (h : Touch T w w') {k : Nat} {o : Obj} (e : w.heap[k]? = some o) (hn : ¬ T k) : w'.heap[k]? = some o := by
  rw [h.block k (by rcases Nat.lt_or_ge k w.heap.size with h | h; exact h; rw [Array.getElem?_eq_none h] at e; cases e) hn]; exact e
theorem Touch.cell {T : Nat → Prop} {w w' : World} (h : Touch T w w') {a : Addr} {v : Value} (e : w.cell? a = some v) (hn : ¬ T a.block) : w'.cell? a = some v :=
  (World.cell?_of_block (h.block a.block (World.block_lt_of_cell? w a e) hn)).trans e

theorem heap_lt {w : World} {k : Nat} {o : Obj} (e : w.heap[k]? = some o) : k < w.heap.size := by
  rcases Nat.lt_or_ge k w.heap.size with h | h
  · exact h
  · rw [Array.getElem?_eq_none h] at e; cases e
theorem cell_of_heap {w : World} {g : Nat} {cur : Array Value} {e : TypeId} {f : Nat × Nat} (h : w.heap[g]? = some (.cells cur e f)) (j : Nat) : w.cell? ⟨g, j, none⟩ = cur[j]? := by simp [World.cell?, h]
theorem frozen_of_heap {w : World} {g : Nat} {cur : Array Value} {e : TypeId} (h : w.heap[g]? = some (.cells cur e (0, 0))) (j : Nat) : w.frozen? ⟨g, j, none⟩ = false := by simp [World.frozen?, h]
theorem heap_setCell {w : World} {g : Nat} {cur : Array Value} {e : TypeId} {f : Nat × Nat} (h : w.heap[g]? = some (.cells cur e f)) (j : Nat) (v : Value) :
    (w.setCell ⟨g, j, none⟩ v).heap[g]? = some (.cells (cur.setIfInBounds j v) e f) := by
  simp [World.setCell, Array.getElem?_modify, h]

/-- A row of the call's own: nil, or at the head of a block that may be written, with room for c elements. -/
def OwnRow (w : World) (e : TypeId) (size : Nat) (b : Option Nat) (n c : Nat) : Prop :=
  (b = none ∧ n = 0 ∧ c = 0) ∨ ∃ g cur, b = some g ∧ w.heap[g]? = some (.cells cur e (0, 0)) ∧ cur.size = c * size ∧ n ≤ c ∧ c ≤ maxLen

theorem OwnRow.touch {T : Nat → Prop} {w w' : World} {e : TypeId} {size : Nat} {b : Option Nat} {n c : Nat} (h : OwnRow w e size b n c) (ht : Touch T w w') (hn : ∀ g, b = some g → ¬ T g) : OwnRow w' e size b n c := by
  rcases h with h | ⟨g, cur, rfl, h1, h2⟩
  · exact .inl h
  · exact .inr ⟨g, cur, rfl, ht.heapAt h1 (hn g rfl), h2⟩

/-- What is needed of a hold that is to be written and made longer. -/
structure Cur (w : World) (h : HG) : Prop where
  hp : w.heap[h.p]? = some (.cells #[sl h.b h.bn h.bc, sl h.l h.ln h.lc, sl h.o h.on h.oc, .int .i64 h.m] 126 (0, 0))
  rb : OwnRow w 5 1 h.b h.bn h.bc
  rl : OwnRow w 27 3 h.l h.ln h.lc
  ro : OwnRow w 71 3 h.o h.on h.oc
  pb : h.b ≠ some h.p
  pl : h.l ≠ some h.p
  po : h.o ≠ some h.p
  bl : ∀ g, h.b = some g → h.l ≠ some g
  bo : ∀ g, h.b = some g → h.o ≠ some g
  lo : ∀ g, h.l = some g → h.o ≠ some g

theorem Cur.touch {T : Nat → Prop} {w w' : World} {h : HG} (hc : Cur w h) (ht : Touch T w w') (np : ¬ T h.p) (nb : ∀ g, h.b = some g → ¬ T g) (nl : ∀ g, h.l = some g → ¬ T g) (no : ∀ g, h.o = some g → ¬ T g) : Cur w' h :=
  ⟨ht.heapAt hc.hp np, hc.rb.touch ht nb, hc.rl.touch ht nl, hc.ro.touch ht no, hc.pb, hc.pl, hc.po, hc.bl, hc.bo, hc.lo⟩

end Go.Proofs.YtolififimldmlaaGreat
