import Derived.Test.YtolififimldmlaaGreatPart03
set_option linter.unusedVariables false
set_option linter.unusedSimpArgs false
namespace Go.Proofs.YtolififimldmlaaGreat
open Go.RowKit
attribute [local go_sem ↓] Go.wp_at_zero Go.wp_at_succ

theorem HoldIs.below {w w' : World} {h : HG} (hh : HoldIs w h) (hb : Below w.heap.size w w') : HoldIs w' h := by
  have hc : ∀ {a : Addr} {v : Value}, w.cell? a = some v → w'.cell? a = some v := fun {a v} e => (hb.cell (World.block_lt_of_cell? w _ e)).trans e
  refine ⟨hc hh.c0, hc hh.c1, hc hh.c2, hc hh.c3, fun j hj => ?_, fun j hj => ?_, fun j hj => ?_⟩
  · obtain ⟨g, e, a⟩ := hh.bs j hj; exact ⟨g, e, hc a⟩
  · obtain ⟨g, e, a, b, c⟩ := hh.ls j hj; exact ⟨g, e, hc a, hc b, hc c⟩
  · obtain ⟨g, cc, e, a, b, c, d⟩ := hh.os j hj; exact ⟨g, cc, e, hc a, hc b, hc c, hc d⟩

set_option maxHeartbeats 400000 in
theorem looks_any (W n cap : Nat) (gh : Option Nat) (H : Nat → HG) (w : World) (hn : n ≤ 100000000)
    (hc : w.cell? ⟨W, 1, none⟩ = some (sl gh n cap))
    (hp : ∀ j, j < n → ∃ g, gh = some g ∧ w.cell? ⟨g, j, none⟩ = some (.pointer (some ⟨(H j).p, 0, none⟩)))
    (hh : ∀ j, j < n → HoldIs w (H j)) (hs : ∀ j, j < n → (H j).m ≤ 100000000 ∧ (H j).bn ≤ 100000000 ∧ (H j).ln ≤ 100000000 ∧ (H j).on ≤ 100000000) :
    Calls Tryz.prog 31 #[.pointer (some ⟨W, 0, none⟩)] w fun e w' => e = .returned (.bool true) ∧ Below w.heap.size w w' := by
  have hp' : Hid (∀ j, j < n → ∃ g, gh = some g ∧ w.cell? ⟨g, j, none⟩ = some (.pointer (some ⟨(H j).p, 0, none⟩))) := hp
  have hh' : Hid (∀ j, j < n → HoldIs w (H j)) := hh
  have hs' : Hid (∀ j, j < n → (H j).m ≤ 100000000 ∧ (H j).bn ≤ 100000000 ∧ (H j).ln ≤ 100000000 ∧ (H j).on ≤ 100000000) := hs
  clear hp hh hs
  unfold sl at hc
  go_enter Tryz.func31, Tryz.ntmps31
  go_wp2
  go_loopw [3] (fun i wr => ∃ k : Nat, k ≤ n ∧ i = .int .i64 k ∧ Below w.heap.size w wr) (fun i _ => n - (intOf i).toNat)
  case atStart => exact ⟨0, Nat.zero_le _, rfl, Below.refl _ _⟩
  case round =>
    obtain ⟨k, hk, rfl, hb⟩ := hrel
    have d : wr.cell? ⟨W, 1, none⟩ = _ := (hb.cell (World.block_lt_of_cell? w _ hc)).trans hc
    by_cases hlt : k < n
    · obtain ⟨g, rfl, hg⟩ := hp'.out k hlt
      have dg : wr.cell? ⟨g, k, none⟩ = _ := (hb.cell (World.block_lt_of_cell? w _ hg)).trans hg
      obtain ⟨s1, s2, s3, s4⟩ := hs'.out k hlt
      have hk' : Hid (HoldIs wr (H k)) := (hh'.out k hlt).below (by exact ⟨hb.os, hb.tape, hb.output, hb.size, hb.block⟩)
      go_wp2_with fail
      refine (marked_any (H k) _ hk'.out s1 s2 s3 s4).mono ?_
      rintro e w1 ⟨rfl, hb1⟩
      go_wp2
      go_roundw
      case rel => exact ⟨k + 1, by omega, by go_num, hb.trans (hb1.mono hb.size)⟩
      case measure => simp [intOf]; omega
    · go_wp2
      go_ret
      exact ⟨rfl, hb⟩

end Go.Proofs.YtolififimldmlaaGreat

set_option linter.unusedVariables false
set_option linter.unusedSimpArgs false
namespace Go.Proofs.YtolififimldmlaaGreat
open Go.RowKit

/-- All blocks that were there are as they were, but for those of which T speaks. -/
structure Touch (T : Nat → Prop) (w w' : World) : Prop where
  os : w'.os = w.os
  tape : w'.tape = w.tape
  output : w'.output = w.output
  size : w.heap.size ≤ w'.heap.size
  block : ∀ k, k < w.heap.size → ¬ T k → w'.heap[k]? = w.heap[k]?

theorem Touch.refl (T : Nat → Prop) (w : World) : Touch T w w := ⟨rfl, rfl, rfl, Nat.le_refl _, fun _ _ _ => rfl⟩
theorem Touch.trans {T T' : Nat → Prop} {a b c : World} (h : Touch T a b) (k : Touch T' b c) (ht : ∀ i, i < a.heap.size → T' i → T i) : Touch T a c :=
  ⟨k.os.trans h.os, k.tape.trans h.tape, k.output.trans h.output, Nat.le_trans h.size k.size,
    fun i hi hn => (k.block i (Nat.lt_of_lt_of_le hi h.size) (fun e => hn (ht i hi e))).trans (h.block i hi hn)⟩
theorem Touch.mono {T T' : Nat → Prop} {a b : World} (h : Touch T a b) (ht : ∀ i, i < a.heap.size → T i → T' i) : Touch T' a b :=
  ⟨h.os, h.tape, h.output, h.size, fun i hi hn => h.block i hi (fun e => hn (ht i hi e))⟩
theorem Touch.drew {T : Nat → Prop} {a w : World} (h : Touch T a w) : Touch T a w.drew := ⟨h.os, h.tape, h.output, h.size, h.block⟩
theorem Touch.drewN {T : Nat → Prop} {a w : World} (h : Touch T a w) (n : Nat) : Touch T a (w.drewN n) := ⟨h.os, h.tape, h.output, h.size, h.block⟩
theorem Touch.alloc {T : Nat → Prop} {a w : World} (h : Touch T a w) (o : Obj) : Touch T a (w.alloc o) :=
  h.trans (T' := T) ⟨rfl, rfl, rfl, by simp, fun k hk _ => Below.heap_alloc _ _ _ (by omega)⟩ (fun _ _ e => e)
theorem Touch.setCell {T : Nat → Prop} {a w : World} (h : Touch T a w) {p : Addr} (hp : p.block < a.heap.size → T p.block) (u : Value) : Touch T a (w.setCell p u) :=
  h.trans (T' := fun k => k = p.block) ⟨rfl, rfl, rfl, by simp [World.setCell], fun k hk hn => Below.heap_setCell _ _ _ _ hn⟩ (fun i hi e => by subst e; exact hp hi)
theorem Touch.grown {T : Nat → Prop} {a w w' : World} {row : Option Nat} (h : Touch T a w) (hg : w.grownBy w' row) (hr : ∀ k, k < a.heap.size → row = some k → T k) : Touch T a w' :=
  h.trans (T' := fun k => row = some k) ⟨hg.os, hg.tape, hg.output, hg.size, fun k hk hn => hg.block k hk (fun e => hn e.symm)⟩ (fun i hi e => hr i hi e)
theorem Touch.below {T : Nat → Prop} {w w' : World} (h : Touch T w w') {B : Nat} (hB : B ≤ w.heap.size) (ht : ∀ k, k < w.heap.size → T k → B ≤ k) : Below B w w' :=
  ⟨h.os, h.tape, h.output, h.size, fun k hk => h.block k (by omega) (fun e => by have := ht k (by omega) e; omega)⟩
theorem Touch.of_below {B : Nat} {w w' : World} (h : Below B w w') : Touch (fun k => B ≤ k) w w' := ⟨h.os, h.tape, h.output, h.size, fun k _ hn => h.block k (by omega)⟩
theorem Touch.of_belowAll {w w' : World} (h : Below w.heap.size w w') (T : Nat → Prop) : Touch T w w' := ⟨h.os, h.tape, h.output, h.size, fun k hk _ => h.block k hk⟩
theorem Touch.heapAt {T : Nat → Prop} {w w' : World} (h : Touch T w w') {k : Nat} {o : Obj} (e : w.heap[k]? = some o) (hn : ¬ T k) : w'.heap[k]? = some o := by
  rw [h.block k (by rcases Nat.lt_or_ge k w.heap.size with h | h; exact h; rw [Array.getElem?_eq_none h] at e; cases e) hn]; exact e
theorem Touch.cell {T : Nat → Prop} {w w' : World} (h : Touch T w w') {a : Addr} {v : Value} (e : w.cell? a = some v) (hn : ¬ T a.block) : w'.cell? a = some v :=
  (World.cell?_of_block (h.block a.block (World.block_lt_of_cell? w a e) hn)).trans e

theorem heap_lt {w : World} {k : Nat} {o : Obj} (e : w.heap[k]? = some o) : k < w.heap.size := by
  rcases Nat.lt_or_ge k w.heap.size with h | h
  · exact h
  · rw [Array.getElem?_eq_none h] at e; cases e
theorem cell_of_heap {w : World} {g : Nat} {cur : Array Value} {e : TypeId} {f : Nat × Nat} (h : w.heap[g]? = some (.cells cur e f)) (j : Nat) : w.cell? ⟨g, j, none⟩ = cur[j]? := by simp [World.cell?, h]
theorem frozen_of_heap {w : World} {g : Nat} {cur : Array Value} {e : TypeId} (h : w.heap[g]? = some (.cells cur e (0, 0))) (j : Nat) : w.frozen? ⟨g, j, none⟩ = false := by simp [World.frozen?, h]
theorem heap_setCell {w : World} {g : Nat} {cur : Array Value} {e : TypeId} {f : Nat × Nat} (h : w.heap[g]? = some (.cells cur e f)) (j : Nat) (v : Value) :
    (w.setCell ⟨g, j, none⟩ v).heap[g]? = some (.cells (cur.setIfInBounds j v) e f) := by
  simp [World.setCell, Array.getElem?_modify, h]

/-- A row of the call's own: nil, or at the head of a block that may be written, with room for c elements. -/
def OwnRow (w : World) (e : TypeId) (size : Nat) (b : Option Nat) (n c : Nat) : Prop :=
  (b = none ∧ n = 0 ∧ c = 0) ∨ ∃ g cur, b = some g ∧ w.heap[g]? = some (.cells cur e (0, 0)) ∧ cur.size = c * size ∧ n ≤ c ∧ c ≤ maxLen

theorem OwnRow.touch {T : Nat → Prop} {w w' : World} {e : TypeId} {size : Nat} {b : Option Nat} {n c : Nat} (h : OwnRow w e size b n c) (ht : Touch T w w') (hn : ∀ g, b = some g → ¬ T g) : OwnRow w' e size b n c := by
  rcases h with h | ⟨g, cur, rfl, h1, h2⟩
  · exact .inl h
  · exact .inr ⟨g, cur, rfl, ht.heapAt h1 (hn g rfl), h2⟩

/-- What is needed of a hold that is to be written and made longer. -/
structure Cur (w : World) (h : HG) : Prop where
  hp : w.heap[h.p]? = some (.cells #[sl h.b h.bn h.bc, sl h.l h.ln h.lc, sl h.o h.on h.oc, .int .i64 h.m] 126 (0, 0))
  rb : OwnRow w 5 1 h.b h.bn h.bc
  rl : OwnRow w 27 3 h.l h.ln h.lc
  ro : OwnRow w 71 3 h.o h.on h.oc
  pb : h.b ≠ some h.p
  pl : h.l ≠ some h.p
  po : h.o ≠ some h.p
  bl : ∀ g, h.b = some g → h.l ≠ some g
  bo : ∀ g, h.b = some g → h.o ≠ some g
  lo : ∀ g, h.l = some g → h.o ≠ some g

theorem Cur.touch {T : Nat → Prop} {w w' : World} {h : HG} (hc : Cur w h) (ht : Touch T w w') (np : ¬ T h.p) (nb : ∀ g, h.b = some g → ¬ T g) (nl : ∀ g, h.l = some g → ¬ T g) (no : ∀ g, h.o = some g → ¬ T g) : Cur w' h :=
  ⟨ht.heapAt hc.hp np, hc.rb.touch ht nb, hc.rl.touch ht nl, hc.ro.touch ht no, hc.pb, hc.pl, hc.po, hc.bl, hc.bo, hc.lo⟩

end Go.Proofs.YtolififimldmlaaGreat
