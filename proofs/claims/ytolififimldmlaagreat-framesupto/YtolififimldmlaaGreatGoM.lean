import Derived.Test.YtolififimldmlaaGreatGoL
set_option linter.unusedVariables false
set_option linter.unusedSimpArgs false
namespace Go.Proofs.YtolififimldmlaaGreat
open Go.RowKit
attribute [local go_sem ↓] Go.wp_at_zero Go.wp_at_succ

/-- A frame that is returned out of a variable: slot 2 points to it. -/
theorem headRet {Q : Ending → World → Prop} {a : Act} {W : World} {B : Nat} {fz : Nat × Nat} {v0 v1 v2 v3 v4 v5 v6 v7 v8 v9 : Value} (hB : W.heap[B]? = some (.cells #[v0, v1, v2, v3, v4, v5, v6, v7, v8, v9] 30 fz))
    (ht : a.tmps[2]? = some (.pointer (some ⟨B, 0, none⟩))) (hd : a.defers = []) (hq : Q (.returned (.agg #[v0, v1, v2, v3, v4, v5, v6, v7, v8, v9])) W.drew) : bodyPost Tryz.prog Tryz.f74 Q Exit.ret a W.drew := by
  have c0 : W.cell? ⟨B, 0, none⟩ = some v0 := (cell_of_heap hB 0).trans rfl
  have c1 : W.cell? ⟨B, 1, none⟩ = some v1 := (cell_of_heap hB 1).trans rfl
  have c2 : W.cell? ⟨B, 2, none⟩ = some v2 := (cell_of_heap hB 2).trans rfl
  have c3 : W.cell? ⟨B, 3, none⟩ = some v3 := (cell_of_heap hB 3).trans rfl
  have c4 : W.cell? ⟨B, 4, none⟩ = some v4 := (cell_of_heap hB 4).trans rfl
  have c5 : W.cell? ⟨B, 5, none⟩ = some v5 := (cell_of_heap hB 5).trans rfl
  have c6 : W.cell? ⟨B, 6, none⟩ = some v6 := (cell_of_heap hB 6).trans rfl
  have c7 : W.cell? ⟨B, 7, none⟩ = some v7 := (cell_of_heap hB 7).trans rfl
  have c8 : W.cell? ⟨B, 8, none⟩ = some v8 := (cell_of_heap hB 8).trans rfl
  have c9 : W.cell? ⟨B, 9, none⟩ = some v9 := (cell_of_heap hB 9).trans rfl
  exact bodyPost_ret (v := .agg #[v0, v1, v2, v3, v4, v5, v6, v7, v8, v9]) (by simp [results, Tryz.results74, go_sem, ht, c0, c1, c2, c3, c4, c5, c6, c7, c8, c9]) hd hq

set_option maxRecDepth 100000 in
set_option maxHeartbeats 4000000 in
theorem takeHead_go (g o n cap : Nat) (b : List UInt8) (w : World) (hb : BytesIn w (some ⟨g, o, none⟩) b) (h6 : 6 ≤ b.length) (e : b.length = n) (hn : n ≤ 100000000) :
    Calls Tryz.prog 74 #[.slice (some ⟨g, o, none⟩) n cap] w fun e w' => e = .returned (.agg #[.int .i64 (b.getD 0 0).toNat, .int .i64 (b.getD 1 0).toNat, .int .i64 (b.getD 2 0).toNat, .int .i64 (b.getD 3 0).toNat, .int .i64 (b.getD 4 0).toNat, .int .i64 (b.getD 5 0).toNat, .int .i64 0, .int .i64 0, .string ⟨#[]⟩, .slice none 0 0]) ∧ Below w.heap.size w w' := by
  have hg : g < w.heap.size := World.block_lt_of_cell? _ _ (hb.cell 0 (by omega))
  have hg2 : g ≠ w.heap.size := by omega
  have c0 := hb.cell 0 (by omega)
  have c1 := hb.cell 1 (by omega)
  have c2 := hb.cell 2 (by omega)
  have c3 := hb.cell 3 (by omega)
  have c4 := hb.cell 4 (by omega)
  have c5 := hb.cell 5 (by omega)
  rw [Nat.add_zero] at c0
  generalize b.getD 0 0 = x0 at c0 ⊢
  generalize b.getD 1 0 = x1 at c1 ⊢
  generalize b.getD 2 0 = x2 at c2 ⊢
  generalize b.getD 3 0 = x3 at c3 ⊢
  generalize b.getD 4 0 = x4 at c4 ⊢
  generalize b.getD 5 0 = x5 at c5 ⊢
  have w0 := wrap_byte x0
  have w1 := wrap_byte x1
  have w2 := wrap_byte x2
  have w3 := wrap_byte x3
  have w4 := wrap_byte x4
  have w5 := wrap_byte x5
  have n00 : 0 < n := by omega
  have n0 : (0 : Int) < (n : Int) := by omega
  have n1 : (1 : Int) < (n : Int) := by omega
  have n2 : (2 : Int) < (n : Int) := by omega
  have n3 : (3 : Int) < (n : Int) := by omega
  have n4 : (4 : Int) < (n : Int) := by omega
  have n5 : (5 : Int) < (n : Int) := by omega
  clear hb h6 e
  go_enter Tryz.func74, Tryz.ntmps74
  go_wp2
  generalize hY : w.alloc (.cells #[.int .i64 0, .int .i64 0, .int .i64 0, .int .i64 0, .int .i64 0, .int .i64 0, .int .i64 0, .int .i64 0, .string ⟨#[]⟩, .slice none 0 0] 30) = Y
  have y0 : Y.cell? ⟨g, o, none⟩ = some (.int .u8 x0.toNat) := by rw [← hY, World.cell?_alloc_past _ _ _ hg]; exact c0
  have y1 : Y.cell? ⟨g, o + 1, none⟩ = some (.int .u8 x1.toNat) := by rw [← hY, World.cell?_alloc_past _ _ _ hg]; exact c1
  have y2 : Y.cell? ⟨g, o + 2, none⟩ = some (.int .u8 x2.toNat) := by rw [← hY, World.cell?_alloc_past _ _ _ hg]; exact c2
  have y3 : Y.cell? ⟨g, o + 3, none⟩ = some (.int .u8 x3.toNat) := by rw [← hY, World.cell?_alloc_past _ _ _ hg]; exact c3
  have y4 : Y.cell? ⟨g, o + 4, none⟩ = some (.int .u8 x4.toNat) := by rw [← hY, World.cell?_alloc_past _ _ _ hg]; exact c4
  have y5 : Y.cell? ⟨g, o + 5, none⟩ = some (.int .u8 x5.toNat) := by rw [← hY, World.cell?_alloc_past _ _ _ hg]; exact c5
  have bY : Box w.heap.size (.int .i64 0) (.int .i64 0) (.int .i64 0) (.int .i64 0) (.int .i64 0) (.int .i64 0) (.int .i64 0) (.int .i64 0) (.string ⟨#[]⟩) (.slice none 0 0) Y := by rw [← hY]; exact heap_alloc_new w _
  obtain ⟨s0, s1, s2, s3, s4, s5, s6, s7, s8, s9⟩ := box_cells bY
  have hf : ∀ j, Y.frozen? ⟨w.heap.size, j, none⟩ = false := fun j => frozen_of_heap bY j
  have BY := hid bY
  have HBY : Hid (Below w.heap.size w Y) := by show Below _ _ _; rw [← hY]; exact (Below.refl _ _).alloc (Nat.le_refl _) _
  clear hY bY c0 c1 c2 c3 c4 c5
  go_still_tail 25, (by kernel_rfl)
  go_wp2
  refine headRet (set10 BY.out rfl _ _ _ _ _ _ _ _ _ _) rfl rfl ⟨rfl, (below10 HBY.out (Nat.le_refl _) _ _ _ _ _ _ _ _ _ _).drew⟩

end Go.Proofs.YtolififimldmlaaGreat
