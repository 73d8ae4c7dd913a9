import Derived.Test.YtolififimldmlaaGreatGoO
set_option linter.unusedVariables false
set_option linter.unusedSimpArgs false
namespace Go.Proofs.YtolififimldmlaaGreat
open Go.RowKit
attribute [local go_sem ↓] Go.wp_at_zero Go.wp_at_succ

theorem unpRet {Q : Ending → World → Prop} {a : Act} {W : World} {B : Nat} {fz : Nat × Nat} {v0 v1 v2 v3 v4 v5 v6 v7 v8 v9 : Value} {er : Int} (hB : W.heap[B]? = some (.cells #[v0, v1, v2, v3, v4, v5, v6, v7, v8, v9] 30 fz))
    (ht : a.tmps[2]? = some (.pointer (some ⟨B, 0, none⟩))) (he : a.tmps[3]? = some (.int .i64 er)) (hd : a.defers = []) (hq : Q (.returned (.tuple #[.agg #[v0, v1, v2, v3, v4, v5, v6, v7, v8, v9], .int .i64 er])) W) : bodyPost Tryz.prog Tryz.f16 Q Exit.ret a W := by
  have c0 : W.cell? ⟨B, 0, none⟩ = some v0 := (cell_of_heap hB 0).trans rfl
  have c1 : W.cell? ⟨B, 1, none⟩ = some v1 := (cell_of_heap hB 1).trans rfl
  have c2 : W.cell? ⟨B, 2, none⟩ = some v2 := (cell_of_heap hB 2).trans rfl
  have c3 : W.cell? ⟨B, 3, none⟩ = some v3 := (cell_of_heap hB 3).trans rfl
  have c4 : W.cell? ⟨B, 4, none⟩ = some v4 := (cell_of_heap hB 4).trans rfl
  have c5 : W.cell? ⟨B, 5, none⟩ = some v5 := (cell_of_heap hB 5).trans rfl
  have c6 : W.cell? ⟨B, 6, none⟩ = some v6 := (cell_of_heap hB 6).trans rfl
  have c7 : W.cell? ⟨B, 7, none⟩ = some v7 := (cell_of_heap hB 7).trans rfl
  have c8 : W.cell? ⟨B, 8, none⟩ = some v8 := (cell_of_heap hB 8).trans rfl
  have c9 : W.cell? ⟨B, 9, none⟩ = some v9 := (cell_of_heap hB 9).trans rfl
  exact bodyPost_ret (v := .tuple #[.agg #[v0, v1, v2, v3, v4, v5, v6, v7, v8, v9], .int .i64 er]) (by simp [results, Tryz.results16, go_sem, ht, he, c0, c1, c2, c3, c4, c5, c6, c7, c8, c9]) hd hq

theorem alloc_keep {w : World} {B : Nat} {o o' : Obj} (h : w.heap[B]? = some o) : (w.alloc o').heap[B]? = some o := by rw [Below.heap_alloc _ _ _ (heap_lt h)]; exact h
theorem framesUnpack_at (g o cap : Nat) (b : List UInt8) (w0 w : World) (hb : BytesIn w0 (some ⟨g, o, none⟩) b) (hw : Below w0.heap.size w0 w) (hn : b.length ≤ 10000000) (hcap : b.length ≤ cap) :
    Calls Tryz.prog 33 #[.slice (some ⟨g, o, none⟩) b.length cap] w (FrameRet w b) := framesUnpack_go g o cap b w (hb.below hw) hn hcap

set_option maxRecDepth 100000 in
set_option maxHeartbeats 4000000 in
theorem unpackSaid_ : UnpackSaid := by
  intro g o cap b w hb hn hcap
  have HB : Hid (BytesIn w (some ⟨g, o, none⟩) b) := fun j hj => ⟨g, o, rfl, hb j hj⟩
  have HNO := hid (fun (w' : World) (h : unpackR b = none) (hb : Below w.heap.size w w') => ret_zero h hb)
  clear hb
  go_enter Tryz.func16, Tryz.ntmps16
  go_wp2_with fail
  refine (framesUnpack_at g o cap b w _ HB.out ((Below.refl _ _).alloc (Nat.le_refl _) _) hn hcap).mono ?_
  rintro e w1 ⟨gl, cl, rfl, hol, hb1⟩
  have HOL := hid hol
  have HB1 := hid hb1
  have HX1 := hid (Box.below (heap_alloc_new w (.cells #[.int .i64 0, .int .i64 0, .int .i64 0, .int .i64 0, .int .i64 0, .int .i64 0, .int .i64 0, .int .i64 0, .string ⟨#[]⟩, .slice none 0 0] 30)) hb1)
  have HW1 : Hid (Below w.heap.size w w1) := ((Below.refl _ w).alloc (Nat.le_refl _) _).trans (hb1.mono (by simp))
  have hgR : Hid (gl ≠ some w.heap.size) := fun e => by have := hol.new _ e; simp at this; omega
  clear hol hb1
  have hRl : w.heap.size < w1.heap.size := heap_lt HX1.out
  have HFV : Hid (∀ x : Fr, x = unpackF b → x.val (gl.map fun k => (⟨k, 0, none⟩ : Addr)) cl = (unpackF b).val (gl.map fun k => (⟨k, 0, none⟩ : Addr)) cl) := fun x e => by rw [e]
  have HFE : Hid (unpackF b = unpackF b) := rfl
  generalize hf : unpackF b = f at HOL ⊢
  have HF := hid hf
  clear hf HFV HFE
  unfold Fr.val sla
  obtain ⟨kind, frm, view, place, agreed, last, ⟨c, t, s⟩, ls⟩ := f
  dsimp only at *
  obtain ⟨r0, r1, r2, r3, r4, r5, r6, r7, r8, r9⟩ := box_cells HX1.out
  have hfR : ∀ j, w1.frozen? ⟨w.heap.size, j, none⟩ = false := fun j => frozen_of_heap HX1.out j
  cases hu : unpackR b with
  | none =>
    have HU := hid hu
    clear hu
    simp only [Option.isSome_none]
    go_wp2
    refine unpRet (alloc_keep (set10 HX1.out rfl _ _ _ _ _ _ _ _ _ _)) rfl rfl rfl (HNO.out _ HU.out ?_)
    exact (below10 HW1.out (Nat.le_refl _) _ _ _ _ _ _ _ _ _ _).alloc (by simp only [size_setCell]; exact HW1.out.size) _
  | some f' =>
    have HU := hid (un_yes hu)
    clear hu
    simp only [Option.isSome_some]
    go_wp2
    refine unpRet (alloc_keep (set10 HX1.out rfl _ _ _ _ _ _ _ _ _ _)) rfl rfl rfl ⟨gl, cl, ?_, ?_, ?_⟩
    · rw [HU.out.2, HF.out]; rfl
    · rw [HF.out]; exact ((HOL.out.base (by simp)).set10 hgR.out _ _ _ _ _ _ _ _ _ _).below ((Below.refl _ _).alloc (Nat.le_refl _) _)
    · exact (below10 HW1.out (Nat.le_refl _) _ _ _ _ _ _ _ _ _ _).alloc (by simp only [size_setCell]; exact HW1.out.size) _

end Go.Proofs.YtolififimldmlaaGreat
