import Derived.Great.BuildSlice
import Derived.Test.YtolififimldmlaaGreatPart01
import Derived.Test.YtolififimldmlaaGreatPart40
set_option linter.unusedVariables false
set_option linter.unusedSimpArgs false
namespace Go.Proofs.YtolififimldmlaaGreat

theorem fold_set (l : List Value) : ∀ (off j : Nat) (pre rest : List Value), pre.length = off + j → l.length ≤ rest.length →
    (l.zipIdx j).foldl (fun (cs : Array Value) p => cs.setIfInBounds (off + p.2) p.1) (pre ++ rest).toArray = (pre ++ l ++ rest.drop l.length).toArray := by
  induction l with
  | nil => intro off j pre rest _ _; simp
  | cons a l ih =>
    intro off j pre rest h1 h2
    cases rest with
    | nil => simp at h2
    | cons r rest =>
      rw [List.zipIdx_cons, List.foldl_cons]
      have e : (pre ++ r :: rest).toArray.setIfInBounds (off + j) a = ((pre ++ [a]) ++ rest).toArray := by
        rw [List.setIfInBounds_toArray, ← h1, List.set_append_right _ _ (Nat.le_refl _), Nat.sub_self, List.set_cons_zero, List.append_assoc]; rfl
      show List.foldl _ ((pre ++ r :: rest).toArray.setIfInBounds (off + j) a) _ = _
      rw [e, ih off (j + 1) (pre ++ [a]) rest (by simp; omega) (by simpa using h2)]
      simp

theorem fill_rows (size : Nat) (cs : List (Array Value)) : ∀ (k : Nat) (pre rest : List Value), pre.length = k * size → rest.length = cs.length * size → (∀ c ∈ cs, c.size = size) →
    Instr.fill (fun i => some (i * size, size)) (pre ++ rest).toArray ((cs.zipIdx k).map fun x => (x.2, Value.agg x.1)) = some (pre ++ cs.flatMap (·.toList)).toArray := by
  induction cs with
  | nil => intro k pre rest h1 h2 _; simp at h2; subst h2; simp [Instr.fill]
  | cons c cs ih =>
    intro k pre rest h1 h2 h3
    have hc : c.size = size := h3 c (by simp)
    rw [List.length_cons, Nat.succ_mul] at h2
    rw [List.zipIdx_cons, List.map_cons]
    unfold Instr.fill
    have hv : (Value.agg c).cells = c := rfl
    simp only [hv, hc]
    rw [if_neg (by simp; omega)]
    have e : c.zipIdx.foldl (fun (cs : Array Value) (x : Value × Nat) => cs.setIfInBounds (k * size + x.2) x.1) (pre ++ rest).toArray = (pre ++ c.toList ++ rest.drop size).toArray := by
      rw [← Array.foldl_toList, Array.toList_zipIdx, fold_set c.toList (k * size) 0 pre rest (by omega) (by simp; omega)]
      simp [hc]
    have := ih (k + 1) (pre ++ c.toList) (rest.drop size) (by simp [hc, h1, Nat.succ_mul]) (by simp; omega) (fun c' h' => h3 c' (by simp [h']))
    rw [List.flatMap_cons, ← List.append_assoc, ← this, ← e]

end Go.Proofs.YtolififimldmlaaGreat

set_option linter.unusedVariables false
set_option linter.unusedSimpArgs false
namespace Go.Proofs.YtolififimldmlaaGreat
open Go.RowKit
attribute [local go_sem ↓] Go.wp_at_zero Go.wp_at_succ

def exLine : Ln := ⟨7, 1, [97]⟩
def exSay : Fr := ⟨1, 0, 0, 0, 0, 0, exLine, []⟩
def exPrepare : Fr := ⟨2, 0, 0, 1, 0, 0, exLine, []⟩
def exHold : Fr := ⟨3, 1, 0, 1, 0, 0, Ln.zero, []⟩
def exChange : Fr := ⟨5, 2, 1, 0, 0, 0, Ln.zero, []⟩
def exSay2 : Fr := ⟨1, 0, 0, 0, 0, 0, ⟨7, 2, []⟩, []⟩

/-- A step with a kind, a keeper, a text, a frame, a configuration, a number. -/
def exOp (k n : Int) (s : List UInt8) (f : Fr) (c1 c2 c3 a : Int) : OpG := ⟨k, n, s, f, none, 0, c1, c2, c3, a⟩

/-- The example's script. -/
def exOps (say prepare hold change say2 : List UInt8) : List OpG :=
  [exOp 1 0 [] exSay 0 0 0 0, exOp 1 0 [] Fr.zero 0 0 0 0, exOp 2 0 say Fr.zero 0 0 0 0, exOp 2 0 say.tail Fr.zero 0 0 0 0, exOp 3 0 [] Fr.zero 3 0 5 0, exOp 3 0 [] Fr.zero 0 0 0 0, exOp 3 0 [] Fr.zero 3 1 2 0, exOp 4 0 [] Fr.zero 0 0 0 0,
   exOp 9 0 say Fr.zero 0 0 0 0, exOp 6 0 [] Fr.zero 0 0 0 0, exOp 9 0 hold Fr.zero 0 0 0 0, exOp 10 0 [] Fr.zero 0 0 0 0, exOp 5 0 [] Fr.zero 0 0 0 0, exOp 9 0 say Fr.zero 0 0 0 0, exOp 9 1 prepare Fr.zero 0 0 0 0, exOp 6 1 [] Fr.zero 0 0 0 0,
   exOp 7 1 [] Fr.zero 0 0 0 0, exOp 4 1 [] Fr.zero 0 0 0 0, exOp 10 1 [] Fr.zero 0 0 0 0, exOp 10 1 [] Fr.zero 0 0 0 0, exOp 9 1 change Fr.zero 0 0 0 0, exOp 4 1 [] Fr.zero 0 0 0 0, exOp 8 0 [] Fr.zero 0 0 0 1, exOp 9 0 say2 Fr.zero 0 0 0 0,
   exOp 6 0 [] Fr.zero 0 0 0 2, exOp 4 0 [] Fr.zero 0 0 0 0, exOp 7 0 [] Fr.zero 0 0 0 2, exOp 4 0 [] Fr.zero 0 0 0 0]

theorem exOps_lines (a b c d e : List UInt8) : ∀ o ∈ exOps a b c d e, o.f.lines = [] := by
  unfold exOps
  simp [exOp, exSay, Fr.zero]
theorem exOps_small (a b c d e : List UInt8) (ha : a.length ≤ 9000000) (hb : b.length ≤ 9000000) (hc : c.length ≤ 9000000) (hd : d.length ≤ 9000000) (he : e.length ≤ 9000000) : ∀ o ∈ exOps a b c d e, o.small := by
  have ht : a.length ≤ 9000000 + 1 := by omega
  unfold exOps OpG.small
  simp [exOp, exSay, Fr.zero, ha, hb, hc, hd, he, ht]
theorem exOps_len (a b c d e : List UInt8) : (exOps a b c d e).length = 28 := rfl

def opCells (ops : List OpG) : List Value := ops.flatMap fun o => o.cells.toList
theorem opCells_at (ops : List OpG) : ∀ (j r : Nat) (hj : j < ops.length), r < 17 → (opCells ops)[j * 17 + r]? = ops[j].cells[r]? := by
  induction ops with
  | nil => intro j r hj; exact absurd hj (by simp)
  | cons a l ih =>
    intro j r hj hr
    unfold opCells at *
    rw [List.flatMap_cons]
    have hlen : a.cells.toList.length = 17 := rfl
    cases j with
    | zero => rw [List.getElem?_append_left (by omega), Nat.zero_mul, Nat.zero_add, Array.getElem?_toList]; rfl
    | succ j =>
      rw [List.getElem?_append_right (by omega), hlen, show (j + 1) * 17 + r - 17 = j * 17 + r from by omega, ih j r (by simp at hj; omega) hr]
      simp

theorem opsAt_of {w : World} {g : Nat} {ops : List OpG} {fz : Nat × Nat} (hb : w.heap[g]? = some (.cells (opCells ops).toArray 76 fz)) (hl : ∀ o ∈ ops, o.f.lines = []) : OpsAt w (some ⟨g, 0, none⟩) ops := fun j hj =>
  ⟨g, 0, rfl, fun r hr => by rw [Nat.zero_add, cell_of_heap hb, List.getElem?_toArray, opCells_at ops j r hj hr], by rw [hl _ (List.getElem_mem hj)]; exact fun i hi => absurd hi (by simp)⟩

theorem ex_below_cast {B : Nat} {a x x' : World} (h : Below B a x) (e1 : x'.heap = x.heap) (e2 : x'.os = x.os) (e3 : x'.tape = x.tape) (e4 : x'.output = x.output) : Below B a x' :=
  ⟨e2.trans h.os, e3.trans h.tape, e4.trans h.output, by rw [e1]; exact h.size, fun k hk => by rw [e1]; exact h.block k hk⟩
theorem ex_below_on {a x x' y : World} (h : Below a.heap.size a x) (g : Below x'.heap.size x' y) (e1 : x'.heap = x.heap) (e2 : x'.os = x.os) (e3 : x'.tape = x.tape) (e4 : x'.output = x.output) : Below a.heap.size a y :=
  (ex_below_cast h e1 e2 e3 e4).trans (g.mono (by rw [e1]; exact h.size))
theorem cell_alloc_keep {w : World} {a : Addr} {v : Value} (h : w.cell? a = some v) (o : Obj) : (w.alloc o).cell? a = some v := (World.cell?_alloc_lt _ _ _ (World.block_lt_of_cell? _ _ h)).trans h

theorem frame_gen (k fr v p a l c t : Int) (s : List UInt8) (w : World) :
    Calls Tryz.prog 29 #[.agg #[.int .i64 k, .int .i64 fr, .int .i64 v, .int .i64 p, .int .i64 a, .int .i64 l, .int .i64 c, .int .i64 t, .string ⟨s.toArray⟩, .slice none 0 0]] w
      fun e w' => e = .returned (.string ⟨(packS ⟨k, fr, v, p, a, l, ⟨c, t, s⟩, []⟩).toArray⟩) ∧ Below w.heap.size w w' :=
  frame_any ⟨k, fr, v, p, a, l, ⟨c, t, s⟩, []⟩ none 0 w (fun j hj => absurd hj (by simp)) (by simp) (by simp)

/-- The rows of a slice literal, one after another. -/
def rowsOf (cs : List (Array Value)) : Array Value := (cs.flatMap (·.toList)).toArray
theorem run_bs28 (w : World) (c0 c1 c2 c3 c4 c5 c6 c7 c8 c9 c10 c11 c12 c13 c14 c15 c16 c17 c18 c19 c20 c21 c22 c23 c24 c25 c26 c27 : Array Value) (h : ∀ c ∈ [c0, c1, c2, c3, c4, c5, c6, c7, c8, c9, c10, c11, c12, c13, c14, c15, c16, c17, c18, c19, c20, c21, c22, c23, c24, c25, c26, c27], c.size = 17) :
    (Instr.buildSlice 22 28 #[(0, .agg c0), (1, .agg c1), (2, .agg c2), (3, .agg c3), (4, .agg c4), (5, .agg c5), (6, .agg c6), (7, .agg c7), (8, .agg c8), (9, .agg c9), (10, .agg c10), (11, .agg c11), (12, .agg c12), (13, .agg c13), (14, .agg c14), (15, .agg c15), (16, .agg c16), (17, .agg c17), (18, .agg c18), (19, .agg c19), (20, .agg c20), (21, .agg c21), (22, .agg c22), (23, .agg c23), (24, .agg c24), (25, .agg c25), (26, .agg c26), (27, .agg c27)]).run Tryz.prog w = .ok (.slice (some ⟨w.heap.size, 0, none⟩) 28 28) (w.alloc (.cells (rowsOf [c0, c1, c2, c3, c4, c5, c6, c7, c8, c9, c10, c11, c12, c13, c14, c15, c16, c17, c18, c19, c20, c21, c22, c23, c24, c25, c26, c27]) 76)) := by
  have hi : (Tryz.prog.info? 76).map (fun i => (i.zero.isSome, i.size)) = some (true, 17) := by kernel_rfl
  cases hie : Tryz.prog.info? 76 with
  | none => rw [hie] at hi; cases hi
  | some ie =>
    rw [hie, Option.map_some, Option.some.injEq, Prod.mk.injEq] at hi
    obtain ⟨hz, hs⟩ := hi
    obtain ⟨z, hz⟩ := Option.isSome_iff_exists.1 hz
    refine run_buildSlice w _ _ 28 _ (rowsOf [c0, c1, c2, c3, c4, c5, c6, c7, c8, c9, c10, c11, c12, c13, c14, c15, c16, c17, c18, c19, c20, c21, c22, c23, c24, c25, c26, c27]) ie z (by kernel_rfl) hie hz (by omega) (by omega) ?_
    rw [hs]
    have hl : ((Array.range (28 * 17)).map (z.cells[· % z.cells.size]!)) = (([] : List Value) ++ ((Array.range (28 * 17)).map (z.cells[· % z.cells.size]!)).toList).toArray := by rw [List.nil_append, Array.toArray_toList]
    rw [hl]
    exact fill_rows 17 [c0, c1, c2, c3, c4, c5, c6, c7, c8, c9, c10, c11, c12, c13, c14, c15, c16, c17, c18, c19, c20, c21, c22, c23, c24, c25, c26, c27] 0 [] _ (by simp) (by simp) h
attribute [-go_sem] Instr.buildSlice
attribute [local go_sem] run_bs28

set_option maxRecDepth 100000 in
set_option maxHeartbeats 4000000 in
theorem example_any (least last : Int) (lead : Bool) (w : World)
    (HPL : ∀ (x : World) (g : Nat), OpsAt x (some ⟨g, 0, none⟩) (exOps (packS exSay) (packS exPrepare) (packS exHold) (packS exChange) (packS exSay2)) → Calls Tryz.prog 13 #[.slice (some ⟨g, 0, none⟩) 28 28, .int .i64 least, .int .i64 last, .bool lead] x fun e y => e = .returned (.int .i64 (-1)) ∧ Below x.heap.size x y) :
    Calls Tryz.prog 12 #[.int .i64 least, .int .i64 last, .bool lead] w fun e y => e = .returned (.bool true) ∧ Below w.heap.size w y := by
  have HP := hid HPL
  clear HPL
  have hs1 : 1 ≤ (packS exSay).length := by decide +kernel
  go_enter Tryz.func12, Tryz.ntmps12
  go_wp2_with fail
  refine (frame_gen 1 0 0 0 0 0 7 1 [97] _).mono ?_
  rintro e w1 ⟨rfl, hb1⟩
  have HW1 : Hid (Below w.heap.size w w1) := ((Below.refl _ w).alloc (Nat.le_refl _) _).trans (hb1.mono (by simp))
  have hz1 : w.heap.size < w1.heap.size := by have := hb1.size; simp at this; omega
  obtain ⟨q1, q2⟩ := bcell hb1
  clear hb1 q2
  have c0 : w1.cell? ⟨w.heap.size, 0, none⟩ = some (.int .i64 7) := by rw [q1 _ _ (by simp)]; exact World.cell?_alloc_new _ _ _ _
  have c1 : w1.cell? ⟨w.heap.size, 1, none⟩ = some (.int .i64 1) := by rw [q1 _ _ (by simp)]; exact World.cell?_alloc_new _ _ _ _
  have c2 : w1.cell? ⟨w.heap.size, 2, none⟩ = some (.string ⟨#[97]⟩) := by rw [q1 _ _ (by simp)]; exact World.cell?_alloc_new _ _ _ _
  clear q1
  change _ at hs1
  have hsay : Hid (packS ⟨1, 0, 0, 0, 0, 0, ⟨7, 1, [97]⟩, []⟩ = packS exSay) := rfl
  rw [hsay.out]
  generalize packS exSay = sb at *
  go_wp2_with fail
  refine (frame_gen 2 0 0 1 0 0 7 1 [97] _).mono ?_
  rintro e w2 ⟨rfl, hb2⟩
  have hprep : Hid (packS ⟨2, 0, 0, 1, 0, 0, ⟨7, 1, [97]⟩, []⟩ = packS exPrepare) := rfl
  rw [hprep.out]
  generalize packS exPrepare = pb at *
  have HW2 := hid (HW1.out.trans (hb2.mono HW1.out.size))
  have d0 : w2.cell? ⟨w.heap.size, 0, none⟩ = some (.int .i64 7) := (hb2.cell (p := ⟨w.heap.size, 0, none⟩) hz1).trans c0
  have d1 : w2.cell? ⟨w.heap.size, 1, none⟩ = some (.int .i64 1) := (hb2.cell (p := ⟨w.heap.size, 1, none⟩) hz1).trans c1
  have d2 : w2.cell? ⟨w.heap.size, 2, none⟩ = some (.string ⟨#[97]⟩) := (hb2.cell (p := ⟨w.heap.size, 2, none⟩) hz1).trans c2
  have hz2 : w.heap.size < w2.heap.size := by have := hb2.size; omega
  clear hb2 c0 c1 c2
  go_wp2
  obtain ⟨X, hX⟩ : ∃ X, X = (w2.alloc (.cells #[.int .i64 3, .int .i64 0, .int .i64 5] 63)).alloc (.cells #[.int .i64 3, .int .i64 1, .int .i64 2] 63) := ⟨_, rfl⟩
  have HX : Hid (Below w.heap.size w X) := by show Below _ _ _; rw [hX]; exact (HW2.out.alloc (by omega) _).alloc (by rw [World.size_alloc]; omega) _
  have x0 : X.cell? ⟨w.heap.size, 0, none⟩ = some (.int .i64 7) := by rw [hX, World.cell?_alloc_past _ _ _ (by rw [World.size_alloc]; omega), World.cell?_alloc_past _ _ _ hz2]; exact d0
  have x1 : X.cell? ⟨w.heap.size, 1, none⟩ = some (.int .i64 1) := by rw [hX, World.cell?_alloc_past _ _ _ (by rw [World.size_alloc]; omega), World.cell?_alloc_past _ _ _ hz2]; exact d1
  have x2 : X.cell? ⟨w.heap.size, 2, none⟩ = some (.string ⟨#[97]⟩) := by rw [hX, World.cell?_alloc_past _ _ _ (by rw [World.size_alloc]; omega), World.cell?_alloc_past _ _ _ hz2]; exact d2
  have yy : ∀ j, X.cell? ⟨w2.heap.size, j, none⟩ = (#[Value.int .i64 3, .int .i64 0, .int .i64 5] : Array Value)[j]? := fun j => by rw [hX, World.cell?_alloc_past _ _ _ (by rw [World.size_alloc]; omega)]; exact World.cell?_alloc_new _ _ _ _
  have y0 : X.cell? ⟨w2.heap.size, 0, none⟩ = some (.int .i64 3) := yy 0
  have y1 : X.cell? ⟨w2.heap.size, 1, none⟩ = some (.int .i64 0) := yy 1
  have y2 : X.cell? ⟨w2.heap.size, 2, none⟩ = some (.int .i64 5) := yy 2
  have zz : ∀ j, X.cell? ⟨w2.heap.size + 1, j, none⟩ = (#[Value.int .i64 3, .int .i64 1, .int .i64 2] : Array Value)[j]? := fun j => by rw [hX, World.cell?_alloc_at _ _ _ _ (by rw [World.size_alloc])]
  have z0 : X.cell? ⟨w2.heap.size + 1, 0, none⟩ = some (.int .i64 3) := zz 0
  have z1 : X.cell? ⟨w2.heap.size + 1, 1, none⟩ = some (.int .i64 1) := zz 1
  have z2 : X.cell? ⟨w2.heap.size + 1, 2, none⟩ = some (.int .i64 2) := zz 2
  rw [← hX]
  clear hX yy zz d0 d1 d2 HW2 HW1
  have b1 : (1 : Int) ≤ (sb.length : Int) := by omega
  generalize w2.heap.size = B2 at *
  have hx1 : (⟨sb.toArray⟩ : ByteArray).extract 1 sb.length = ⟨(sb.drop 1).toArray⟩ := by rw [extr, List.take_of_length_le (by rw [List.length_drop]; omega)]
  clear hz1 hz2 hs1 hsay hprep
  go_region_held (fun x => x.cell? ⟨w.heap.size, 0, none⟩ = some (.int .i64 7) ∧ x.cell? ⟨w.heap.size, 1, none⟩ = some (.int .i64 1) ∧ x.cell? ⟨w.heap.size, 2, none⟩ = some (.string ⟨#[97]⟩) ∧ x.cell? ⟨B2, 0, none⟩ = some (.int .i64 3) ∧ x.cell? ⟨B2, 1, none⟩ = some (.int .i64 0) ∧ x.cell? ⟨B2, 2, none⟩ = some (.int .i64 5) ∧
    x.cell? ⟨B2 + 1, 0, none⟩ = some (.int .i64 3) ∧ x.cell? ⟨B2 + 1, 1, none⟩ = some (.int .i64 1) ∧ x.cell? ⟨B2 + 1, 2, none⟩ = some (.int .i64 2)) (first | go_keep | (go_split_ands; refine ⟨?_, ?_, ?_, ?_, ?_, ?_, ?_, ?_, ?_⟩ <;> (refine (hbf.cell (World.block_lt_of_cell? _ _ (by assumption))).trans ?_; assumption)) | (go_split_ands; refine ⟨?_, ?_, ?_, ?_, ?_, ?_, ?_, ?_, ?_⟩ <;> (refine cell_alloc_keep ?_ _; assumption)))
    (first | (go_at_call 29; refine (frame_gen _ _ _ _ _ _ _ _ _ _).mono ?_; rintro e wf ⟨rfl, hbf⟩; have HX := hid (ex_below_on HX.out hbf rfl rfl rfl rfl)))
  rename_i hh
  clear hh
  generalize hY : World.alloc wf _ = Y
  have hops : Hid (OpsAt Y (some ⟨wf.heap.size, 0, none⟩) (exOps sb pb (packS exHold) (packS exChange) (packS exSay2))) := by
    rw [← hY]
    exact opsAt_of (heap_alloc_new wf _) (exOps_lines _ _ _ _ _)
  have HY : Hid (Below w.heap.size w Y) := by rw [← hY]; exact HX.out.alloc HX.out.size _
  clear hY
  go_wp2_with fail
  refine (HP.out _ _ hops.out).mono ?_
  rintro e y ⟨rfl, hb⟩
  go_wp2
  go_ret
  exact ⟨rfl, HY.out.trans (hb.mono HY.out.size)⟩

theorem exampleF (HPS : PackSaid) (HUS : UnpackSaid) (w : World) : Calls Tryz.prog 12 #[.int .i64 1, .int .i64 2, .bool false] w fun e y => e = .returned (.bool true) ∧ Below w.heap.size w y :=
  example_any 1 2 false w fun x g h => by
    have h1 := exOps_small _ _ _ _ _ (show (packS exSay).length ≤ 9000000 by decide +kernel) (show (packS exPrepare).length ≤ 9000000 by decide +kernel) (show (packS exHold).length ≤ 9000000 by decide +kernel) (show (packS exChange).length ≤ 9000000 by decide +kernel) (show (packS exSay2).length ≤ 9000000 by decide +kernel)
    have h2 := playsF HPS HUS x (some ⟨g, 0, none⟩) 28 _ h h1 (by rw [exOps_len]; decide)
    rw [exOps_len] at h2
    exact h2

end Go.Proofs.YtolififimldmlaaGreat
