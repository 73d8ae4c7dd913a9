import Derived.Test.YtolififimldmlaaGreatPart29
set_option linter.unusedVariables false
set_option linter.unusedSimpArgs false
namespace Go.Proofs.YtolififimldmlaaGreat
open Go.RowKit
attribute [local go_sem ↓] Go.wp_at_zero Go.wp_at_succ

def exLine : Ln := ⟨7, 1, [97]⟩
def exSay : Fr := ⟨1, 0, 0, 0, 0, 0, exLine, []⟩
def exPrepare : Fr := ⟨2, 0, 0, 1, 0, 0, exLine, []⟩
def exHold : Fr := ⟨3, 1, 0, 1, 0, 0, Ln.zero, []⟩
def exChange : Fr := ⟨5, 2, 1, 0, 0, 0, Ln.zero, []⟩
def exSay2 : Fr := ⟨1, 0, 0, 0, 0, 0, ⟨7, 2, []⟩, []⟩

/-- A step with a kind, a keeper, a text, a frame, a configuration, a number. -/
def exOp (k n : Int) (s : List UInt8) (f : Fr) (c1 c2 c3 a : Int) : OpG := ⟨k, n, s, f, none, 0, c1, c2, c3, a⟩

/-- The example's script. -/
def exOps (say prepare hold change say2 : List UInt8) : List OpG :=
  [exOp 1 0 [] exSay 0 0 0 0, exOp 1 0 [] Fr.zero 0 0 0 0, exOp 2 0 say Fr.zero 0 0 0 0, exOp 2 0 say.tail Fr.zero 0 0 0 0, exOp 3 0 [] Fr.zero 3 0 5 0, exOp 3 0 [] Fr.zero 0 0 0 0, exOp 3 0 [] Fr.zero 3 1 2 0, exOp 4 0 [] Fr.zero 0 0 0 0,
   exOp 9 0 say Fr.zero 0 0 0 0, exOp 6 0 [] Fr.zero 0 0 0 0, exOp 9 0 hold Fr.zero 0 0 0 0, exOp 10 0 [] Fr.zero 0 0 0 0, exOp 5 0 [] Fr.zero 0 0 0 0, exOp 9 0 say Fr.zero 0 0 0 0, exOp 9 1 prepare Fr.zero 0 0 0 0, exOp 6 1 [] Fr.zero 0 0 0 0,
   exOp 7 1 [] Fr.zero 0 0 0 0, exOp 4 1 [] Fr.zero 0 0 0 0, exOp 10 1 [] Fr.zero 0 0 0 0, exOp 10 1 [] Fr.zero 0 0 0 0, exOp 9 1 change Fr.zero 0 0 0 0, exOp 4 1 [] Fr.zero 0 0 0 0, exOp 8 0 [] Fr.zero 0 0 0 1, exOp 9 0 say2 Fr.zero 0 0 0 0,
   exOp 6 0 [] Fr.zero 0 0 0 2, exOp 4 0 [] Fr.zero 0 0 0 0, exOp 7 0 [] Fr.zero 0 0 0 2, exOp 4 0 [] Fr.zero 0 0 0 0]

theorem exOps_lines (a b c d e : List UInt8) : ∀ o ∈ exOps a b c d e, o.f.lines = [] := by
  unfold exOps
  simp [exOp, exSay, Fr.zero]
theorem exOps_small (a b c d e : List UInt8) (ha : a.length ≤ 9000000) (hb : b.length ≤ 9000000) (hc : c.length ≤ 9000000) (hd : d.length ≤ 9000000) (he : e.length ≤ 9000000) : ∀ o ∈ exOps a b c d e, o.small := by
  have ht : a.length ≤ 9000000 + 1 := by omega
  unfold exOps OpG.small
  simp [exOp, exSay, Fr.zero, ha, hb, hc, hd, he, ht]
theorem exOps_len (a b c d e : List UInt8) : (exOps a b c d e).length = 28 := rfl

def opCells (ops : List OpG) : List Value := ops.flatMap fun o => o.cells.toList
theorem opCells_at (ops : List OpG) : ∀ (j r : Nat) (hj : j < ops.length), r < 17 → (opCells ops)[j * 17 + r]? = ops[j].cells[r]? := by
  induction ops with
  | nil => intro j r hj; exact absurd hj (by simp)
  | cons a l ih =>
    intro j r hj hr
    unfold opCells at *
    rw [List.flatMap_cons]
    have hlen : a.cells.toList.length = 17 := rfl
    cases j with
    | zero => rw [List.getElem?_append_left (by omega), Nat.zero_mul, Nat.zero_add, Array.getElem?_toList]; rfl
    | succ j =>
      rw [List.getElem?_append_right (by omega), hlen, show (j + 1) * 17 + r - 17 = j * 17 + r from by omega, ih j r (by simp at hj; omega) hr]
      simp

theorem opsAt_of {w : World} {g : Nat} {ops : List OpG} {fz : Nat × Nat} (hb : w.heap[g]? = some (.cells (opCells ops).toArray 76 fz)) (hl : ∀ o ∈ ops, o.f.lines = []) : OpsAt w (some ⟨g, 0, none⟩) ops := fun j hj =>
  ⟨g, 0, rfl, fun r hr => by rw [Nat.zero_add, cell_of_heap hb, List.getElem?_toArray, opCells_at ops j r hj hr], by rw [hl _ (List.getElem_mem hj)]; exact fun i hi => absurd hi (by simp)⟩

theorem ex_below_cast {B : Nat} {a x x' : World} (h : Below B a x) (e1 : x'.heap = x.heap) (e2 : x'.os = x.os) (e3 : x'.tape = x.tape) (e4 : x'.output = x.output) : Below B a x' :=
  ⟨e2.trans h.os, e3.trans h.tape, e4.trans h.output, by rw [e1]; exact h.size, fun k hk => by rw [e1]; exact h.block k hk⟩
theorem ex_below_on {a x x' y : World} (h : Below a.heap.size a x) (g : Below x'.heap.size x' y) (e1 : x'.heap = x.heap) (e2 : x'.os = x.os) (e3 : x'.tape = x.tape) (e4 : x'.output = x.output) : Below a.heap.size a y :=
  (ex_below_cast h e1 e2 e3 e4).trans (g.mono (by rw [e1]; exact h.size))
theorem cell_alloc_keep {w : World} {a : Addr} {v : Value} (h : w.cell? a = some v) (o : Obj) : (w.alloc o).cell? a = some v := (World.cell?_alloc_lt _ _ _ (World.block_lt_of_cell? _ _ h)).trans h

theorem frame_gen (k fr v p a l c t : Int) (s : List UInt8) (w : World) :
    Calls Tryz.prog 29 #[.agg #[.int .i64 k, .int .i64 fr, .int .i64 v, .int .i64 p, .int .i64 a, .int .i64 l, .int .i64 c, .int .i64 t, .string ⟨s.toArray⟩, .slice none 0 0]] w
      fun e w' => e = .returned (.string ⟨(packS ⟨k, fr, v, p, a, l, ⟨c, t, s⟩, []⟩).toArray⟩) ∧ Below w.heap.size w w' :=
  frame_any ⟨k, fr, v, p, a, l, ⟨c, t, s⟩, []⟩ none 0 w (fun j hj => absurd hj (by simp)) (by simp) (by simp)

/-- The rows of a slice literal, one after another. -/
def rowsOf (cs : List (Array Value)) : Array Value := (cs.flatMap (·.toList)).toArray
theorem run_bs28 (w : World) (c0 c1 c2 c3 c4 c5 c6 c7 c8 c9 c10 c11 c12 c13 c14 c15 c16 c17 c18 c19 c20 c21 c22 c23 c24 c25 c26 c27 : Array Value) (h : ∀ c ∈ [c0, c1, c2, c3, c4, c5, c6, c7, c8, c9, c10, c11, c12, c13, c14, c15, c16, c17, c18, c19, c20, c21, c22, c23, c24, c25, c26, c27], c.size = 17) :
    (Instr.buildSlice 22 28 #[(0, .agg c0), (1, .agg c1), (2, .agg c2), (3, .agg c3), (4, .agg c4), (5, .agg c5), (6, .agg c6), (7, .agg c7), (8, .agg c8), (9, .agg c9), (10, .agg c10), (11, .agg c11), (12, .agg c12), (13, .agg c13), (14, .agg c14), (15, .agg c15), (16, .agg c16), (17, .agg c17), (18, .agg c18), (19, .agg c19), (20, .agg c20), (21, .agg c21), (22, .agg c22), (23, .agg c23), (24, .agg c24), (25, .agg c25), (26, .agg c26), (27, .agg c27)]).run Tryz.prog w = .ok (.slice (some ⟨w.heap.size, 0, none⟩) 28 28) (w.alloc (.cells (rowsOf [c0, c1, c2, c3, c4, c5, c6, c7, c8, c9, c10, c11, c12, c13, c14, c15, c16, c17, c18, c19, c20, c21, c22, c23, c24, c25, c26, c27]) 76)) := by
  have hi : (Tryz.prog.info? 76).map (fun i => (i.zero.isSome, i.size)) = some (true, 17) := by kernel_rfl
  cases hie : Tryz.prog.info? 76 with
  | none => rw [hie] at hi; cases hi
  | some ie =>
    rw [hie, Option.map_some, Option.some.injEq, Prod.mk.injEq] at hi
    obtain ⟨hz, hs⟩ := hi
    obtain ⟨z, hz⟩ := Option.isSome_iff_exists.1 hz
    refine run_buildSlice w _ _ 28 _ (rowsOf [c0, c1, c2, c3, c4, c5, c6, c7, c8, c9, c10, c11, c12, c13, c14, c15, c16, c17, c18, c19, c20, c21, c22, c23, c24, c25, c26, c27]) ie z (by kernel_rfl) hie hz (by omega) (by omega) ?_
    rw [hs]
    have hl : ((Array.range (28 * 17)).map (z.cells[· % z.cells.size]!)) = (([] : List Value) ++ ((Array.range (28 * 17)).map (z.cells[· % z.cells.size]!)).toList).toArray := by rw [List.nil_append, Array.toArray_toList]
    rw [hl]
    exact fill_rows 17 [c0, c1, c2, c3, c4, c5, c6, c7, c8, c9, c10, c11, c12, c13, c14, c15, c16, c17, c18, c19, c20, c21, c22, c23, c24, c25, c26, c27] 0 [] _ (by simp) (by simp) h
attribute [-go_sem] Instr.buildSlice
attribute [local go_sem] run_bs28

set_option maxRecDepth 100000 in
set_option maxHeartbeats 4000000 in
theorem example_any (least last : Int) (lead : Bool) (w : World)
    (HPL : ∀ (x : World) (g : Nat), OpsAt x (some ⟨g, 0, none⟩) (exOps (packS exSay) (packS exPrepare) (packS exHold) (packS exChange) (packS exSay2)) → Calls Tryz.prog 13 #[.slice (some ⟨g, 0, none⟩) 28 28, .int .i64 least, .int .i64 last, .bool lead] x fun e y => e = .returned (.int .i64 (-1)) ∧ Below x.heap.size x y) :
    Calls Tryz.prog 12 #[.int .i64 least, .int .i64 last, .bool lead] w fun e y => e = .returned (.bool true) ∧ Below w.heap.size w y := by
  have HP := hid HPL
  clear HPL
  have hs1 : 1 ≤ (packS exSay).length := by decide +kernel
  go_enter Tryz.func12, Tryz.ntmps12
  go_wp2_with fail
  refine (frame_gen 1 0 0 0 0 0 7 1 [97] _).mono ?_
  rintro e w1 ⟨rfl, hb1⟩
  have HW1 : Hid (Below w.heap.size w w1) := ((Below.refl _ w).alloc (Nat.le_refl _) _).trans (hb1.mono (by simp))
  have hz1 : w.heap.size < w1.heap.size := by have := hb1.size; simp at this; omega
  obtain ⟨q1, q2⟩ := bcell hb1
  clear hb1 q2
  have c0 : w1.cell? ⟨w.heap.size, 0, none⟩ = some (.int .i64 7) := by rw [q1 _ _ (by simp)]; exact World.cell?_alloc_new _ _ _ _
  have c1 : w1.cell? ⟨w.heap.size, 1, none⟩ = some (.int .i64 1) := by rw [q1 _ _ (by simp)]; exact World.cell?_alloc_new _ _ _ _
  have c2 : w1.cell? ⟨w.heap.size, 2, none⟩ = some (.string ⟨#[97]⟩) := by rw [q1 _ _ (by simp)]; exact World.cell?_alloc_new _ _ _ _
  clear q1
  change _ at hs1
  have hsay : Hid (packS ⟨1, 0, 0, 0, 0, 0, ⟨7, 1, [97]⟩, []⟩ = packS exSay) := rfl
  rw [hsay.out]
  generalize packS exSay = sb at *
  go_wp2_with fail
  refine (frame_gen 2 0 0 1 0 0 7 1 [97] _).mono ?_
  rintro e w2 ⟨rfl, hb2⟩
  have hprep : Hid (packS ⟨2, 0, 0, 1, 0, 0, ⟨7, 1, [97]⟩, []⟩ = packS exPrepare) := rfl
  rw [hprep.out]
  generalize packS exPrepare = pb at *
  have HW2 := hid (HW1.out.trans (hb2.mono HW1.out.size))
  have d0 : w2.cell? ⟨w.heap.size, 0, none⟩ = some (.int .i64 7) := (hb2.cell (p := ⟨w.heap.size, 0, none⟩) hz1).trans c0
  have d1 : w2.cell? ⟨w.heap.size, 1, none⟩ = some (.int .i64 1) := (hb2.cell (p := ⟨w.heap.size, 1, none⟩) hz1).trans c1
  have d2 : w2.cell? ⟨w.heap.size, 2, none⟩ = some (.string ⟨#[97]⟩) := (hb2.cell (p := ⟨w.heap.size, 2, none⟩) hz1).trans c2
  have hz2 : w.heap.size < w2.heap.size := by have := hb2.size; omega
  clear hb2 c0 c1 c2
  go_wp2
  obtain ⟨X, hX⟩ : ∃ X, X = (w2.alloc (.cells #[.int .i64 3, .int .i64 0, .int .i64 5] 63)).alloc (.cells #[.int .i64 3, .int .i64 1, .int .i64 2] 63) := ⟨_, rfl⟩
  have HX : Hid (Below w.heap.size w X) := by show Below _ _ _; rw [hX]; exact (HW2.out.alloc (by omega) _).alloc (by rw [World.size_alloc]; omega) _
  have x0 : X.cell? ⟨w.heap.size, 0, none⟩ = some (.int .i64 7) := by rw [hX, World.cell?_alloc_past _ _ _ (by rw [World.size_alloc]; omega), World.cell?_alloc_past _ _ _ hz2]; exact d0
  have x1 : X.cell? ⟨w.heap.size, 1, none⟩ = some (.int .i64 1) := by rw [hX, World.cell?_alloc_past _ _ _ (by rw [World.size_alloc]; omega), World.cell?_alloc_past _ _ _ hz2]; exact d1
  have x2 : X.cell? ⟨w.heap.size, 2, none⟩ = some (.string ⟨#[97]⟩) := by rw [hX, World.cell?_alloc_past _ _ _ (by rw [World.size_alloc]; omega), World.cell?_alloc_past _ _ _ hz2]; exact d2
  have yy : ∀ j, X.cell? ⟨w2.heap.size, j, none⟩ = (#[Value.int .i64 3, .int .i64 0, .int .i64 5] : Array Value)[j]? := fun j => by rw [hX, World.cell?_alloc_past _ _ _ (by rw [World.size_alloc]; omega)]; exact World.cell?_alloc_new _ _ _ _
  have y0 : X.cell? ⟨w2.heap.size, 0, none⟩ = some (.int .i64 3) := yy 0
  have y1 : X.cell? ⟨w2.heap.size, 1, none⟩ = some (.int .i64 0) := yy 1
  have y2 : X.cell? ⟨w2.heap.size, 2, none⟩ = some (.int .i64 5) := yy 2
  have zz : ∀ j, X.cell? ⟨w2.heap.size + 1, j, none⟩ = (#[Value.int .i64 3, .int .i64 1, .int .i64 2] : Array Value)[j]? := fun j => by rw [hX, World.cell?_alloc_at _ _ _ _ (by rw [World.size_alloc])]
  have z0 : X.cell? ⟨w2.heap.size + 1, 0, none⟩ = some (.int .i64 3) := zz 0
  have z1 : X.cell? ⟨w2.heap.size + 1, 1, none⟩ = some (.int .i64 1) := zz 1
  have z2 : X.cell? ⟨w2.heap.size + 1, 2, none⟩ = some (.int .i64 2) := zz 2
  rw [← hX]
  clear hX yy zz d0 d1 d2 HW2 HW1
  have b1 : (1 : Int) ≤ (sb.length : Int) := by omega
  generalize w2.heap.size = B2 at *
  have hx1 : (⟨sb.toArray⟩ : ByteArray).extract 1 sb.length = ⟨(sb.drop 1).toArray⟩ := by rw [extr, List.take_of_length_le (by rw [List.length_drop]; omega)]
  clear hz1 hz2 hs1 hsay hprep
  go_region_held (fun x => x.cell? ⟨w.heap.size, 0, none⟩ = some (.int .i64 7) ∧ x.cell? ⟨w.heap.size, 1, none⟩ = some (.int .i64 1) ∧ x.cell? ⟨w.heap.size, 2, none⟩ = some (.string ⟨#[97]⟩) ∧ x.cell? ⟨B2, 0, none⟩ = some (.int .i64 3) ∧ x.cell? ⟨B2, 1, none⟩ = some (.int .i64 0) ∧ x.cell? ⟨B2, 2, none⟩ = some (.int .i64 5) ∧
    x.cell? ⟨B2 + 1, 0, none⟩ = some (.int .i64 3) ∧ x.cell? ⟨B2 + 1, 1, none⟩ = some (.int .i64 1) ∧ x.cell? ⟨B2 + 1, 2, none⟩ = some (.int .i64 2)) (first | go_keep | (go_split_ands; refine ⟨?_, ?_, ?_, ?_, ?_, ?_, ?_, ?_, ?_⟩ <;> (refine (hbf.cell (World.block_lt_of_cell? _ _ (by assumption))).trans ?_; assumption)) | (go_split_ands; refine ⟨?_, ?_, ?_, ?_, ?_, ?_, ?_, ?_, ?_⟩ <;> (refine cell_alloc_keep ?_ _; assumption)))
    (first | (go_at_call 29; refine (frame_gen _ _ _ _ _ _ _ _ _ _).mono ?_; rintro e wf ⟨rfl, hbf⟩; have HX := hid (ex_below_on HX.out hbf rfl rfl rfl rfl)))
  rename_i hh
  clear hh
  generalize hY : World.alloc wf _ = Y
  have hops : Hid (OpsAt Y (some ⟨wf.heap.size, 0, none⟩) (exOps sb pb (packS exHold) (packS exChange) (packS exSay2))) := by
    rw [← hY]
    exact opsAt_of (heap_alloc_new wf _) (exOps_lines _ _ _ _ _)
  have HY : Hid (Below w.heap.size w Y) := by rw [← hY]; exact HX.out.alloc HX.out.size _
  clear hY
  go_wp2_with fail
  refine (HP.out _ _ hops.out).mono ?_
  rintro e y ⟨rfl, hb⟩
  go_wp2
  go_ret
  exact ⟨rfl, HY.out.trans (hb.mono HY.out.size)⟩

theorem exampleF (HPS : PackSaid) (HUS : UnpackSaid) (w : World) : Calls Tryz.prog 12 #[.int .i64 1, .int .i64 2, .bool false] w fun e y => e = .returned (.bool true) ∧ Below w.heap.size w y :=
  example_any 1 2 false w fun x g h => by
    have h1 := exOps_small _ _ _ _ _ (show (packS exSay).length ≤ 9000000 by decide +kernel) (show (packS exPrepare).length ≤ 9000000 by decide +kernel) (show (packS exHold).length ≤ 9000000 by decide +kernel) (show (packS exChange).length ≤ 9000000 by decide +kernel) (show (packS exSay2).length ≤ 9000000 by decide +kernel)
    have h2 := playsF HPS HUS x (some ⟨g, 0, none⟩) 28 _ h h1 (by rw [exOps_len]; decide)
    rw [exOps_len] at h2
    exact h2

end Go.Proofs.YtolififimldmlaaGreat

set_option linter.unusedVariables false
set_option linter.unusedSimpArgs false
namespace Go.Proofs.YtolififimldmlaaGreat
open Go.RowKit
attribute [local go_sem ↓] Go.wp_at_zero Go.wp_at_succ

theorem take_min (l : List UInt8) (keep : Int) : ∃ kk : Nat, min (max keep 0) (l.length : Int) = kk ∧ l.take kk = l.take keep.toNat := by
  refine ⟨(min (max keep 0) (l.length : Int)).toNat, by omega, ?_⟩
  rcases Int.lt_or_le (l.length : Int) keep with h | h
  · rw [show (min (max keep 0) (l.length : Int)).toNat = l.length from by omega, List.take_of_length_le (Nat.le_refl _), List.take_of_length_le (by omega)]
  · rw [show (min (max keep 0) (l.length : Int)).toNat = keep.toNat from by omega]

set_option maxRecDepth 100000 in
set_option maxHeartbeats 4000000 in
theorem disk_go (K : Nat) (kp me pa : Int) (d : List UInt8) (m : Mm) (arm : Int) (lost : List UInt8) (ag : Nat) (hs : Nat → Int) (gd : Option Nat) (cd : Nat) (gl : Option Nat) (cl : Nat) (gf : Option Nat) (cf : Nat) (w : World) (h : PK w K kp me pa d m arm lost ag hs gd cd gl cl gf cf) (hn : d.length + lost.length ≤ 9900000) (keep : Int) :
    Calls Tryz.prog 28 #[.pointer (some ⟨K, 0, none⟩), .int .i64 keep] w fun e w' => ∃ g c, e = .returned (sl g (d ++ lost.take keep.toNat).length c) ∧ OwnBytes w w' g c (d ++ lost.take keep.toNat) ∧ Below w.heap.size w w' := by
  obtain ⟨kk, hk, hkt⟩ := take_min lost keep
  have HB := hid (bytes_at K kp me pa d m arm lost ag hs gd cd gl cl gf cf w h hn keep kk hk)
  rw [hkt] at HB
  clear h hk hkt
  generalize d ++ lost.take keep.toNat = ll at *
  go_enter Tryz.func28, Tryz.ntmps28
  go_wp2_with fail
  refine HB.out.mono ?_
  rintro e w' ⟨b, c, rfl, ho, hb⟩
  unfold sl
  go_wp2
  go_ret
  exact ⟨b, c, rfl, ho, hb⟩

theorem diskSaid_ : DiskSaid KIs_ := fun w K F s keep h hok => by
  obtain ⟨gd, cd, gl, cl, gf, cf, h1, _⟩ := h
  exact disk_go K _ _ _ _ _ _ _ _ _ gd cd gl cl gf cf w h1 hok.1 keep

set_option maxRecDepth 100000 in
set_option maxHeartbeats 8000000 in
theorem openSaid_ : OpenSaid KIs_ := fun kp me pa s g0 cap w hb hn hcap => by
  by_cases hc : ConfOk kp me pa
  · have RC : Hid (∀ z, Calls Tryz.prog 45 #[.agg #[.int .i64 kp, .int .i64 me, .int .i64 pa]] z fun e w' => e = .returned (.bool true) ∧ Below z.heap.size z w') := fun z => rightConfig_yes kp me pa z hc
    have OD : Hid (∀ z, Below w.heap.size w z → Calls Tryz.prog 46 #[.slice (some ⟨g0, 0, none⟩) s.length cap] z (OpenedD z s)) := fun z hz => openD_go g0 0 s.length cap s z (hb.below hz) rfl hn hcap
    have HC := hid hc
    clear hb hc
    go_enter Tryz.func25, Tryz.ntmps25
    go_wp2_with fail
    refine (RC.out _).mono ?_
    rintro e X1 ⟨rfl, hb1⟩
    rw [World.size_alloc] at hb1
    have HX1 : Hid (Below w.heap.size w X1) := ((Below.refl _ w).alloc (Nat.le_refl _) _).trans (hb1.mono (by omega))
    have HCB : Hid (MBox w.heap.size 63 (.int .i64 kp) (.int .i64 me) (.int .i64 pa) X1) := by
      show _ = _
      rw [hb1.block _ (by omega)]; exact heap_alloc_new w _
    clear hb1
    obtain ⟨q0, q1, q2, fq⟩ := mbox_cells HCB.out
    have Q0 := hid q0
    have Q1 := hid q1
    have Q2 := hid q2
    clear fq q0 q1 q2
    go_wp2
    have hS0 : (fun z : World => Below X1.heap.size X1 z ∧ z.cell? ⟨w.heap.size, 0, none⟩ = some (.int .i64 kp) ∧ z.cell? ⟨w.heap.size, 1, none⟩ = some (.int .i64 me) ∧ z.cell? ⟨w.heap.size, 2, none⟩ = some (.int .i64 pa)) X1.drew := ⟨(Below.refl _ _).drew, Q0.out, Q1.out, Q2.out⟩
    refine wp_region_held_drew (S := fun z : World => Below X1.heap.size X1 z ∧ z.cell? ⟨w.heap.size, 0, none⟩ = some (.int .i64 kp) ∧ z.cell? ⟨w.heap.size, 1, none⟩ = some (.int .i64 me) ∧ z.cell? ⟨w.heap.size, 2, none⟩ = some (.int .i64 pa)) (by kernel_rfl) hS0 (fun hS => ?_)
    clear hS0
    refine wpAnyH_take (i := 1) (v := ?rv1) rfl (by kernel_rfl) (by kernel_rfl) (by kernel_rfl) (fun _ _ _ h => h) (Or.inl ⟨by rfl, ?ry1⟩) hS ?rr1
    case ry1 => (intro w hw; clear hw; go_simp; try with_reducible rfl)
    try simp only [List.getElem_toArray, List.getElem_cons_zero, List.getElem_cons_succ, Act.put, List.setIfInBounds_toArray, List.set_cons_zero, List.set_cons_succ]
    refine wpAnyH_take (i := 0) (v := ?rv5) rfl (by kernel_rfl) (by kernel_rfl) (by kernel_rfl) (fun _ _ _ h => h) (Or.inl ⟨by rfl, ?ry5⟩) hS ?rr5
    case ry5 => (intro w hw; obtain ⟨_, s0, s1, s2⟩ := hw; go_simp; try with_reducible rfl)
    try simp only [List.getElem_toArray, List.getElem_cons_zero, List.getElem_cons_succ, Act.put, List.setIfInBounds_toArray, List.set_cons_zero, List.set_cons_succ]
    refine wpAnyH_ready (rs := [2]) (by kernel_rfl) (by simp) ?_
    refine AllReadyH.cons rfl (fun K hK => ?_) AllReadyH.nil
    go_simp
    refine (OD.out _ (HX1.out.trans (hS.1.mono HX1.out.size))).mono ?_
    rintro e X2 ⟨gd, cd, gl, cl, rfl, hd1, hd2, hd3, hol, hbf⟩
    have hb12 := hS.1.trans (hbf.mono hS.1.size)
    have H12 := hid hb12
    have HD1 := hid hd1
    have HD2 := hid hd2
    have HD3 : Hid (∀ k, gd = some k → w.heap.size ≤ k) := fun k e => Nat.le_trans HX1.out.size (Nat.le_trans hS.1.size (hd3 k e))
    have HOL := hid (hol.base (u := w) (Nat.le_trans HX1.out.size hS.1.size))
    have HX2 := hid (HX1.out.trans (hb12.mono HX1.out.size))
    clear hbf hd1 hd2 hd3 hol
    refine hK.out _ _ ⟨hb12, (Below.cell hb12 (World.block_lt_of_cell? _ _ Q0.out)).trans Q0.out, (Below.cell hb12 (World.block_lt_of_cell? _ _ Q1.out)).trans Q1.out, (Below.cell hb12 (World.block_lt_of_cell? _ _ Q2.out)).trans Q2.out⟩ (fun hS => ?_)
    clear hK K hb12
    unfold sl
    refine wpAnyH_take (i := 3) (v := ?rv2) rfl (by kernel_rfl) (by kernel_rfl) (by kernel_rfl) (fun _ _ _ h => h) (Or.inl ⟨by rfl, ?ry2⟩) hS ?rr2
    case ry2 => (intro w hw; clear hw; go_simp; try with_reducible rfl)
    try simp only [List.getElem_toArray, List.getElem_cons_zero, List.getElem_cons_succ, Act.put, List.setIfInBounds_toArray, List.set_cons_zero, List.set_cons_succ]
    refine wpAnyH_ready (rs := [4]) (by kernel_rfl) (by simp) ?_
    refine AllReadyH.cons rfl (fun K hK => ?_) AllReadyH.nil
    go_simp
    refine hK.out _ _ ⟨H12.out.alloc H12.out.size _, cell_alloc_keep hS.2.1 _, cell_alloc_keep hS.2.2.1 _, cell_alloc_keep hS.2.2.2 _⟩ (fun hS => ?_)
    clear hK K
    refine wpAnyH_take (i := 5) (v := ?rv3) rfl (by kernel_rfl) (by kernel_rfl) (by kernel_rfl) (fun _ _ _ h => h) (Or.inl ⟨by rfl, ?ry3⟩) hS ?rr3
    case ry3 => (intro w hw; clear hw; go_simp; try with_reducible rfl)
    try simp only [List.getElem_toArray, List.getElem_cons_zero, List.getElem_cons_succ, Act.put, List.setIfInBounds_toArray, List.set_cons_zero, List.set_cons_succ]
    refine wpAnyH_take (i := 6) (v := ?rv4) rfl (by kernel_rfl) (by kernel_rfl) (by kernel_rfl) (fun _ _ _ h => h) (Or.inl ⟨by rfl, ?ry4⟩) hS ?rr4
    case ry4 => (intro w hw; clear hw; go_simp; try with_reducible rfl)
    try simp only [List.getElem_toArray, List.getElem_cons_zero, List.getElem_cons_succ, Act.put, List.setIfInBounds_toArray, List.set_cons_zero, List.set_cons_succ]
    refine wpAnyH_done (by kernel_rfl) ?_ _
    clear hS
    have hTL : (s.take (readD s).2).length = (readD s).2 := by rw [List.length_take]; have := readD_le s; omega
    have HXA : Hid (Below w.heap.size w (X2.alloc (.cells (progCells kp me pa gd (readD s).2 cd (readD s).1 gl cl 0 none 0 0 0 (fun _ => 0)) 103))) := HX2.out.alloc HX2.out.size _
    have HFIN : Hid (Below w.heap.size w (X2.alloc (.cells (progCells kp me pa gd (readD s).2 cd (readD s).1 gl cl 0 none 0 0 0 (fun _ => 0)) 103)) ∧ KIs_ (X2.alloc (.cells (progCells kp me pa gd (readD s).2 cd (readD s).1 gl cl 0 none 0 0 0 (fun _ => 0)) 103)) X2.heap.size (fun k => k = X2.heap.size ∨ gd = some k ∨ gl = some k ∨ (none : Option Nat) = some k) (LK.opened kp me pa (s.take (readD s).2) (readD s).1) ∧ ∀ k, (k = X2.heap.size ∨ gd = some k ∨ gl = some k ∨ (none : Option Nat) = some k) → w.heap.size ≤ k ∧ k < (X2.alloc (.cells (progCells kp me pa gd (readD s).2 cd (readD s).1 gl cl 0 none 0 0 0 (fun _ => 0)) 103)).heap.size) := by
      refine ⟨HXA.out, ⟨gd, cd, gl, cl, none, 0, ?_, fun k => Iff.rfl⟩, fun k e => ?_⟩
      · have hdd : (LK.opened kp me pa (s.take (readD s).2) (readD s).1).dead = false := rfl
        simp only [hdd, LK.mv, LK.av, Bool.false_eq_true, if_false]
        refine ⟨?_, HD1.out.touch ((Touch.refl (fun _ => False) X2).alloc _) (fun _ _ e => e), ?_, HOL.out.at_.alloc _, HOL.out.own.alloc _, fun j hj => absurd hj (by simp [LK.opened]), .inl ⟨rfl, rfl, rfl⟩, ⟨fun e => ?_, fun e => ?_, fun e => (by cases e)⟩, ⟨fun k e e2 => ?_, fun k _ e => (by cases e), fun k _ e => (by cases e)⟩⟩
        · show _ = some (Obj.cells (progCells kp me pa gd (s.take (readD s).2).length cd (readD s).1 gl cl 0 none 0 0 0 (fun _ => 0)) _ _)
          rw [hTL]; exact heap_alloc_new X2 _
        · show OwnRow _ _ _ _ (s.take (readD s).2).length _
          rw [hTL]; exact HD2.out.alloc _
        · have := HD2.out.lt e; omega
        · have := HOL.out.own.lt e; omega
        · rcases HD2.out with ⟨h, _⟩ | ⟨g1, cur1, h, hh, _⟩
          · rw [h] at e; cases e
          · rcases HOL.out.own with ⟨h', _⟩ | ⟨g2, cur2, h', hh2, _⟩
            · rw [h'] at e2; cases e2
            · rw [e] at h; rw [e2] at h'; cases h; cases h'
              rw [hh] at hh2
              simp at hh2
      · have hsz := World.size_alloc X2 (.cells (progCells kp me pa gd (readD s).2 cd (readD s).1 gl cl 0 none 0 0 0 (fun _ => 0)) 103)
        have hw2 := HX2.out.size
        rcases e with e | e | e | e
        · omega
        · have := HD2.out.lt e; have := HD3.out k e; omega
        · have := HOL.out.own.lt e; have := HOL.out.new k e; omega
        · cases e
    unfold progCells sl at HFIN
    clear HXA HOL HD1 HD2 HD3 hTL
    go_wp2
    go_ret2
    exact ⟨HFIN.out.1, .inr ⟨HC.out, X2.heap.size, rfl, _, HFIN.out.2.1, HFIN.out.2.2⟩⟩
  · have RC : Hid (∀ z, Calls Tryz.prog 45 #[.agg #[.int .i64 kp, .int .i64 me, .int .i64 pa]] z fun e w' => e = .returned (.bool false) ∧ Below z.heap.size z w') := fun z => rightConfig_no kp me pa z hc
    have HC := hid hc
    clear hb hc
    go_enter Tryz.func25, Tryz.ntmps25
    go_wp2_with fail
    refine (RC.out _).mono ?_
    rintro e X1 ⟨rfl, hb1⟩
    rw [World.size_alloc] at hb1
    have HX1 : Hid (Below w.heap.size w X1) := ((Below.refl _ w).alloc (Nat.le_refl _) _).trans (hb1.mono (by omega))
    clear hb1
    go_wp2
    go_ret2
    exact ⟨HX1.out, .inl ⟨HC.out, rfl⟩⟩




end Go.Proofs.YtolififimldmlaaGreat
