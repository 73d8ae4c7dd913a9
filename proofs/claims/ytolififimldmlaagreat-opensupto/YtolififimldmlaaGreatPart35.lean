import Derived.Test.YtolififimldmlaaGreatPart34
set_option linter.unusedVariables false
set_option linter.unusedSimpArgs false
namespace Go.Proofs.YtolififimldmlaaGreat
open Go.RowKit
attribute [local go_sem ↓] Go.wp_at_zero Go.wp_at_succ

/-- A step of a script. -/
structure OpG where
  kind : Int
  n : Int
  s : List UInt8
  f : Fr
  fa : Option Addr
  fc : Nat
  c1 : Int
  c2 : Int
  c3 : Int
  a : Int
def OpG.cells (o : OpG) : Array Value :=
  #[.int .i64 o.kind, .int .i64 o.n, .string ⟨o.s.toArray⟩, .int .i64 o.f.kind, .int .i64 o.f.frm, .int .i64 o.f.view, .int .i64 o.f.place, .int .i64 o.f.agreed, .int .i64 o.f.last, .int .i64 o.f.line.c, .int .i64 o.f.line.t, .string ⟨o.f.line.s.toArray⟩, sla o.fa o.f.lines.length o.fc,
    .int .i64 o.c1, .int .i64 o.c2, .int .i64 o.c3, .int .i64 o.a]

theorem unF_len (l : List UInt8) : (unpackF l).lines.length ≤ 256 := by
  unfold unpackF
  cases e : unpackR l with
  | none => simp [Fr.zero]
  | some f =>
    unfold unpackR at e
    split at e
    · cases e
    · split at e
      · cases e
      · split at e
        · cases e
        · cases e
          simp only [Option.getD_some, parseF]
          split
          · exact tsLines_len _
          · simp

set_option maxRecDepth 100000 in
set_option maxHeartbeats 2000000 in
theorem unpacked_any (HUS : UnpackSaid) (x : World) (W : Nat) (psv : Value) (lead : Bool) (gh : Option Nat) (n cap : Nat) (H : Nat → HG) (hw : WI x W psv lead gh n cap H) (hn : n ≤ 90000000)
    (o : OpG) (hsl : o.s.length ≤ 9000000) :
    Calls Tryz.prog 52 #[.pointer (some ⟨W, 0, none⟩), .agg o.cells] x fun e y => e = .returned (.bool true) ∧ Stepped x W psv lead gh n 8 y := by
  have HWI := hid hw
  clear hw
  unfold OpG.cells sla
  obtain ⟨okind, on, l, f, fa, fc, c1, c2, c3, oa⟩ := o
  dsimp only at *
  go_enter Tryz.func52, Tryz.ntmps52
  go_wp2_with fail
  refine (lent_any l _ (by omega)).mono ?_
  rintro e X1 ⟨rfl, hle, hb1⟩
  rw [World.size_alloc] at hle hb1
  have HLE := hid hle
  have hs1 : x.heap.size + 1 < X1.heap.size := hle.own.lt rfl
  have hs1b : x.heap.size < X1.heap.size := by omega
  have HX1 : Hid (Below x.heap.size x X1) := ((Below.refl _ x).alloc (Nat.le_refl _) _).trans (hb1.mono (by omega))
  have hs : X1.cell? ⟨x.heap.size, 2, none⟩ = some (.string ⟨l.toArray⟩) := (hb1.cell (p := ⟨x.heap.size, 2, none⟩) (by dsimp only; omega)).trans (World.cell?_alloc_new _ _ _ _)
  have b1 : (0 : Int) ≤ (l.length : Int) := by omega
  have b2 : (l.length : Int) ≤ (l.length : Int) + 8 := by omega
  clear hle hb1
  go_wp2_with fail
  refine (HUS (x.heap.size + 1) 0 (l.length + 8) l _ (fun j hj => by rw [Nat.zero_add]; exact HLE.out.at_ j hj) (by omega) (by omega)).mono ?_
  rintro e X2 ⟨g1, k1, rfl, hol1, hb2⟩
  have HO1 := hid hol1
  have HLE2 := hid (HLE.out.below hb2)
  have HX2 := hid (HX1.out.trans (hb2.mono HX1.out.size))
  have hs2 : X2.cell? ⟨x.heap.size, 2, none⟩ = some (.string ⟨l.toArray⟩) := (hb2.cell (p := ⟨x.heap.size, 2, none⟩) hs1b).trans hs
  have hz2 : X1.heap.size ≤ X2.heap.size := hb2.size
  have hz2b : x.heap.size < X2.heap.size := by omega
  clear hol1 hb2 hs
  have HRU := hid (fun w => refUnpack_any l w (by omega))
  unfold Fr.val
  unfold RetFrame Fr.val at HRU
  have hfl := unF_len l
  generalize unpackF l = F at HO1 HRU hfl ⊢
  generalize unpackE l = E at HRU ⊢
  rw [sla_own]
  go_wp2_with fail
  refine (HRU.out _).mono ?_
  rintro e X3 ⟨g2, k2, rfl, hol2, hb3⟩
  rw [World.size_alloc] at hb3
  rw [sla_own]
  have HB3 : Hid (X3.heap[X2.heap.size]? = some (.cells #[.int .i64 F.kind, .int .i64 F.frm, .int .i64 F.view, .int .i64 F.place, .int .i64 F.agreed, .int .i64 F.last, .int .i64 F.line.c, .int .i64 F.line.t, .string ⟨F.line.s.toArray⟩, .slice (g1.map fun k => ⟨k, 0, none⟩) F.lines.length k1] 30 (0, 0))) := (hb3.block _ (by omega)).trans (heap_alloc_new X2 _)
  have hb23 : Below X2.heap.size X2 X3 := ((Below.refl _ X2).alloc (Nat.le_refl _) _).trans (hb3.mono (by omega))
  have HO2 := hid (OwnLines.base hol2 (show X2.heap.size ≤ _ by simp))
  have HO1' := hid (HO1.out.below hb23)
  have HLE3 := hid (HLE2.out.below hb23)
  have HX3 := hid (HX2.out.trans (hb23.mono HX2.out.size))
  have hs3 : X3.cell? ⟨x.heap.size, 2, none⟩ = some (.string ⟨l.toArray⟩) := (hb23.cell (p := ⟨x.heap.size, 2, none⟩) hz2b).trans hs2
  have hz3 : X2.heap.size < X3.heap.size := by have := hb3.size; rw [World.size_alloc] at this; omega
  have hz3b : x.heap.size < X3.heap.size := by omega
  clear hol2 hb3 hb23 hs2 HRU
  go_wp2_with fail
  have hb4 : Below X3.heap.size X3 (X3.alloc (.cells #[.int .i64 F.kind, .int .i64 F.frm, .int .i64 F.view, .int .i64 F.place, .int .i64 F.agreed, .int .i64 F.last, .int .i64 F.line.c, .int .i64 F.line.t, .string ⟨F.line.s.toArray⟩, .slice (g2.map fun k => ⟨k, 0, none⟩) F.lines.length k2] 30)) := (Below.refl _ _).alloc (Nat.le_refl _) _
  refine (still_any l (x.heap.size + 1) (l.length + 8) _ (by omega) (HLE3.out.below hb4)).mono ?_
  rintro e X5 ⟨rfl, hb5⟩
  rw [World.size_alloc] at hb5
  have hb35 : Below X3.heap.size X3 X5 := hb4.trans (hb5.mono (by omega))
  have HB5 : Hid (X5.heap[X2.heap.size]? = some (.cells #[.int .i64 F.kind, .int .i64 F.frm, .int .i64 F.view, .int .i64 F.place, .int .i64 F.agreed, .int .i64 F.last, .int .i64 F.line.c, .int .i64 F.line.t, .string ⟨F.line.s.toArray⟩, .slice (g1.map fun k => ⟨k, 0, none⟩) F.lines.length k1] 30 (0, 0))) := (hb35.block _ hz3).trans HB3.out
  have HC5 : Hid (X5.heap[X3.heap.size]? = some (.cells #[.int .i64 F.kind, .int .i64 F.frm, .int .i64 F.view, .int .i64 F.place, .int .i64 F.agreed, .int .i64 F.last, .int .i64 F.line.c, .int .i64 F.line.t, .string ⟨F.line.s.toArray⟩, .slice (g2.map fun k => ⟨k, 0, none⟩) F.lines.length k2] 30 (0, 0))) := (hb5.block _ (by omega)).trans (heap_alloc_new X3 _)
  have HO5 := hid (HO1'.out.below hb35)
  have HP5 := hid (HO2.out.below hb35)
  have HLE5 := hid (HLE3.out.below hb35)
  have HX5 := hid (HX3.out.trans (hb35.mono HX3.out.size))
  have hz5 : X3.heap.size < X5.heap.size := by have := hb5.size; rw [World.size_alloc] at this; omega
  clear hb4 hb5 hb35 hs3
  have c9 : X5.cell? ⟨X2.heap.size, 9, none⟩ = _ := cell_of_heap HB5.out 9
  have d9 : X5.cell? ⟨X3.heap.size, 9, none⟩ = _ := cell_of_heap HC5.out 9
  simp only [List.getElem?_toArray, List.getElem?_cons_zero, List.getElem?_cons_succ] at c9 d9
  go_wp2_with fail
  have HSM := hid (sameLines_any (g1.map fun k => (⟨k, 0, none⟩ : Addr)) (g2.map fun k => (⟨k, 0, none⟩ : Addr)) k1 k2 F.lines X5 (by omega) HO5.out.at_ HP5.out.at_)
  rw [sla_own, sla_own] at HSM
  refine HSM.out.mono ?_
  rintro e X6 ⟨rfl, hb6⟩
  have HB6 : Hid (X6.heap[X2.heap.size]? = some (.cells #[.int .i64 F.kind, .int .i64 F.frm, .int .i64 F.view, .int .i64 F.place, .int .i64 F.agreed, .int .i64 F.last, .int .i64 F.line.c, .int .i64 F.line.t, .string ⟨F.line.s.toArray⟩, .slice (g1.map fun k => ⟨k, 0, none⟩) F.lines.length k1] 30 (0, 0))) := (hb6.block _ (by omega)).trans HB5.out
  have HC6 : Hid (X6.heap[X3.heap.size]? = some (.cells #[.int .i64 F.kind, .int .i64 F.frm, .int .i64 F.view, .int .i64 F.place, .int .i64 F.agreed, .int .i64 F.last, .int .i64 F.line.c, .int .i64 F.line.t, .string ⟨F.line.s.toArray⟩, .slice (g2.map fun k => ⟨k, 0, none⟩) F.lines.length k2] 30 (0, 0))) := (hb6.block _ hz5).trans HC5.out
  have HO6 := hid (HO5.out.below hb6)
  have HLE6 := hid (HLE5.out.below hb6)
  have HX6 := hid (HX5.out.trans (hb6.mono HX5.out.size))
  have hz6 : X5.heap.size ≤ X6.heap.size := hb6.size
  clear hb6 HSM c9 d9
  have c0 : X6.cell? ⟨X2.heap.size, 0, none⟩ = _ := cell_of_heap HB6.out 0
  have d0 : X6.cell? ⟨X3.heap.size, 0, none⟩ = _ := cell_of_heap HC6.out 0
  have c1 : X6.cell? ⟨X2.heap.size, 1, none⟩ = _ := cell_of_heap HB6.out 1
  have d1 : X6.cell? ⟨X3.heap.size, 1, none⟩ = _ := cell_of_heap HC6.out 1
  have c2 : X6.cell? ⟨X2.heap.size, 2, none⟩ = _ := cell_of_heap HB6.out 2
  have d2 : X6.cell? ⟨X3.heap.size, 2, none⟩ = _ := cell_of_heap HC6.out 2
  have c3 : X6.cell? ⟨X2.heap.size, 3, none⟩ = _ := cell_of_heap HB6.out 3
  have d3 : X6.cell? ⟨X3.heap.size, 3, none⟩ = _ := cell_of_heap HC6.out 3
  have c4 : X6.cell? ⟨X2.heap.size, 4, none⟩ = _ := cell_of_heap HB6.out 4
  have d4 : X6.cell? ⟨X3.heap.size, 4, none⟩ = _ := cell_of_heap HC6.out 4
  have c5 : X6.cell? ⟨X2.heap.size, 5, none⟩ = _ := cell_of_heap HB6.out 5
  have d5 : X6.cell? ⟨X3.heap.size, 5, none⟩ = _ := cell_of_heap HC6.out 5
  have c6 : X6.cell? ⟨X2.heap.size, 6, none⟩ = _ := cell_of_heap HB6.out 6
  have d6 : X6.cell? ⟨X3.heap.size, 6, none⟩ = _ := cell_of_heap HC6.out 6
  have c7 : X6.cell? ⟨X2.heap.size, 7, none⟩ = _ := cell_of_heap HB6.out 7
  have d7 : X6.cell? ⟨X3.heap.size, 7, none⟩ = _ := cell_of_heap HC6.out 7
  have c8 : X6.cell? ⟨X2.heap.size, 8, none⟩ = _ := cell_of_heap HB6.out 8
  have d8 : X6.cell? ⟨X3.heap.size, 8, none⟩ = _ := cell_of_heap HC6.out 8
  have c9 : X6.cell? ⟨X2.heap.size, 9, none⟩ = _ := cell_of_heap HB6.out 9
  have d9 : X6.cell? ⟨X3.heap.size, 9, none⟩ = _ := cell_of_heap HC6.out 9
  simp only [List.getElem?_toArray, List.getElem?_cons_zero, List.getElem?_cons_succ] at c0 d0 c1 d1 c2 d2 c3 d3 c4 d4 c5 d5 c6 d6 c7 d7 c8 d8 c9 d9
  have e0 : (E == E) = true := by simp
  have e1 : (F.kind == F.kind) = true := by simp
  have e2 : (F.frm == F.frm) = true := by simp
  have e3 : (F.view == F.view) = true := by simp
  have e4 : (F.place == F.place) = true := by simp
  have e5 : (F.agreed == F.agreed) = true := by simp
  have e6 : (F.last == F.last) = true := by simp
  have e7 : (F.line.c == F.line.c) = true := by simp
  have e8 : (F.line.t == F.line.t) = true := by simp
  have e9 : (F.line.s == F.line.s) = true := by simp
  go_wp2_with fail
  have hg1 : ∀ k', g1 = some k' → X1.heap.size ≤ k' := HO6.out.new
  have WY := hid (HWI.out.below HX6.out)
  refine (keep_hold X6 W psv lead gh n cap H WY.out (some (x.heap.size + 1)) none none (l.length + 8) (l.length + 8) 0 0 0 0 HLE6.out.own (.inl ⟨rfl, rfl, rfl⟩) (.inl ⟨rfl, rfl, rfl⟩) (fun g _ e => by cases e) (fun g _ e => by cases e) (fun g e => by cases e)
    (fun k' e => HWI.out.free_new (by rcases e with e | e | e; (cases e; omega); cases e; cases e)) (by omega) (by omega) (by omega) (by omega)).mono ?_
  rintro e Y1 ⟨rfl, K1⟩
  obtain ⟨⟨gh1, cap1, H1, W1, gg1, f1⟩, t1⟩ := K1
  have HW1 := hid W1
  have HG1 := hid gg1
  have HF1 := hid f1
  have HT1 := hid t1
  have HB7 : Hid (Y1.heap[X2.heap.size]? = some (.cells #[.int .i64 F.kind, .int .i64 F.frm, .int .i64 F.view, .int .i64 F.place, .int .i64 F.agreed, .int .i64 F.last, .int .i64 F.line.c, .int .i64 F.line.t, .string ⟨F.line.s.toArray⟩, .slice (g1.map fun k => ⟨k, 0, none⟩) F.lines.length k1] 30 (0, 0))) := t1.heapAt HB6.out (fun t => by
    rcases t with t | t | t | t | t
    · have := heap_lt HWI.out.wb; omega
    · have := HWI.out.ow.lt t; omega
    · have := Option.some.inj t; omega
    · cases t
    · cases t)
  clear W1 gg1 f1 t1 c0 d0 c1 d1 c2 d2 c3 d3 c4 d4 c5 d5 c6 d6 c7 d7 c8 d8 c9 d9 e0 e1 e2 e3 e4 e5 e6 e7 e8 e9
  have HFL : Hid (∀ k', g1 = some k' → Free W gh1 (n + 4) H1 k') := fun k' e => HF1.out k' (HO6.out.own.lt e) (HWI.out.free_new (by have := hg1 k' e; omega)) (fun t => by
    have := hg1 k' e
    rcases t with t | t | t
    · have := Option.some.inj t; omega
    · cases t
    · cases t)
  have HOL := hid (OwnRow.touch HO6.out.own HT1.out (fun k' e t => by
    have := hg1 k' e
    rcases t with t | t | t | t | t
    · have := heap_lt HWI.out.wb; omega
    · have := HWI.out.ow.lt t; omega
    · have := Option.some.inj t; omega
    · cases t
    · cases t))
  have c9 : Y1.cell? ⟨X2.heap.size, 9, none⟩ = _ := cell_of_heap HB7.out 9
  simp only [List.getElem?_toArray, List.getElem?_cons_zero, List.getElem?_cons_succ] at c9
  go_wp2_with fail
  refine (keep_hold Y1 W psv lead gh1 (n + 4) cap1 H1 HW1.out none g1 none 0 0 F.lines.length k1 0 0 (.inl ⟨rfl, rfl, rfl⟩) HOL.out (.inl ⟨rfl, rfl, rfl⟩) (fun g e => by cases e) (fun g e => by cases e) (fun g _ e => by cases e)
    (fun k' e => by rcases e with e | e | e; cases e; (exact HFL.out k' e); cases e) (by omega) (by omega) (by omega) (by omega)).mono ?_
  rintro e Y2 ⟨rfl, K2⟩
  have HK2 := hid K2
  clear K2
  go_wp2
  go_ret
  have hsz : x.heap.size ≤ X6.heap.size := HX6.out.size
  refine ⟨rfl, ?_, ?_⟩
  · obtain ⟨gh2, cap2, H2, W2, gg2, _⟩ := HK2.out.ex
    refine ⟨gh2, cap2, H2, W2, fun k' e => ?_⟩
    rcases gg2 k' e with e | e
    · rcases HG1.out k' e with e | e
      · exact .inl e
      · exact .inr (by omega)
    · have h1 := HT1.out.size
      exact .inr (by omega)
  · have t0 : Touch (fun k => k = W ∨ gh = some k) x X6 := Touch.of_belowAll HX6.out _
    refine (t0.trans HT1.out (fun i hi e => ?_)).trans HK2.out.tch (fun i hi e => ?_)
    · rcases e with e | e | e | e | e
      · exact .inl e
      · exact .inr e
      · cases e; omega
      · cases e
      · cases e
    · rcases e with e | e | e | e | e
      · exact .inl e
      · rcases HG1.out i e with e | e
        · exact .inr e
        · omega
      · cases e
      · have := hg1 i e; omega
      · cases e

end Go.Proofs.YtolififimldmlaaGreat
