import Derived.Test.YtolififimldmlaaGreatPart25
import Derived.Test.YtolififimldmlaaGreatPart24
set_option linter.unusedVariables false
set_option linter.unusedSimpArgs false
namespace Go.Proofs.YtolififimldmlaaGreat
open Go.RowKit
attribute [local go_sem ↓] Go.wp_at_zero Go.wp_at_succ

/-- A step of a script. -/
structure OpG where
  kind : Int
  n : Int
  s : List UInt8
  f : Fr
  fa : Option Addr
  fc : Nat
  c1 : Int
  c2 : Int
  c3 : Int
  a : Int
def OpG.cells (o : OpG) : Array Value :=
  #[.int .i64 o.kind, .int .i64 o.n, .string ⟨o.s.toArray⟩, .int .i64 o.f.kind, .int .i64 o.f.frm, .int .i64 o.f.view, .int .i64 o.f.place, .int .i64 o.f.agreed, .int .i64 o.f.last, .int .i64 o.f.line.c, .int .i64 o.f.line.t, .string ⟨o.f.line.s.toArray⟩, sla o.fa o.f.lines.length o.fc,
    .int .i64 o.c1, .int .i64 o.c2, .int .i64 o.c3, .int .i64 o.a]

theorem unF_len (l : List UInt8) : (unpackF l).lines.length ≤ 256 := by
  unfold unpackF
  cases e : unpackR l with
  | none => simp [Fr.zero]
  | some f =>
    unfold unpackR at e
    split at e
    · cases e
    · split at e
      · cases e
      · split at e
        · cases e
        · cases e
          simp only [Option.getD_some, parseF]
          split
          · exact tsLines_len _
          · simp

set_option maxRecDepth 100000 in
set_option maxHeartbeats 2000000 in
theorem unpacked_any (HUS : UnpackSaid) (x : World) (W : Nat) (psv : Value) (lead : Bool) (gh : Option Nat) (n cap : Nat) (H : Nat → HG) (hw : WI x W psv lead gh n cap H) (hn : n ≤ 90000000)
    (o : OpG) (hsl : o.s.length ≤ 9000000) :
    Calls Tryz.prog 52 #[.pointer (some ⟨W, 0, none⟩), .agg o.cells] x fun e y => e = .returned (.bool true) ∧ Stepped x W psv lead gh n 8 y := by
  have HWI := hid hw
  clear hw
  unfold OpG.cells sla
  obtain ⟨okind, on, l, f, fa, fc, c1, c2, c3, oa⟩ := o
  dsimp only at *
  go_enter Tryz.func52, Tryz.ntmps52
  go_wp2_with fail
  refine (lent_any l _ (by omega)).mono ?_
  rintro e X1 ⟨rfl, hle, hb1⟩
  rw [World.size_alloc] at hle hb1
  have HLE := hid hle
  have hs1 : x.heap.size + 1 < X1.heap.size := hle.own.lt rfl
  have hs1b : x.heap.size < X1.heap.size := by omega
  have HX1 : Hid (Below x.heap.size x X1) := ((Below.refl _ x).alloc (Nat.le_refl _) _).trans (hb1.mono (by omega))
  have hs : X1.cell? ⟨x.heap.size, 2, none⟩ = some (.string ⟨l.toArray⟩) := (hb1.cell (p := ⟨x.heap.size, 2, none⟩) (by dsimp only; omega)).trans (World.cell?_alloc_new _ _ _ _)
  have b1 : (0 : Int) ≤ (l.length : Int) := by omega
  have b2 : (l.length : Int) ≤ (l.length : Int) + 8 := by omega
  clear hle hb1
  go_wp2_with fail
  refine (HUS (x.heap.size + 1) 0 (l.length + 8) l _ (fun j hj => by rw [Nat.zero_add]; exact HLE.out.at_ j hj) (by omega) (by omega)).mono ?_
  rintro e X2 ⟨g1, k1, rfl, hol1, hb2⟩
  have HO1 := hid hol1
  have HLE2 := hid (HLE.out.below hb2)
  have HX2 := hid (HX1.out.trans (hb2.mono HX1.out.size))
  have hs2 : X2.cell? ⟨x.heap.size, 2, none⟩ = some (.string ⟨l.toArray⟩) := (hb2.cell (p := ⟨x.heap.size, 2, none⟩) hs1b).trans hs
  have hz2 : X1.heap.size ≤ X2.heap.size := hb2.size
  have hz2b : x.heap.size < X2.heap.size := by omega
  clear hol1 hb2 hs
  have HRU := hid (fun w => refUnpack_any l w (by omega))
  unfold Fr.val
  unfold RetFrame Fr.val at HRU
  have hfl := unF_len l
  generalize unpackF l = F at HO1 HRU hfl ⊢
  generalize unpackE l = E at HRU ⊢
  rw [sla_own]
  go_wp2_with fail
  refine (HRU.out _).mono ?_
  rintro e X3 ⟨g2, k2, rfl, hol2, hb3⟩
  rw [World.size_alloc] at hb3
  rw [sla_own]
  have HB3 : Hid (X3.heap[X2.heap.size]? = some (.cells #[.int .i64 F.kind, .int .i64 F.frm, .int .i64 F.view, .int .i64 F.place, .int .i64 F.agreed, .int .i64 F.last, .int .i64 F.line.c, .int .i64 F.line.t, .string ⟨F.line.s.toArray⟩, .slice (g1.map fun k => ⟨k, 0, none⟩) F.lines.length k1] 30 (0, 0))) := (hb3.block _ (by omega)).trans (heap_alloc_new X2 _)
  have hb23 : Below X2.heap.size X2 X3 := ((Below.refl _ X2).alloc (Nat.le_refl _) _).trans (hb3.mono (by omega))
  have HO2 := hid (OwnLines.base hol2 (show X2.heap.size ≤ _ by simp))
  have HO1' := hid (HO1.out.below hb23)
  have HLE3 := hid (HLE2.out.below hb23)
  have HX3 := hid (HX2.out.trans (hb23.mono HX2.out.size))
  have hs3 : X3.cell? ⟨x.heap.size, 2, none⟩ = some (.string ⟨l.toArray⟩) := (hb23.cell (p := ⟨x.heap.size, 2, none⟩) hz2b).trans hs2
  have hz3 : X2.heap.size < X3.heap.size := by have := hb3.size; rw [World.size_alloc] at this; omega
  have hz3b : x.heap.size < X3.heap.size := by omega
  clear hol2 hb3 hb23 hs2 HRU
  go_wp2_with fail
  have hb4 : Below X3.heap.size X3 (X3.alloc (.cells #[.int .i64 F.kind, .int .i64 F.frm, .int .i64 F.view, .int .i64 F.place, .int .i64 F.agreed, .int .i64 F.last, .int .i64 F.line.c, .int .i64 F.line.t, .string ⟨F.line.s.toArray⟩, .slice (g2.map fun k => ⟨k, 0, none⟩) F.lines.length k2] 30)) := (Below.refl _ _).alloc (Nat.le_refl _) _
  refine (still_any l (x.heap.size + 1) (l.length + 8) _ (by omega) (HLE3.out.below hb4)).mono ?_
  rintro e X5 ⟨rfl, hb5⟩
  rw [World.size_alloc] at hb5
  have hb35 : Below X3.heap.size X3 X5 := hb4.trans (hb5.mono (by omega))
  have HB5 : Hid (X5.heap[X2.heap.size]? = some (.cells #[.int .i64 F.kind, .int .i64 F.frm, .int .i64 F.view, .int .i64 F.place, .int .i64 F.agreed, .int .i64 F.last, .int .i64 F.line.c, .int .i64 F.line.t, .string ⟨F.line.s.toArray⟩, .slice (g1.map fun k => ⟨k, 0, none⟩) F.lines.length k1] 30 (0, 0))) := (hb35.block _ hz3).trans HB3.out
  have HC5 : Hid (X5.heap[X3.heap.size]? = some (.cells #[.int .i64 F.kind, .int .i64 F.frm, .int .i64 F.view, .int .i64 F.place, .int .i64 F.agreed, .int .i64 F.last, .int .i64 F.line.c, .int .i64 F.line.t, .string ⟨F.line.s.toArray⟩, .slice (g2.map fun k => ⟨k, 0, none⟩) F.lines.length k2] 30 (0, 0))) := (hb5.block _ (by omega)).trans (heap_alloc_new X3 _)
  have HO5 := hid (HO1'.out.below hb35)
  have HP5 := hid (HO2.out.below hb35)
  have HLE5 := hid (HLE3.out.below hb35)
  have HX5 := hid (HX3.out.trans (hb35.mono HX3.out.size))
  have hz5 : X3.heap.size < X5.heap.size := by have := hb5.size; rw [World.size_alloc] at this; omega
  clear hb4 hb5 hb35 hs3
  have c9 : X5.cell? ⟨X2.heap.size, 9, none⟩ = _ := cell_of_heap HB5.out 9
  have d9 : X5.cell? ⟨X3.heap.size, 9, none⟩ = _ := cell_of_heap HC5.out 9
  simp only [List.getElem?_toArray, List.getElem?_cons_zero, List.getElem?_cons_succ] at c9 d9
  go_wp2_with fail
  have HSM := hid (sameLines_any (g1.map fun k => (⟨k, 0, none⟩ : Addr)) (g2.map fun k => (⟨k, 0, none⟩ : Addr)) k1 k2 F.lines X5 (by omega) HO5.out.at_ HP5.out.at_)
  rw [sla_own, sla_own] at HSM
  refine HSM.out.mono ?_
  rintro e X6 ⟨rfl, hb6⟩
  have HB6 : Hid (X6.heap[X2.heap.size]? = some (.cells #[.int .i64 F.kind, .int .i64 F.frm, .int .i64 F.view, .int .i64 F.place, .int .i64 F.agreed, .int .i64 F.last, .int .i64 F.line.c, .int .i64 F.line.t, .string ⟨F.line.s.toArray⟩, .slice (g1.map fun k => ⟨k, 0, none⟩) F.lines.length k1] 30 (0, 0))) := (hb6.block _ (by omega)).trans HB5.out
  have HC6 : Hid (X6.heap[X3.heap.size]? = some (.cells #[.int .i64 F.kind, .int .i64 F.frm, .int .i64 F.view, .int .i64 F.place, .int .i64 F.agreed, .int .i64 F.last, .int .i64 F.line.c, .int .i64 F.line.t, .string ⟨F.line.s.toArray⟩, .slice (g2.map fun k => ⟨k, 0, none⟩) F.lines.length k2] 30 (0, 0))) := (hb6.block _ hz5).trans HC5.out
  have HO6 := hid (HO5.out.below hb6)
  have HLE6 := hid (HLE5.out.below hb6)
  have HX6 := hid (HX5.out.trans (hb6.mono HX5.out.size))
  have hz6 : X5.heap.size ≤ X6.heap.size := hb6.size
  clear hb6 HSM c9 d9
  have c0 : X6.cell? ⟨X2.heap.size, 0, none⟩ = _ := cell_of_heap HB6.out 0
  have d0 : X6.cell? ⟨X3.heap.size, 0, none⟩ = _ := cell_of_heap HC6.out 0
  have c1 : X6.cell? ⟨X2.heap.size, 1, none⟩ = _ := cell_of_heap HB6.out 1
  have d1 : X6.cell? ⟨X3.heap.size, 1, none⟩ = _ := cell_of_heap HC6.out 1
  have c2 : X6.cell? ⟨X2.heap.size, 2, none⟩ = _ := cell_of_heap HB6.out 2
  have d2 : X6.cell? ⟨X3.heap.size, 2, none⟩ = _ := cell_of_heap HC6.out 2
  have c3 : X6.cell? ⟨X2.heap.size, 3, none⟩ = _ := cell_of_heap HB6.out 3
  have d3 : X6.cell? ⟨X3.heap.size, 3, none⟩ = _ := cell_of_heap HC6.out 3
  have c4 : X6.cell? ⟨X2.heap.size, 4, none⟩ = _ := cell_of_heap HB6.out 4
  have d4 : X6.cell? ⟨X3.heap.size, 4, none⟩ = _ := cell_of_heap HC6.out 4
  have c5 : X6.cell? ⟨X2.heap.size, 5, none⟩ = _ := cell_of_heap HB6.out 5
  have d5 : X6.cell? ⟨X3.heap.size, 5, none⟩ = _ := cell_of_heap HC6.out 5
  have c6 : X6.cell? ⟨X2.heap.size, 6, none⟩ = _ := cell_of_heap HB6.out 6
  have d6 : X6.cell? ⟨X3.heap.size, 6, none⟩ = _ := cell_of_heap HC6.out 6
  have c7 : X6.cell? ⟨X2.heap.size, 7, none⟩ = _ := cell_of_heap HB6.out 7
  have d7 : X6.cell? ⟨X3.heap.size, 7, none⟩ = _ := cell_of_heap HC6.out 7
  have c8 : X6.cell? ⟨X2.heap.size, 8, none⟩ = _ := cell_of_heap HB6.out 8
  have d8 : X6.cell? ⟨X3.heap.size, 8, none⟩ = _ := cell_of_heap HC6.out 8
  have c9 : X6.cell? ⟨X2.heap.size, 9, none⟩ = _ := cell_of_heap HB6.out 9
  have d9 : X6.cell? ⟨X3.heap.size, 9, none⟩ = _ := cell_of_heap HC6.out 9
  simp only [List.getElem?_toArray, List.getElem?_cons_zero, List.getElem?_cons_succ] at c0 d0 c1 d1 c2 d2 c3 d3 c4 d4 c5 d5 c6 d6 c7 d7 c8 d8 c9 d9
  have e0 : (E == E) = true := by simp
  have e1 : (F.kind == F.kind) = true := by simp
  have e2 : (F.frm == F.frm) = true := by simp
  have e3 : (F.view == F.view) = true := by simp
  have e4 : (F.place == F.place) = true := by simp
  have e5 : (F.agreed == F.agreed) = true := by simp
  have e6 : (F.last == F.last) = true := by simp
  have e7 : (F.line.c == F.line.c) = true := by simp
  have e8 : (F.line.t == F.line.t) = true := by simp
  have e9 : (F.line.s == F.line.s) = true := by simp
  go_wp2_with fail
  have hg1 : ∀ k', g1 = some k' → X1.heap.size ≤ k' := HO6.out.new
  have WY := hid (HWI.out.below HX6.out)
  refine (keep_hold X6 W psv lead gh n cap H WY.out (some (x.heap.size + 1)) none none (l.length + 8) (l.length + 8) 0 0 0 0 HLE6.out.own (.inl ⟨rfl, rfl, rfl⟩) (.inl ⟨rfl, rfl, rfl⟩) (fun g _ e => by cases e) (fun g _ e => by cases e) (fun g e => by cases e)
    (fun k' e => HWI.out.free_new (by rcases e with e | e | e; (cases e; omega); cases e; cases e)) (by omega) (by omega) (by omega) (by omega)).mono ?_
  rintro e Y1 ⟨rfl, K1⟩
  obtain ⟨⟨gh1, cap1, H1, W1, gg1, f1⟩, t1⟩ := K1
  have HW1 := hid W1
  have HG1 := hid gg1
  have HF1 := hid f1
  have HT1 := hid t1
  have HB7 : Hid (Y1.heap[X2.heap.size]? = some (.cells #[.int .i64 F.kind, .int .i64 F.frm, .int .i64 F.view, .int .i64 F.place, .int .i64 F.agreed, .int .i64 F.last, .int .i64 F.line.c, .int .i64 F.line.t, .string ⟨F.line.s.toArray⟩, .slice (g1.map fun k => ⟨k, 0, none⟩) F.lines.length k1] 30 (0, 0))) := t1.heapAt HB6.out (fun t => by
    rcases t with t | t | t | t | t
    · have := heap_lt HWI.out.wb; omega
    · have := HWI.out.ow.lt t; omega
    · have := Option.some.inj t; omega
    · cases t
    · cases t)
  clear W1 gg1 f1 t1 c0 d0 c1 d1 c2 d2 c3 d3 c4 d4 c5 d5 c6 d6 c7 d7 c8 d8 c9 d9 e0 e1 e2 e3 e4 e5 e6 e7 e8 e9
  have HFL : Hid (∀ k', g1 = some k' → Free W gh1 (n + 4) H1 k') := fun k' e => HF1.out k' (HO6.out.own.lt e) (HWI.out.free_new (by have := hg1 k' e; omega)) (fun t => by
    have := hg1 k' e
    rcases t with t | t | t
    · have := Option.some.inj t; omega
    · cases t
    · cases t)
  have HOL := hid (OwnRow.touch HO6.out.own HT1.out (fun k' e t => by
    have := hg1 k' e
    rcases t with t | t | t | t | t
    · have := heap_lt HWI.out.wb; omega
    · have := HWI.out.ow.lt t; omega
    · have := Option.some.inj t; omega
    · cases t
    · cases t))
  have c9 : Y1.cell? ⟨X2.heap.size, 9, none⟩ = _ := cell_of_heap HB7.out 9
  simp only [List.getElem?_toArray, List.getElem?_cons_zero, List.getElem?_cons_succ] at c9
  go_wp2_with fail
  refine (keep_hold Y1 W psv lead gh1 (n + 4) cap1 H1 HW1.out none g1 none 0 0 F.lines.length k1 0 0 (.inl ⟨rfl, rfl, rfl⟩) HOL.out (.inl ⟨rfl, rfl, rfl⟩) (fun g e => by cases e) (fun g e => by cases e) (fun g _ e => by cases e)
    (fun k' e => by rcases e with e | e | e; cases e; (exact HFL.out k' e); cases e) (by omega) (by omega) (by omega) (by omega)).mono ?_
  rintro e Y2 ⟨rfl, K2⟩
  have HK2 := hid K2
  clear K2
  go_wp2
  go_ret
  have hsz : x.heap.size ≤ X6.heap.size := HX6.out.size
  refine ⟨rfl, ?_, ?_⟩
  · obtain ⟨gh2, cap2, H2, W2, gg2, _⟩ := HK2.out.ex
    refine ⟨gh2, cap2, H2, W2, fun k' e => ?_⟩
    rcases gg2 k' e with e | e
    · rcases HG1.out k' e with e | e
      · exact .inl e
      · exact .inr (by omega)
    · have h1 := HT1.out.size
      exact .inr (by omega)
  · have t0 : Touch (fun k => k = W ∨ gh = some k) x X6 := Touch.of_belowAll HX6.out _
    refine (t0.trans HT1.out (fun i hi e => ?_)).trans HK2.out.tch (fun i hi e => ?_)
    · rcases e with e | e | e | e | e
      · exact .inl e
      · exact .inr e
      · cases e; omega
      · cases e
      · cases e
    · rcases e with e | e | e | e | e
      · exact .inl e
      · rcases HG1.out i e with e | e
        · exact .inr e
        · omega
      · cases e
      · have := hg1 i e; omega
      · cases e

end Go.Proofs.YtolififimldmlaaGreat

set_option linter.unusedVariables false
set_option linter.unusedSimpArgs false
namespace Go.Proofs.YtolififimldmlaaGreat
open Go.RowKit
attribute [local go_sem ↓] Go.wp_at_zero Go.wp_at_succ

theorem Tryz.info118 : (Tryz.prog.info? 118).map (fun i => (i.zero, i.size, i.bytes)) = some (some (.pointer none), 1, 8) := by kernel_rfl

theorem WI.touchFree {x y : World} {W : Nat} {psv : Value} {lead : Bool} {gh : Option Nat} {n cap : Nat} {H : Nat → HG} {gp : Option Nat} (h : WI x W psv lead gh n cap H) (ht : Touch (fun k => gp = some k) x y) (hf : ∀ k, gp = some k → Free W gh n H k) : WI y W psv lead gh n cap H :=
  h.touch ht (fun e => (hf W e).1 rfl) (fun k e e2 => (hf k e2).2.1 e) (fun j hj k i hft => World.cell?_of_block (ht.block k ((h.is j hj).foot_lt hft) (fun e => (hf k e).2.2 j hj i hft)))

/-- The law's world, with its players, behind a step. -/
structure LawAt (KIs : KeeperIs) (Iv : LK → Prop) (x : World) (W : Nat) (lead : Bool) (n : Nat) (gh gp : Option Nat) (y : World) : Prop where
  ex : ∃ gh' cap' H' gp' np cp P, WI y W (sl gp' np cp) lead gh' n cap' H' ∧ PS KIs Iv y W gh' n H' gp' np cp P ∧ np ≤ 6 ∧ (∀ k, gh' = some k → gh = some k ∨ x.heap.size ≤ k) ∧ (∀ k, gp' = some k → gp = some k ∨ x.heap.size ≤ k)
  tch : Touch (fun k => k = W ∨ gh = some k ∨ gp = some k) x y

theorem LawAt.same {KIs : KeeperIs} {Iv : LK → Prop} (HKS : KeepsSaid KIs) {x z y : World} {W : Nat} {lead : Bool} {gh gp : Option Nat} {n m : Nat} {H : Nat → HG} {np cp : Nat} {P : Nat → PG} {N : Nat → Prop} (hps : PS KIs Iv z W gh n H gp np cp P) (h6 : np ≤ 6) (hb : Below x.heap.size x z) (hs : Stays z W (sl gp np cp) lead gh n m H y N) : LawAt KIs Iv x W lead (n + m) gh gp y := by
  obtain ⟨⟨gh', cap', H', w1, g1, f1, _⟩, t⟩ := hs
  refine ⟨⟨gh', cap', H', gp, np, cp, P, w1, hps.stays HKS t f1, h6, fun k e => ?_, fun k e => .inl e⟩, (Touch.of_belowAll hb _).trans t (fun i _ e => ?_)⟩
  · rcases g1 k e with e | e
    · exact .inl e
    · exact .inr (Nat.le_trans hb.size e)
  · rcases e with e | e
    · exact .inl e
    · exact .inr (.inl e)

theorem LawAt.still {KIs : KeeperIs} {Iv : LK → Prop} (HKS : KeepsSaid KIs) {x y : World} {W : Nat} {lead : Bool} {gh gp : Option Nat} {n cap np cp : Nat} {H : Nat → HG} {P : Nat → PG} (hw : WI x W (sl gp np cp) lead gh n cap H) (hps : PS KIs Iv x W gh n H gp np cp P) (h6 : np ≤ 6) (hb : Below x.heap.size x y) : LawAt KIs Iv x W lead n gh gp y :=
  ⟨⟨gh, cap, H, gp, np, cp, P, hw.below hb, hps.below HKS hb, h6, fun _ e => .inl e, fun _ e => .inl e⟩, Touch.of_belowAll hb _⟩

theorem made_end {KIs : KeeperIs} {Iv : LK → Prop} (HKS : KeepsSaid KIs) {x Z Y w3 : World} {W n np cp cap1 p g2 c2 : Nat} {gh gh1 gp : Option Nat} {H1 : Nat → HG} {P : Nat → PG} {N : Nat → Prop} {lead : Bool} {sn : LK} {o : Obj}
    (hw : WI Y W (sl gp np cp) lead gh1 (n + 4) cap1 H1) (hp : PS KIs Iv Y W gh1 (n + 4) H1 gp np cp P) (hpl : Player KIs Y p N sn) (hN : ∀ k, N k → Z.heap.size ≤ k ∧ k < Y.heap.size) (hFN : ∀ k, N k → Free W gh1 (n + 4) H1 k)
    (hg : ∀ k, gh1 = some k → gh = some k ∨ Z.heap.size ≤ k) (ht : Touch (fun k => k = W ∨ gh = some k) Z Y) (hb : Below x.heap.size x Z) (Q : AppPost (Y.alloc o) w3 118 1 gp np 1 [.pointer (some ⟨p, 0, none⟩)] g2 c2) (h6 : np + 1 ≤ 6) (hiv : Iv sn) (hgp : ∀ k, gp = some k → k < x.heap.size) :
    LawAt KIs Iv x W lead (n + 4) gh gp (w3.setCell ⟨W, 0, none⟩ (.slice (some ⟨g2, 0, none⟩) (np + 1) c2)) := by
  have tY3 : Touch (fun k => gp = some k) Y w3 := ((Touch.refl (fun k => gp = some k) Y).alloc o).trans Q.touch (fun _ _ e => e)
  have w3w : WI w3 W (sl gp np cp) lead gh1 (n + 4) cap1 H1 := hw.touchFree tY3 hp.frg
  have t3 : Touch (fun k => k = W) w3 (w3.setCell ⟨W, 0, none⟩ (.slice (some ⟨g2, 0, none⟩) (np + 1) c2)) := (Touch.refl (fun k => k = W) w3).setCell (p := ⟨W, 0, none⟩) (fun _ => rfl) _
  have hxz := hb.size
  have hzy := ht.size
  have hg2 : gp = some g2 ∨ Y.heap.size ≤ g2 := by
    rcases Q.lies with e | e
    · exact .inl e
    · rw [World.size_alloc] at e; exact .inr (by omega)
  have fg2 : Free W gh1 (n + 4) H1 g2 := by
    rcases hg2 with e | e
    · exact hp.frg g2 e
    · exact hw.free_new e
  have ng2 : ∀ k, Free W gh1 (n + 4) H1 k → gp ≠ some k → k < Y.heap.size → (some g2 : Option Nat) ≠ some k := fun k _ h2 h3 e => by
    have e := Option.some.inj e
    subst e
    rcases hg2 with e | e
    · exact h2 e
    · omega
  refine ⟨⟨gh1, cap1, H1, some g2, np + 1, c2, fun j => if j = np then ⟨p, N, sn⟩ else P j, w3w.setPs _, ?_, h6, fun k e => ?_, fun k e => ?_⟩, ?_⟩
  · refine ⟨Q.own.touch t3 (fun k e e2 => ?_), fun j hj => ?_, fun j hj => ?_, fun j hj k hk => ?_, fun j hj k hk => ?_, fun k e => ?_, fun j hj => ?_⟩
    · have := Option.some.inj e; subst this; exact fg2.1 e2
    · refine ⟨g2, rfl, ?_⟩
      refine (World.cell?_of_block (t3.block g2 ?_ (fun e => fg2.1 e))).trans ?_
      · rcases Q.own with ⟨h, _⟩ | ⟨g', cur, h, hh, _⟩
        · cases h
        · cases h; exact heap_lt hh
      · by_cases e : j = np
        · subst e
          rw [if_pos rfl]
          have := Q.new 0 (by omega)
          simpa using this
        · rw [if_neg e]
          obtain ⟨g, e1, c⟩ := hp.ptr j (by omega)
          rw [Q.old j (by omega) g e1, World.cell?_alloc_past _ _ _ (hp.own.lt e1)]; exact c
    · by_cases e : j = np
      · subst e
        simp only [if_true]
        exact (hpl.touch HKS tY3 (fun k hk e => by have := hgp k e; have := (hN k hk).1; omega)).touch HKS t3 (fun k hk e => (hFN k hk).1 e)
      · simp only [if_neg e]
        have hj' : j < np := by omega
        exact ((hp.pl j hj').touch HKS tY3 (fun k hk e => (hp.fr j hj' k hk).2 e)).touch HKS t3 (fun k hk e => (hp.fr j hj' k hk).1.1 e)
    · have h3 : Y.heap.size ≤ (w3.setCell ⟨W, 0, none⟩ (.slice (some ⟨g2, 0, none⟩) (np + 1) c2)).heap.size := Nat.le_trans tY3.size t3.size
      by_cases e : j = np
      · subst e; simp only [if_true] at hk; have := (hN k hk).2; omega
      · simp only [if_neg e] at hk; have := hp.lt j (by omega) k hk; omega
    · by_cases e : j = np
      · subst e
        simp only [if_true] at hk
        have h1 := hN k hk
        exact ⟨hFN k hk, ng2 k (hFN k hk) (fun e => by have := hgp k e; omega) h1.2⟩
      · simp only [if_neg e] at hk
        have hj' : j < np := by omega
        exact ⟨(hp.fr j hj' k hk).1, ng2 k (hp.fr j hj' k hk).1 (hp.fr j hj' k hk).2 (hp.lt j hj' k hk)⟩
    · have := Option.some.inj e; subst this; exact fg2
    · by_cases e : j = np
      · subst e; simp only [if_true]; exact hiv
      · simp only [if_neg e]; exact hp.iv j (by omega)
  · rcases hg k e with e | e
    · exact .inl e
    · exact .inr (by omega)
  · have := Option.some.inj e; subst this
    rcases hg2 with e | e
    · exact .inl e
    · exact .inr (by omega)
  · refine (((Touch.of_belowAll hb _).trans ht (fun i _ e => ?_)).trans tY3 (fun i _ e => .inr (.inr e))).trans t3 (fun i _ e => .inl e)
    rcases e with e | e
    · exact .inl e
    · exact .inr (.inl e)

set_option maxRecDepth 100000 in
set_option maxHeartbeats 4000000 in
theorem madeOpen_on (KIs : KeeperIs) (Iv : LK → Prop) (lead : Bool) (HOS : OpenSaid KIs) (HKS : KeepsSaid KIs) (HIV : ∀ kp me pa l, ConfOk kp me pa → l.length ≤ 9000000 → (lead = true → (readD l).1.view = 0) → Iv (LK.opened kp me pa (l.take (readD l).2) (readD l).1)) (x : World) (W : Nat) (gh : Option Nat) (n cap : Nat) (H : Nat → HG) (gp : Option Nat) (np cp : Nat) (P : Nat → PG) (hw : WI x W (sl gp np cp) lead gh n cap H) (hps : PS KIs Iv x W gh n H gp np cp P) (h6 : np ≤ 6) (hn : n ≤ 90000000)
    (o : OpG) (hk : o.kind = 3) (hsl : o.s.length ≤ 9000000) (hlv : lead = false ∨ (lead = true ∧ (readD o.s).1.view = 0)) :
    Calls Tryz.prog 53 #[.pointer (some ⟨W, 0, none⟩), .agg o.cells] x fun e y => e = .returned (.bool true) ∧ LawAt KIs Iv x W lead (n + 4) gh gp y := by
  have HWI := hid hw
  have HPS := hid hps
  clear hw hps
  unfold OpG.cells sla
  obtain ⟨okind, on, l, f, fa, fc, k1, k2, k3, oa⟩ := o
  dsimp only at *
  subst hk
  have HIV := hid HIV
  have hv0 : Hid (lead = true → (readD l).1.view = 0) := fun e => by
    rcases hlv with h | h
    · rw [h] at e; cases e
    · exact h.2
  rcases hlv with rfl | ⟨rfl, hv⟩
  all_goals
    try have hvz : (((readD l).1.view : Int) != 0) = false := by simp [hv]
    try clear hv
    have hWl : W < x.heap.size := heap_lt HWI.out.wb
    go_enter Tryz.func53, Tryz.ntmps53
    go_wp2_with fail
    refine (read_any l _ (by omega)).mono ?_
    rintro e X1 ⟨gm, cm, rfl, hol, hb1⟩
    rw [World.size_alloc] at hb1
    have HX1 : Hid (Below x.heap.size x X1) := ((Below.refl _ x).alloc (Nat.le_refl _) _).trans (hb1.mono (by omega))
    have HMV : Hid (∀ m : Mm, ∀ q, m.val (gm.map fun x => (⟨x, 0, none⟩ : Addr)) q = .agg #[.int .i64 m.view, .int .i64 m.last, .slice (gm.map fun x => ⟨x, 0, none⟩) m.ls.length q]) := fun m q => rfl
    rw [HMV.out]
    have hob := (hb1.block x.heap.size (by omega)).trans (heap_alloc_new x _)
    have s2 := cell_of_heap hob 2
    have s13 := cell_of_heap hob 13
    have s14 := cell_of_heap hob 14
    have s15 := cell_of_heap hob 15
    simp only [List.getElem?_toArray, List.getElem?_cons_zero, List.getElem?_cons_succ] at s2 s13 s14 s15
    have WX1 := hid (HWI.out.below HX1.out)
    have w0 := cell_of_heap WX1.out.wb 0
    have w2 := cell_of_heap WX1.out.wb 2
    simp only [List.getElem?_toArray, List.getElem?_cons_zero, List.getElem?_cons_succ] at w0 w2
    have hs1 : x.heap.size < X1.heap.size := heap_lt hob
    have hW1 : W < X1.heap.size := by omega
    clear hol hb1 hob
    unfold sl at w0
    obtain ⟨Z, hZ⟩ : ∃ Z : World, Z = X1.alloc (.cells #[.int .i64 (readD l).1.view, .int .i64 (readD l).1.last, .slice (gm.map fun x => ⟨x, 0, none⟩) (readD l).1.ls.length cm] 176) := ⟨_, rfl⟩
    have BZ : Hid (Below x.heap.size x Z) := by show Below _ _ _; rw [hZ]; exact HX1.out.alloc HX1.out.size _
    have WZ := hid (HWI.out.below BZ.out)
    have PZ := hid (HPS.out.below HKS BZ.out)
    have HZ := hid hZ
    clear hZ
    go_wp2_with fail
    rw [← HZ.out]
    by_cases hc : ConfOk k1 k2 k3
    · have HI := hid (HIV.out k1 k2 k3 l hc hsl (fun e => hv0.out e))
      refine (opened_yes KIs HOS HKS Z W (sl gp np cp) _ gh n cap H WZ.out (by omega) k1 k2 k3 l (by omega) hc).mono ?_
      rintro e Y ⟨p, N, rfl, hpl, hN, hst⟩
      have HL := hid (LawAt.same HKS PZ.out h6 BZ.out hst)
      obtain ⟨⟨gh1, cap1, H1, W1, g1, f1, fN⟩, t1⟩ := hst
      have HW1 := hid W1
      have HP1 := hid (PZ.out.stays HKS t1 f1)
      have HPL := hid hpl
      have HN := hid hN
      have HFN := hid fN
      have HG1 := hid g1
      have HT1 := hid t1
      have v0 := cell_of_heap W1.wb 0
      have fv : ∀ j, Y.frozen? ⟨W, j, none⟩ = false := fun j => frozen_of_heap W1.wb j
      simp only [List.getElem?_toArray, List.getElem?_cons_zero] at v0
      unfold sl at v0
      have hWY : W < Y.heap.size := heap_lt W1.wb
      have hzy : Z.heap.size ≤ Y.heap.size := t1.size
      have hxz : x.heap.size ≤ Z.heap.size := BZ.out.size
      clear W1 g1 f1 fN t1 hpl hN s2 s13 s14 s15 w0 w2
      by_cases hn6 : np = 6
      · have l6 : ¬ ((np : Int) < 6) := by omega
        go_wp2
        go_ret
        exact ⟨rfl, HL.out⟩
      · have l6 : (np : Int) < 6 := by omega
        obtain ⟨ip, hip, hip0, hip1, hip2⟩ := info_parts Tryz.info118
        have own1 : Hid (OwnRow (Y.alloc (.cells #[.pointer (some ⟨p, 0, none⟩)] 118)) 118 1 gp np cp) := HP1.out.own.alloc _
        go_wp2_with (at_builtin; refine wpList_app _ rfl (.tmp 57) (.tmp 59) 78 rfl 118 ip (.pointer none) 1 8 Tryz.underlying78 hip hip0 hip1 hip2 rfl gp np cp (by rfl) own1.out ⟨Y.heap.size, 0, none⟩ 1 1 [.pointer (some ⟨p, 0, none⟩)] rfl rfl ?c1 ?c2 (by omega) (by omega) (by omega) ?_)
        case c1 => exact World.news_of_block (heap_alloc_new Y _)
        case c2 => intro u hu; simp at hu; subst hu; rfl
        intro g2 c2 w3 Q
        have LA : Hid (LawAt KIs Iv x W _ (n + 4) gh gp (w3.setCell ⟨W, 0, none⟩ (.slice (some ⟨g2, 0, none⟩) (np + 1) c2))) := made_end HKS HW1.out HP1.out HPL.out HN.out HFN.out HG1.out HT1.out BZ.out Q (by omega) HI.out (fun k e => HPS.out.own.lt e)
        have hq0 : w3.cell? ⟨W, 0, none⟩ = some (.slice (gp.map fun g => ⟨g, 0, none⟩) np cp) := by
          rw [Q.keep W 0 (by simp; omega) (fun e => (HP1.out.frg W e.1).1 rfl), World.cell?_alloc_past _ _ _ hWY]; exact v0
        have hq1 : ∀ j, w3.frozen? ⟨W, j, none⟩ = false := fun j => by
          have h1 := Q.touch.heapAt (o := .cells #[sl gp np cp, sl gh1 (n + 4) cap1, .bool _] 81 (0, 0)) (alloc_keep1 HW1.out.wb) (fun e => (HP1.out.frg W e).1 rfl)
          exact frozen_of_heap h1 j
        clear Q v0 fv
        go_wp2
        go_ret
        exact ⟨rfl, LA.out⟩
    · refine (opened_no KIs HOS Z W (sl gp np cp) _ gh n cap H WZ.out (by omega) k1 k2 k3 l (by omega) hc).mono ?_
      rintro e Y ⟨rfl, hst⟩
      have HL := hid (LawAt.same HKS PZ.out h6 BZ.out hst)
      clear hst
      go_wp2
      go_ret
      exact ⟨rfl, HL.out⟩

set_option maxRecDepth 100000 in
set_option maxHeartbeats 4000000 in
theorem madeOpen_past (KIs : KeeperIs) (Iv : LK → Prop) (HKS : KeepsSaid KIs) (x : World) (W : Nat) (gh : Option Nat) (n cap : Nat) (H : Nat → HG) (gp : Option Nat) (np cp : Nat) (P : Nat → PG) (hw : WI x W (sl gp np cp) true gh n cap H) (hps : PS KIs Iv x W gh n H gp np cp P) (h6 : np ≤ 6)
    (o : OpG) (hk : o.kind = 3) (hsl : o.s.length ≤ 9000000) (hv : (readD o.s).1.view ≠ 0) :
    Calls Tryz.prog 53 #[.pointer (some ⟨W, 0, none⟩), .agg o.cells] x fun e y => e = .returned (.bool true) ∧ LawAt KIs Iv x W true n gh gp y := by
  have HWI := hid hw
  have HPS := hid hps
  clear hw hps
  unfold OpG.cells sla
  obtain ⟨okind, on, l, f, fa, fc, k1, k2, k3, oa⟩ := o
  dsimp only at *
  subst hk
  have hvz : (((readD l).1.view : Int) != 0) = true := by simp [hv]
  have hWl : W < x.heap.size := heap_lt HWI.out.wb
  go_enter Tryz.func53, Tryz.ntmps53
  go_wp2_with fail
  refine (read_any l _ (by omega)).mono ?_
  rintro e X1 ⟨gm, cm, rfl, hol, hb1⟩
  rw [World.size_alloc] at hb1
  have HX1 : Hid (Below x.heap.size x X1) := ((Below.refl _ x).alloc (Nat.le_refl _) _).trans (hb1.mono (by omega))
  have HMV : Hid (∀ m : Mm, ∀ q, m.val (gm.map fun x => (⟨x, 0, none⟩ : Addr)) q = .agg #[.int .i64 m.view, .int .i64 m.last, .slice (gm.map fun x => ⟨x, 0, none⟩) m.ls.length q]) := fun m q => rfl
  rw [HMV.out]
  have WX1 := hid (HWI.out.below HX1.out)
  have w2 := cell_of_heap WX1.out.wb 2
  simp only [List.getElem?_toArray, List.getElem?_cons_zero, List.getElem?_cons_succ] at w2
  have hs1 : x.heap.size ≤ X1.heap.size := HX1.out.size
  have hW1 : W < X1.heap.size := by omega
  clear hol hb1
  go_wp2
  go_ret
  exact ⟨rfl, LawAt.still HKS HWI.out HPS.out h6 (HX1.out.alloc HX1.out.size _)⟩

end Go.Proofs.YtolififimldmlaaGreat
