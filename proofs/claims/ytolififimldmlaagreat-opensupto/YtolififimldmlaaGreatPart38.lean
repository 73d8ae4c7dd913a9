import Derived.Test.YtolififimldmlaaGreatPart37
import Derived.Deep.RegionHeld3
import Derived.Test.YtolififimldmlaaGreatPart30
set_option linter.unusedVariables false
set_option linter.unusedSimpArgs false
namespace Go.Proofs.YtolififimldmlaaGreat
open Go.RowKit
attribute [local go_sem ↓] Go.wp_at_zero Go.wp_at_succ

/-- What the program's State must do. -/
def StateSaid (KIs : KeeperIs) : Prop := ∀ (w : World) (K : Nat) (F : Nat → Prop) (s : LK), KIs w K F s → s.ok →
  Calls Tryz.prog 26 #[.pointer (some ⟨K, 0, none⟩)] w fun e w' => e = .returned s.stateV ∧ Below w.heap.size w w'
/-- What the program's Agreed must do. -/
def AgreedSaid (KIs : KeeperIs) : Prop := ∀ (w : World) (K : Nat) (F : Nat → Prop) (s : LK), KIs w K F s → s.ok →
  Calls Tryz.prog 24 #[.pointer (some ⟨K, 0, none⟩)] w fun e w' => ∃ g c, e = .returned (sl g (s.mv.ls.take s.av).length c) ∧ OwnLines w w' g c (s.mv.ls.take s.av) ∧ Below w.heap.size w w'

theorem LawAt.box {KIs : KeeperIs} {Iv : LK → Prop} {x y : World} {W : Nat} {lead : Bool} {gh gp : Option Nat} {n : Nat} {o : Obj} (h : LawAt KIs Iv (x.alloc o) W lead n gh gp y) : LawAt KIs Iv x W lead n gh gp y := by
  obtain ⟨⟨gh', cap', H', gp', np, cp, P, a, b, c, d, e⟩, t⟩ := h
  refine ⟨⟨gh', cap', H', gp', np, cp, P, a, b, c, fun k hk => ?_, fun k hk => ?_⟩, ((Touch.refl _ x).alloc o).trans t (fun _ _ e => e)⟩
  · rcases d k hk with d | d
    · exact .inl d
    · rw [World.size_alloc] at d; exact .inr (by omega)
  · rcases e k hk with d | d
    · exact .inl d
    · rw [World.size_alloc] at d; exact .inr (by omega)

set_option maxRecDepth 100000 in
set_option maxHeartbeats 1000000 in
theorem stepMade (KIs : KeeperIs) (Iv : LK → Prop) (lead : Bool) (m : Nat) (x : World) (W : Nat) (gh gp : Option Nat) (n : Nat) (o : OpG) (hk : o.kind = 3 ∨ o.kind = 7)
    (HM : Calls Tryz.prog 53 #[.pointer (some ⟨W, 0, none⟩), .agg o.cells] (x.alloc (.cells o.cells 76)) fun e y => e = .returned (.bool true) ∧ LawAt KIs Iv (x.alloc (.cells o.cells 76)) W lead m gh gp y) :
    Calls Tryz.prog 30 #[.pointer (some ⟨W, 0, none⟩), .agg o.cells] x fun e y => e = .returned (.bool true) ∧ LawAt KIs Iv x W lead m gh gp y := by
  have HM := hid HM
  unfold OpG.cells sla at *
  obtain ⟨okind, on, l, f, fa, fc, c1, c2, c3, oa⟩ := o
  dsimp only at *
  rcases hk with rfl | rfl
  all_goals
    go_enter Tryz.func30, Tryz.ntmps30
    go_wp2_with fail
    refine HM.out.mono ?_
    rintro e y ⟨rfl, hs⟩
    go_wp2
    go_ret
    exact ⟨rfl, hs.box⟩

set_option maxRecDepth 100000 in
set_option maxHeartbeats 4000000 in
theorem stepNone (KIs : KeeperIs) (Iv : LK → Prop) (lead : Bool) (HKS : KeepsSaid KIs) (x : World) (W : Nat) (gh : Option Nat) (n cap : Nat) (H : Nat → HG) (gp : Option Nat) (cp : Nat) (P : Nat → PG) (hw : WI x W (sl gp 0 cp) lead gh n cap H) (hps : PS KIs Iv x W gh n H gp 0 cp P)
    (o : OpG) (hk : 3 < o.kind) (hk7 : o.kind ≠ 7) :
    Calls Tryz.prog 30 #[.pointer (some ⟨W, 0, none⟩), .agg o.cells] x fun e y => e = .returned (.bool true) ∧ LawAt KIs Iv x W lead n gh gp y := by
  have HWI := hid hw
  have HPS := hid hps
  have w0 := cell_of_heap hw.wb 0
  simp only [List.getElem?_toArray, List.getElem?_cons_zero] at w0
  unfold sl at w0
  have hWl : W < x.heap.size := heap_lt hw.wb
  clear hw hps
  unfold OpG.cells sla
  obtain ⟨okind, on, l, f, fa, fc, k1, k2, k3, oa⟩ := o
  dsimp only at *
  have n1 : (okind == 1) = false := beq_eq_false_iff_ne.2 (by omega)
  have n2 : (okind == 2) = false := beq_eq_false_iff_ne.2 (by omega)
  have n3 : (okind == 3) = false := beq_eq_false_iff_ne.2 (by omega)
  have n7 : (okind == 7) = false := beq_eq_false_iff_ne.2 (by omega)
  go_enter Tryz.func30, Tryz.ntmps30
  go_wp2
  go_ret
  exact ⟨rfl, LawAt.still HKS HWI.out HPS.out (by omega) ((Below.refl _ _).alloc (Nat.le_refl _) _)⟩

end Go.Proofs.YtolififimldmlaaGreat

set_option linter.unusedVariables false
set_option linter.unusedSimpArgs false
namespace Go.Proofs.YtolififimldmlaaGreat
open Go.RowKit
attribute [local go_sem ↓] Go.wp_at_zero Go.wp_at_succ

/-- The program's keeper: its cells. -/
def progCells (kp me pa : Int) (gd : Option Nat) (dn cd : Nat) (m : Mm) (gl : Option Nat) (cl : Nat) (arm : Int) (gf : Option Nat) (fn cf : Nat) (ag : Nat) (hs : Nat → Int) : Array Value :=
  #[.int .i64 kp, .int .i64 me, .int .i64 pa, sl gd dn cd, .int .i64 m.view, .int .i64 m.last, sl gl m.ls.length cl, .int .i64 arm, sl gf fn cf, .int .i64 ag,
    .int .i64 (hs 0), .int .i64 (hs 1), .int .i64 (hs 2), .int .i64 (hs 3), .int .i64 (hs 4), .int .i64 0, .bool false, .bool false, .bool false, .bool false, .bool false, .slice none 0 0, .bool false]

/-- What a keeper's block and rows hold: explicit. -/
structure PK (w : World) (K : Nat) (kp me pa : Int) (d : List UInt8) (m : Mm) (arm : Int) (lost : List UInt8) (ag : Nat) (hs : Nat → Int) (gd : Option Nat) (cd : Nat) (gl : Option Nat) (cl : Nat) (gf : Option Nat) (cf : Nat) : Prop where
  blk : w.heap[K]? = some (.cells (progCells kp me pa gd d.length cd m gl cl arm gf lost.length cf ag hs) 103 (0, 0))
  db : BytesAt w gd d
  dow : OwnRow w 5 1 gd d.length cd
  lb : LinesAt w (gl.map fun k => (⟨k, 0, none⟩ : Addr)) m.ls
  low : OwnRow w 27 3 gl m.ls.length cl
  fb : BytesAt w gf lost
  fow : OwnRow w 5 1 gf lost.length cf
  ne1 : gd ≠ some K ∧ gl ≠ some K ∧ gf ≠ some K
  ne2 : (∀ k, gd = some k → gl ≠ some k) ∧ (∀ k, gd = some k → gf ≠ some k) ∧ (∀ k, gl = some k → gf ≠ some k)

theorem PK.touch {T : Nat → Prop} {w w' : World} {K : Nat} {kp me pa : Int} {d : List UInt8} {m : Mm} {arm : Int} {lost : List UInt8} {ag : Nat} {hs : Nat → Int} {gd gl gf : Option Nat} {cd cl cf : Nat} (h : PK w K kp me pa d m arm lost ag hs gd cd gl cl gf cf)
    (ht : Touch T w w') (hK : ¬ T K) (hd : ∀ k, gd = some k → ¬ T k) (hl : ∀ k, gl = some k → ¬ T k) (hf : ∀ k, gf = some k → ¬ T k) : PK w' K kp me pa d m arm lost ag hs gd cd gl cl gf cf :=
  ⟨ht.heapAt h.blk hK, h.db.touch ht hd, h.dow.touch ht hd, h.lb.touch ht (fun q e => by
    cases gl with
    | none => cases e
    | some g0 => cases e; exact hl g0 rfl), h.low.touch ht hl, h.fb.touch ht hf, h.fow.touch ht hf, h.ne1, h.ne2⟩

/-- How the program's keeper lies in memory: one that is dead has forgotten all but its disk. -/
def KIs_ : KeeperIs := fun w K F s => ∃ gd cd gl cl gf cf,
  PK w K (if s.dead then 0 else s.kp) (if s.dead then 0 else s.me) (if s.dead then 0 else s.pa) s.d s.mv (if s.dead then 0 else s.arm) s.lost s.av (if s.dead then fun _ => 0 else s.hs) gd cd gl cl gf cf ∧ ∀ k, F k ↔ (k = K ∨ gd = some k ∨ gl = some k ∨ gf = some k)

theorem keepsSaid_ : KeepsSaid KIs_ := fun T w w' K F s h ht hn => by
  obtain ⟨gd, cd, gl, cl, gf, cf, h1, h2⟩ := h
  exact ⟨gd, cd, gl, cl, gf, cf, h1.touch ht (hn K ((h2 K).2 (.inl rfl))) (fun k e => hn k ((h2 k).2 (.inr (.inl e)))) (fun k e => hn k ((h2 k).2 (.inr (.inr (.inl e))))) (fun k e => hn k ((h2 k).2 (.inr (.inr (.inr e))))), h2⟩

theorem run_field3 (w : World) (a b c : Value) : (Instr.field 94 (.agg #[a, b, c]) 2).run Tryz.prog w = .ok c w := by
  unfold Instr.field
  simp [go_sem, asAgg]
attribute [local go_sem] run_field3

theorem PK.below {w : World} {K : Nat} {kp me pa : Int} {d : List UInt8} {m : Mm} {arm : Int} {lost : List UInt8} {ag : Nat} {hs : Nat → Int} {gd gl gf : Option Nat} {cd cl cf : Nat} (h : PK w K kp me pa d m arm lost ag hs gd cd gl cl gf cf) {w' : World} (hb : Below w.heap.size w w') : PK w' K kp me pa d m arm lost ag hs gd cd gl cl gf cf :=
  h.touch (Touch.of_belowAll hb (fun _ => False)) (fun e => e) (fun _ _ e => e) (fun _ _ e => e) (fun _ _ e => e)

set_option maxRecDepth 100000 in
set_option maxHeartbeats 4000000 in
/-- Said: what the disk says. -/
theorem said_go (K : Nat) (kp me pa : Int) (d : List UInt8) (m : Mm) (arm : Int) (lost : List UInt8) (ag : Nat) (hs : Nat → Int) (gd : Option Nat) (cd : Nat) (gl : Option Nat) (cl : Nat) (gf : Option Nat) (cf : Nat) (w : World) (h : PK w K kp me pa d m arm lost ag hs gd cd gl cl gf cf) :
    Calls Tryz.prog 47 #[.pointer (some ⟨K, 3, none⟩)] w fun e w' => e = .returned (.agg #[.int .i64 m.view, .int .i64 m.last, sl gl m.ls.length cl]) ∧ Below w.heap.size w w' := by
  have c4 : w.cell? ⟨K, 4, none⟩ = some (.int .i64 m.view) := cell_of_heap h.blk 4
  have c5 : w.cell? ⟨K, 5, none⟩ = some (.int .i64 m.last) := cell_of_heap h.blk 5
  have c6 : w.cell? ⟨K, 6, none⟩ = some (sl gl m.ls.length cl) := cell_of_heap h.blk 6
  have hK : K < w.heap.size := heap_lt h.blk
  have hK2 : K ≠ w.heap.size := by omega
  clear h
  unfold sl at *
  go_enter Tryz.func47, Tryz.ntmps47
  go_wp2
  refine bodyPost_ret (v := .agg #[.int .i64 m.view, .int .i64 m.last, .slice (gl.map fun g => ⟨g, 0, none⟩) m.ls.length cl]) ?_ rfl ⟨rfl, (Below.refl _ _).alloc (Nat.le_refl _) _⟩
  simp [results, Tryz.results47, go_sem, World.cell?_alloc_new]

set_option maxRecDepth 100000 in
set_option maxHeartbeats 4000000 in
theorem lines_go (K : Nat) (kp me pa : Int) (d : List UInt8) (m : Mm) (arm : Int) (lost : List UInt8) (ag : Nat) (hs : Nat → Int) (gd : Option Nat) (cd : Nat) (gl : Option Nat) (cl : Nat) (gf : Option Nat) (cf : Nat) (w : World) (h : PK w K kp me pa d m arm lost ag hs gd cd gl cl gf cf) :
    Calls Tryz.prog 83 #[.pointer (some ⟨K, 0, none⟩)] w fun e w' => e = .returned (sl gl m.ls.length cl) ∧ Below w.heap.size w w' := by
  have HP := hid h
  clear h
  go_enter Tryz.func83, Tryz.ntmps83
  go_wp2_with fail
  refine (said_go K kp me pa d m arm lost ag hs gd cd gl cl gf cf _ HP.out).mono ?_
  rintro e w2 ⟨rfl, hb⟩
  unfold sl
  go_wp2
  go_ret
  exact ⟨rfl, hb⟩

set_option maxRecDepth 100000 in
set_option maxHeartbeats 4000000 in
theorem state_go (K : Nat) (kp me pa : Int) (d : List UInt8) (m : Mm) (arm : Int) (lost : List UInt8) (ag : Nat) (hs : Nat → Int) (gd : Option Nat) (cd : Nat) (gl : Option Nat) (cl : Nat) (gf : Option Nat) (cf : Nat) (w : World) (h : PK w K kp me pa d m arm lost ag hs gd cd gl cl gf cf) :
    Calls Tryz.prog 26 #[.pointer (some ⟨K, 0, none⟩)] w fun e w' => e = .returned (.agg #[.int .i64 m.view, .int .i64 m.last, .int .i64 m.ls.length, .int .i64 ag]) ∧ Below w.heap.size w w' := by
  have HP := hid h
  have hK : K < w.heap.size := heap_lt h.blk
  clear h
  go_enter Tryz.func26, Tryz.ntmps26
  go_wp2_with fail
  refine (said_go K kp me pa d m arm lost ag hs gd cd gl cl gf cf _ (HP.out.below ((Below.refl _ _).alloc (Nat.le_refl _) _))).mono ?_
  rintro e w2 ⟨rfl, hb⟩
  rw [World.size_alloc] at hb
  have HB : Hid (Below w.heap.size w w2) := ((Below.refl _ _).alloc (Nat.le_refl _) _).trans (hb.mono (by omega))
  have hR : w2.heap[w.heap.size]? = some (.cells #[.int .i64 0, .int .i64 0, .int .i64 0, .int .i64 0] 67 (0, 0)) := by rw [hb.block _ (by omega)]; exact heap_alloc_new w _
  have c9 : w2.cell? ⟨K, 9, none⟩ = some (.int .i64 ag) := cell_of_heap (HP.out.below HB.out).blk 9
  have hs2 : w.heap.size < w2.heap.size := heap_lt hR
  clear hb
  unfold sl
  go_wp2
  generalize hY : w2.alloc (.cells #[.int .i64 m.view, .int .i64 m.last, .slice (gl.map fun g => ⟨g, 0, none⟩) m.ls.length cl] 94) = Y
  have y0 : Y.cell? ⟨w2.heap.size, 0, none⟩ = some (.int .i64 m.view) := by rw [← hY]; exact World.cell?_alloc_new _ _ _ _
  have y1 : Y.cell? ⟨w2.heap.size, 1, none⟩ = some (.int .i64 m.last) := by rw [← hY]; exact World.cell?_alloc_new _ _ _ _
  have y2 : Y.cell? ⟨w2.heap.size, 2, none⟩ = some (.slice (gl.map fun g => ⟨g, 0, none⟩) m.ls.length cl) := by rw [← hY]; exact World.cell?_alloc_new _ _ _ _
  have y9 : Y.cell? ⟨K, 9, none⟩ = some (.int .i64 ag) := by rw [← hY, World.cell?_alloc_past _ _ _ (by omega)]; exact c9
  have HR : Hid (Y.heap[w.heap.size]? = some (.cells #[.int .i64 0, .int .i64 0, .int .i64 0, .int .i64 0] 67 (0, 0))) := by show _ = _; rw [← hY]; exact alloc_keep1 hR
  have q0 : Y.cell? ⟨w.heap.size, 0, none⟩ = some (.int .i64 0) := cell_of_heap HR.out 0
  have q1 : Y.cell? ⟨w.heap.size, 1, none⟩ = some (.int .i64 0) := cell_of_heap HR.out 1
  have q2 : Y.cell? ⟨w.heap.size, 2, none⟩ = some (.int .i64 0) := cell_of_heap HR.out 2
  have q3 : Y.cell? ⟨w.heap.size, 3, none⟩ = some (.int .i64 0) := cell_of_heap HR.out 3
  have fq : ∀ j, Y.frozen? ⟨w.heap.size, j, none⟩ = false := fun j => frozen_of_heap HR.out j
  have BY : Hid (Below w.heap.size w Y) := by show Below _ _ _; rw [← hY]; exact HB.out.alloc HB.out.size _
  clear hY c9 hR
  go_still_tail 11, (by kernel_rfl)
  go_wp2
  have h4 := heap_setCell (heap_setCell (heap_setCell (heap_setCell HR.out 0 (.int .i64 m.view)) 1 (.int .i64 m.last)) 2 (.int .i64 m.ls.length)) 3 (.int .i64 ag)
  simp only [List.setIfInBounds_toArray, List.set_cons_zero, List.set_cons_succ] at h4
  have z0 := cell_of_heap h4 0
  have z1 := cell_of_heap h4 1
  have z2 := cell_of_heap h4 2
  have z3 := cell_of_heap h4 3
  simp only [List.getElem?_toArray, List.getElem?_cons_zero, List.getElem?_cons_succ] at z0 z1 z2 z3
  refine bodyPost_ret (v := .agg #[.int .i64 m.view, .int .i64 m.last, .int .i64 m.ls.length, .int .i64 ag]) ?_ rfl ⟨rfl, ?_⟩
  · simp [results, Tryz.results26, go_sem, z0, z1, z2, z3]
  · exact ((((BY.out.setCell (p := ⟨w.heap.size, 0, none⟩) (Nat.le_refl _) _).setCell (p := ⟨w.heap.size, 1, none⟩) (Nat.le_refl _) _).setCell (p := ⟨w.heap.size, 2, none⟩) (Nat.le_refl _) _).setCell (p := ⟨w.heap.size, 3, none⟩) (Nat.le_refl _) _).drew

theorem stateSaid_ : StateSaid KIs_ := fun w K F s h hok => by
  obtain ⟨gd, cd, gl, cl, gf, cf, h1, _⟩ := h
  exact state_go K _ _ _ _ _ _ _ _ _ gd cd gl cl gf cf w h1

end Go.Proofs.YtolififimldmlaaGreat
