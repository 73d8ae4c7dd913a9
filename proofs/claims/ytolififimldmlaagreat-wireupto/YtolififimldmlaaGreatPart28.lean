import Derived.Test.YtolififimldmlaaGreatPart23
import Derived.Test.YtolififimldmlaaGreatPart27
import Derived.Lib.AppendZeros
set_option linter.unusedVariables false
set_option linter.unusedSimpArgs false
namespace Go.Proofs.YtolififimldmlaaGreat
open Go.RowKit
attribute [local go_sem ↓] Go.wp_at_zero Go.wp_at_succ

/-- The program's keeper: its cells. -/
def progCells (kp me pa : Int) (gd : Option Nat) (dn cd : Nat) (m : Mm) (gl : Option Nat) (cl : Nat) (arm : Int) (gf : Option Nat) (fn cf : Nat) (ag : Nat) (hs : Nat → Int) : Array Value :=
  #[.int .i64 kp, .int .i64 me, .int .i64 pa, sl gd dn cd, .int .i64 m.view, .int .i64 m.last, sl gl m.ls.length cl, .int .i64 arm, sl gf fn cf, .int .i64 ag,
    .int .i64 (hs 0), .int .i64 (hs 1), .int .i64 (hs 2), .int .i64 (hs 3), .int .i64 (hs 4), .int .i64 0, .bool false, .bool false, .bool false, .bool false, .bool false, .slice none 0 0, .bool false]

/-- What a keeper's block and rows hold: explicit. -/
structure PK (w : World) (K : Nat) (kp me pa : Int) (d : List UInt8) (m : Mm) (arm : Int) (lost : List UInt8) (ag : Nat) (hs : Nat → Int) (gd : Option Nat) (cd : Nat) (gl : Option Nat) (cl : Nat) (gf : Option Nat) (cf : Nat) : Prop where
  blk : w.heap[K]? = some (.cells (progCells kp me pa gd d.length cd m gl cl arm gf lost.length cf ag hs) 103 (0, 0))
  db : BytesAt w gd d
  dow : OwnRow w 5 1 gd d.length cd
  lb : LinesAt w (gl.map fun k => (⟨k, 0, none⟩ : Addr)) m.ls
  low : OwnRow w 27 3 gl m.ls.length cl
  fb : BytesAt w gf lost
  fow : OwnRow w 5 1 gf lost.length cf
  ne1 : gd ≠ some K ∧ gl ≠ some K ∧ gf ≠ some K
  ne2 : (∀ k, gd = some k → gl ≠ some k) ∧ (∀ k, gd = some k → gf ≠ some k) ∧ (∀ k, gl = some k → gf ≠ some k)

theorem PK.touch {T : Nat → Prop} {w w' : World} {K : Nat} {kp me pa : Int} {d : List UInt8} {m : Mm} {arm : Int} {lost : List UInt8} {ag : Nat} {hs : Nat → Int} {gd gl gf : Option Nat} {cd cl cf : Nat} (h : PK w K kp me pa d m arm lost ag hs gd cd gl cl gf cf)
    (ht : Touch T w w') (hK : ¬ T K) (hd : ∀ k, gd = some k → ¬ T k) (hl : ∀ k, gl = some k → ¬ T k) (hf : ∀ k, gf = some k → ¬ T k) : PK w' K kp me pa d m arm lost ag hs gd cd gl cl gf cf :=
  ⟨ht.heapAt h.blk hK, h.db.touch ht hd, h.dow.touch ht hd, h.lb.touch ht (fun q e => by
    cases gl with
    | none => cases e
    | some g0 => cases e; exact hl g0 rfl), h.low.touch ht hl, h.fb.touch ht hf, h.fow.touch ht hf, h.ne1, h.ne2⟩

/-- How the program's keeper lies in memory: one that is dead has forgotten all but its disk. -/
def KIs_ : KeeperIs := fun w K F s => ∃ gd cd gl cl gf cf,
  PK w K (if s.dead then 0 else s.kp) (if s.dead then 0 else s.me) (if s.dead then 0 else s.pa) s.d s.mv (if s.dead then 0 else s.arm) s.lost s.av (if s.dead then fun _ => 0 else s.hs) gd cd gl cl gf cf ∧ ∀ k, F k ↔ (k = K ∨ gd = some k ∨ gl = some k ∨ gf = some k)

theorem keepsSaid_ : KeepsSaid KIs_ := fun T w w' K F s h ht hn => by
  obtain ⟨gd, cd, gl, cl, gf, cf, h1, h2⟩ := h
  exact ⟨gd, cd, gl, cl, gf, cf, h1.touch ht (hn K ((h2 K).2 (.inl rfl))) (fun k e => hn k ((h2 k).2 (.inr (.inl e)))) (fun k e => hn k ((h2 k).2 (.inr (.inr (.inl e))))) (fun k e => hn k ((h2 k).2 (.inr (.inr (.inr e))))), h2⟩

theorem run_field3 (w : World) (a b c : Value) : (Instr.field 94 (.agg #[a, b, c]) 2).run Tryz.prog w = .ok c w := by
  unfold Instr.field
  simp [go_sem, asAgg]
attribute [local go_sem] run_field3

theorem PK.below {w : World} {K : Nat} {kp me pa : Int} {d : List UInt8} {m : Mm} {arm : Int} {lost : List UInt8} {ag : Nat} {hs : Nat → Int} {gd gl gf : Option Nat} {cd cl cf : Nat} (h : PK w K kp me pa d m arm lost ag hs gd cd gl cl gf cf) {w' : World} (hb : Below w.heap.size w w') : PK w' K kp me pa d m arm lost ag hs gd cd gl cl gf cf :=
  h.touch (Touch.of_belowAll hb (fun _ => False)) (fun e => e) (fun _ _ e => e) (fun _ _ e => e) (fun _ _ e => e)

set_option maxRecDepth 100000 in
set_option maxHeartbeats 4000000 in
/-- Said: what the disk says. -/
theorem said_go (K : Nat) (kp me pa : Int) (d : List UInt8) (m : Mm) (arm : Int) (lost : List UInt8) (ag : Nat) (hs : Nat → Int) (gd : Option Nat) (cd : Nat) (gl : Option Nat) (cl : Nat) (gf : Option Nat) (cf : Nat) (w : World) (h : PK w K kp me pa d m arm lost ag hs gd cd gl cl gf cf) :
    Calls Tryz.prog 47 #[.pointer (some ⟨K, 3, none⟩)] w fun e w' => e = .returned (.agg #[.int .i64 m.view, .int .i64 m.last, sl gl m.ls.length cl]) ∧ Below w.heap.size w w' := by
  have c4 : w.cell? ⟨K, 4, none⟩ = some (.int .i64 m.view) := cell_of_heap h.blk 4
  have c5 : w.cell? ⟨K, 5, none⟩ = some (.int .i64 m.last) := cell_of_heap h.blk 5
  have c6 : w.cell? ⟨K, 6, none⟩ = some (sl gl m.ls.length cl) := cell_of_heap h.blk 6
  have hK : K < w.heap.size := heap_lt h.blk
  have hK2 : K ≠ w.heap.size := by omega
  clear h
  unfold sl at *
  go_enter Tryz.func47, Tryz.ntmps47
  go_wp2
  refine bodyPost_ret (v := .agg #[.int .i64 m.view, .int .i64 m.last, .slice (gl.map fun g => ⟨g, 0, none⟩) m.ls.length cl]) ?_ rfl ⟨rfl, (Below.refl _ _).alloc (Nat.le_refl _) _⟩
  simp [results, Tryz.results47, go_sem, World.cell?_alloc_new]

set_option maxRecDepth 100000 in
set_option maxHeartbeats 4000000 in
theorem lines_go (K : Nat) (kp me pa : Int) (d : List UInt8) (m : Mm) (arm : Int) (lost : List UInt8) (ag : Nat) (hs : Nat → Int) (gd : Option Nat) (cd : Nat) (gl : Option Nat) (cl : Nat) (gf : Option Nat) (cf : Nat) (w : World) (h : PK w K kp me pa d m arm lost ag hs gd cd gl cl gf cf) :
    Calls Tryz.prog 83 #[.pointer (some ⟨K, 0, none⟩)] w fun e w' => e = .returned (sl gl m.ls.length cl) ∧ Below w.heap.size w w' := by
  have HP := hid h
  clear h
  go_enter Tryz.func83, Tryz.ntmps83
  go_wp2_with fail
  refine (said_go K kp me pa d m arm lost ag hs gd cd gl cl gf cf _ HP.out).mono ?_
  rintro e w2 ⟨rfl, hb⟩
  unfold sl
  go_wp2
  go_ret
  exact ⟨rfl, hb⟩

set_option maxRecDepth 100000 in
set_option maxHeartbeats 4000000 in
theorem state_go (K : Nat) (kp me pa : Int) (d : List UInt8) (m : Mm) (arm : Int) (lost : List UInt8) (ag : Nat) (hs : Nat → Int) (gd : Option Nat) (cd : Nat) (gl : Option Nat) (cl : Nat) (gf : Option Nat) (cf : Nat) (w : World) (h : PK w K kp me pa d m arm lost ag hs gd cd gl cl gf cf) :
    Calls Tryz.prog 26 #[.pointer (some ⟨K, 0, none⟩)] w fun e w' => e = .returned (.agg #[.int .i64 m.view, .int .i64 m.last, .int .i64 m.ls.length, .int .i64 ag]) ∧ Below w.heap.size w w' := by
  have HP := hid h
  have hK : K < w.heap.size := heap_lt h.blk
  clear h
  go_enter Tryz.func26, Tryz.ntmps26
  go_wp2_with fail
  refine (said_go K kp me pa d m arm lost ag hs gd cd gl cl gf cf _ (HP.out.below ((Below.refl _ _).alloc (Nat.le_refl _) _))).mono ?_
  rintro e w2 ⟨rfl, hb⟩
  rw [World.size_alloc] at hb
  have HB : Hid (Below w.heap.size w w2) := ((Below.refl _ _).alloc (Nat.le_refl _) _).trans (hb.mono (by omega))
  have hR : w2.heap[w.heap.size]? = some (.cells #[.int .i64 0, .int .i64 0, .int .i64 0, .int .i64 0] 67 (0, 0)) := by rw [hb.block _ (by omega)]; exact heap_alloc_new w _
  have c9 : w2.cell? ⟨K, 9, none⟩ = some (.int .i64 ag) := cell_of_heap (HP.out.below HB.out).blk 9
  have hs2 : w.heap.size < w2.heap.size := heap_lt hR
  clear hb
  unfold sl
  go_wp2
  generalize hY : w2.alloc (.cells #[.int .i64 m.view, .int .i64 m.last, .slice (gl.map fun g => ⟨g, 0, none⟩) m.ls.length cl] 94) = Y
  have y0 : Y.cell? ⟨w2.heap.size, 0, none⟩ = some (.int .i64 m.view) := by rw [← hY]; exact World.cell?_alloc_new _ _ _ _
  have y1 : Y.cell? ⟨w2.heap.size, 1, none⟩ = some (.int .i64 m.last) := by rw [← hY]; exact World.cell?_alloc_new _ _ _ _
  have y2 : Y.cell? ⟨w2.heap.size, 2, none⟩ = some (.slice (gl.map fun g => ⟨g, 0, none⟩) m.ls.length cl) := by rw [← hY]; exact World.cell?_alloc_new _ _ _ _
  have y9 : Y.cell? ⟨K, 9, none⟩ = some (.int .i64 ag) := by rw [← hY, World.cell?_alloc_past _ _ _ (by omega)]; exact c9
  have HR : Hid (Y.heap[w.heap.size]? = some (.cells #[.int .i64 0, .int .i64 0, .int .i64 0, .int .i64 0] 67 (0, 0))) := by show _ = _; rw [← hY]; exact alloc_keep1 hR
  have q0 : Y.cell? ⟨w.heap.size, 0, none⟩ = some (.int .i64 0) := cell_of_heap HR.out 0
  have q1 : Y.cell? ⟨w.heap.size, 1, none⟩ = some (.int .i64 0) := cell_of_heap HR.out 1
  have q2 : Y.cell? ⟨w.heap.size, 2, none⟩ = some (.int .i64 0) := cell_of_heap HR.out 2
  have q3 : Y.cell? ⟨w.heap.size, 3, none⟩ = some (.int .i64 0) := cell_of_heap HR.out 3
  have fq : ∀ j, Y.frozen? ⟨w.heap.size, j, none⟩ = false := fun j => frozen_of_heap HR.out j
  have BY : Hid (Below w.heap.size w Y) := by show Below _ _ _; rw [← hY]; exact HB.out.alloc HB.out.size _
  clear hY c9 hR
  go_still_tail 11, (by kernel_rfl)
  go_wp2
  have h4 := heap_setCell (heap_setCell (heap_setCell (heap_setCell HR.out 0 (.int .i64 m.view)) 1 (.int .i64 m.last)) 2 (.int .i64 m.ls.length)) 3 (.int .i64 ag)
  simp only [List.setIfInBounds_toArray, List.set_cons_zero, List.set_cons_succ] at h4
  have z0 := cell_of_heap h4 0
  have z1 := cell_of_heap h4 1
  have z2 := cell_of_heap h4 2
  have z3 := cell_of_heap h4 3
  simp only [List.getElem?_toArray, List.getElem?_cons_zero, List.getElem?_cons_succ] at z0 z1 z2 z3
  refine bodyPost_ret (v := .agg #[.int .i64 m.view, .int .i64 m.last, .int .i64 m.ls.length, .int .i64 ag]) ?_ rfl ⟨rfl, ?_⟩
  · simp [results, Tryz.results26, go_sem, z0, z1, z2, z3]
  · exact ((((BY.out.setCell (p := ⟨w.heap.size, 0, none⟩) (Nat.le_refl _) _).setCell (p := ⟨w.heap.size, 1, none⟩) (Nat.le_refl _) _).setCell (p := ⟨w.heap.size, 2, none⟩) (Nat.le_refl _) _).setCell (p := ⟨w.heap.size, 3, none⟩) (Nat.le_refl _) _).drew

theorem stateSaid_ : StateSaid KIs_ := fun w K F s h hok => by
  obtain ⟨gd, cd, gl, cl, gf, cf, h1, _⟩ := h
  exact state_go K _ _ _ _ _ _ _ _ _ gd cd gl cl gf cf w h1

end Go.Proofs.YtolififimldmlaaGreat

set_option linter.unusedVariables false
set_option linter.unusedSimpArgs false
namespace Go.Proofs.YtolififimldmlaaGreat
open Go.RowKit
attribute [local go_sem ↓] Go.wp_at_zero Go.wp_at_succ
attribute [local go_sem] run_field3

set_option maxRecDepth 100000 in
set_option maxHeartbeats 4000000 in
theorem agreedLines_go (K : Nat) (kp me pa : Int) (d : List UInt8) (m : Mm) (arm : Int) (lost : List UInt8) (ag : Nat) (hs : Nat → Int) (gd : Option Nat) (cd : Nat) (gl : Option Nat) (cl : Nat) (gf : Option Nat) (cf : Nat) (w : World) (h : PK w K kp me pa d m arm lost ag hs gd cd gl cl gf cf) (hag : ag ≤ m.ls.length) :
    Calls Tryz.prog 44 #[.pointer (some ⟨K, 0, none⟩)] w fun e w' => e = .returned (sl gl ag cl) ∧ Below w.heap.size w w' := by
  have HP := hid h
  have hcl : m.ls.length ≤ cl := by
    rcases h.low with ⟨_, h1, _⟩ | ⟨_, _, _, _, _, h1, _⟩
    · omega
    · exact h1
  have a0 : (0 : Int) ≤ (ag : Int) := by omega
  have a1 : (ag : Int) ≤ (cl : Int) := by omega
  have h9 : w.cell? ⟨K, 9, none⟩ = some (.int .i64 ag) := cell_of_heap h.blk 9
  have LV : Hid (∀ z, Below w.heap.size w z → Calls Tryz.prog 83 #[.pointer (some ⟨K, 0, none⟩)] z fun e w' => e = .returned (.slice (gl.map fun k => ⟨k, 0, none⟩) m.ls.length cl) ∧ Below z.heap.size z w') := fun z hz => lines_go K kp me pa d m arm lost ag hs gd cd gl cl gf cf z (h.below hz)
  have H9 := hid h9
  clear h h9
  unfold sl
  cases gl with
  | none =>
    simp only [Option.map_none] at LV ⊢
    go_enter Tryz.func44, Tryz.ntmps44
    go_wp2
    have hS0 : (fun z : World => Below w.heap.size w z ∧ z.cell? ⟨K, 9, none⟩ = some (.int .i64 ag)) w.drew := ⟨(Below.refl _ _).drew, H9.out⟩
    refine wp_region_held_drew (S := fun z : World => Below w.heap.size w z ∧ z.cell? ⟨K, 9, none⟩ = some (.int .i64 ag)) (by kernel_rfl) hS0 (fun hS => ?_)
    clear hS0
    refine wpAnyH_take (i := 0) (v := ?rv1) rfl (by kernel_rfl) (by kernel_rfl) (by kernel_rfl) (fun _ _ _ h => h) (Or.inl ⟨by rfl, ?ry1⟩) hS ?rr1
    case ry1 => (intro w hw; clear hw; go_simp; try with_reducible rfl)
    try simp only [List.getElem_toArray, List.getElem_cons_zero, List.getElem_cons_succ, Act.put, List.setIfInBounds_toArray, List.set_cons_zero, List.set_cons_succ]
    refine wpAnyH_take (i := 2) (v := ?rv2) rfl (by kernel_rfl) (by kernel_rfl) (by kernel_rfl) (fun _ _ _ h => h) (Or.inl ⟨by rfl, ?ry2⟩) hS ?rr2
    case ry2 => (intro w hw; clear hw; go_simp; try with_reducible rfl)
    try simp only [List.getElem_toArray, List.getElem_cons_zero, List.getElem_cons_succ, Act.put, List.setIfInBounds_toArray, List.set_cons_zero, List.set_cons_succ]
    refine wpAnyH_take (i := 3) (v := ?rv3) rfl (by kernel_rfl) (by kernel_rfl) (by kernel_rfl) (fun _ _ _ h => h) (Or.inl ⟨by rfl, ?ry3⟩) hS ?rr3
    case ry3 => (intro w hw; clear hw; go_simp; try with_reducible rfl)
    try simp only [List.getElem_toArray, List.getElem_cons_zero, List.getElem_cons_succ, Act.put, List.setIfInBounds_toArray, List.set_cons_zero, List.set_cons_succ]
    refine wpAnyH_take (i := 4) (v := ?rv4) rfl (by kernel_rfl) (by kernel_rfl) (by kernel_rfl) (fun _ _ _ h => h) (Or.inl ⟨by rfl, ?ry4⟩) hS ?rr4
    case ry4 => (intro w hw; clear hw; go_simp; try with_reducible rfl)
    try simp only [List.getElem_toArray, List.getElem_cons_zero, List.getElem_cons_succ, Act.put, List.setIfInBounds_toArray, List.set_cons_zero, List.set_cons_succ]
    refine wpAnyH_take (i := 5) (v := ?rv13) rfl (by kernel_rfl) (by kernel_rfl) (by kernel_rfl) (fun _ _ _ h => h) (Or.inl ⟨by rfl, ?ry13⟩) hS ?rr13
    case ry13 => (intro w hw; obtain ⟨_, s1⟩ := hw; go_simp; try with_reducible rfl)
    try simp only [List.getElem_toArray, List.getElem_cons_zero, List.getElem_cons_succ, Act.put, List.setIfInBounds_toArray, List.set_cons_zero, List.set_cons_succ]
    refine wpAnyH_ready (rs := [1]) (by kernel_rfl) (by simp) ?_
    refine AllReadyH.cons rfl (fun K hK => ?_) AllReadyH.nil
    go_simp
    refine (LV.out _ hS.1).mono ?_
    rintro e Y4 ⟨rfl, hbf⟩
    have HX := hid (hS.1.trans (hbf.mono hS.1.size))
    clear hbf
    refine hK.out _ _ ⟨HX.out, (Below.cell HX.out (World.block_lt_of_cell? _ _ H9.out)).trans H9.out⟩ (fun hS => ?_)
    clear hK K
    refine wpAnyH_take (i := 6) (v := ?rv5) rfl (by kernel_rfl) (by kernel_rfl) (by kernel_rfl) (fun _ _ _ h => h) (Or.inl ⟨by rfl, ?ry5⟩) hS ?rr5
    case ry5 => (intro w hw; clear hw; go_simp; try with_reducible rfl)
    try simp only [List.getElem_toArray, List.getElem_cons_zero, List.getElem_cons_succ, Act.put, List.setIfInBounds_toArray, List.set_cons_zero, List.set_cons_succ]
    refine wpAnyH_take (i := 7) (v := ?rv6) rfl (by kernel_rfl) (by kernel_rfl) (by kernel_rfl) (fun _ _ _ h => h) (Or.inl ⟨by rfl, ?ry6⟩) hS ?rr6
    case ry6 => (intro w hw; clear hw; go_simp; try with_reducible rfl)
    try simp only [List.getElem_toArray, List.getElem_cons_zero, List.getElem_cons_succ, Act.put, List.setIfInBounds_toArray, List.set_cons_zero, List.set_cons_succ]
    refine wpAnyH_done (by kernel_rfl) ?_ _
    clear hS
    go_wp2
    go_ret
    exact ⟨rfl, HX.out⟩
  | some g =>
    simp only [Option.map_some] at LV ⊢
    go_enter Tryz.func44, Tryz.ntmps44
    go_wp2
    have hS0 : (fun z : World => Below w.heap.size w z ∧ z.cell? ⟨K, 9, none⟩ = some (.int .i64 ag)) w.drew := ⟨(Below.refl _ _).drew, H9.out⟩
    refine wp_region_held_drew (S := fun z : World => Below w.heap.size w z ∧ z.cell? ⟨K, 9, none⟩ = some (.int .i64 ag)) (by kernel_rfl) hS0 (fun hS => ?_)
    clear hS0
    refine wpAnyH_take (i := 0) (v := ?rv7) rfl (by kernel_rfl) (by kernel_rfl) (by kernel_rfl) (fun _ _ _ h => h) (Or.inl ⟨by rfl, ?ry7⟩) hS ?rr7
    case ry7 => (intro w hw; clear hw; go_simp; try with_reducible rfl)
    try simp only [List.getElem_toArray, List.getElem_cons_zero, List.getElem_cons_succ, Act.put, List.setIfInBounds_toArray, List.set_cons_zero, List.set_cons_succ]
    refine wpAnyH_take (i := 2) (v := ?rv8) rfl (by kernel_rfl) (by kernel_rfl) (by kernel_rfl) (fun _ _ _ h => h) (Or.inl ⟨by rfl, ?ry8⟩) hS ?rr8
    case ry8 => (intro w hw; clear hw; go_simp; try with_reducible rfl)
    try simp only [List.getElem_toArray, List.getElem_cons_zero, List.getElem_cons_succ, Act.put, List.setIfInBounds_toArray, List.set_cons_zero, List.set_cons_succ]
    refine wpAnyH_take (i := 3) (v := ?rv9) rfl (by kernel_rfl) (by kernel_rfl) (by kernel_rfl) (fun _ _ _ h => h) (Or.inl ⟨by rfl, ?ry9⟩) hS ?rr9
    case ry9 => (intro w hw; clear hw; go_simp; try with_reducible rfl)
    try simp only [List.getElem_toArray, List.getElem_cons_zero, List.getElem_cons_succ, Act.put, List.setIfInBounds_toArray, List.set_cons_zero, List.set_cons_succ]
    refine wpAnyH_take (i := 4) (v := ?rv10) rfl (by kernel_rfl) (by kernel_rfl) (by kernel_rfl) (fun _ _ _ h => h) (Or.inl ⟨by rfl, ?ry10⟩) hS ?rr10
    case ry10 => (intro w hw; clear hw; go_simp; try with_reducible rfl)
    try simp only [List.getElem_toArray, List.getElem_cons_zero, List.getElem_cons_succ, Act.put, List.setIfInBounds_toArray, List.set_cons_zero, List.set_cons_succ]
    refine wpAnyH_take (i := 5) (v := ?rv14) rfl (by kernel_rfl) (by kernel_rfl) (by kernel_rfl) (fun _ _ _ h => h) (Or.inl ⟨by rfl, ?ry14⟩) hS ?rr14
    case ry14 => (intro w hw; obtain ⟨_, s1⟩ := hw; go_simp; try with_reducible rfl)
    try simp only [List.getElem_toArray, List.getElem_cons_zero, List.getElem_cons_succ, Act.put, List.setIfInBounds_toArray, List.set_cons_zero, List.set_cons_succ]
    refine wpAnyH_ready (rs := [1]) (by kernel_rfl) (by simp) ?_
    refine AllReadyH.cons rfl (fun K hK => ?_) AllReadyH.nil
    go_simp
    refine (LV.out _ hS.1).mono ?_
    rintro e Y4 ⟨rfl, hbf⟩
    have HX := hid (hS.1.trans (hbf.mono hS.1.size))
    clear hbf
    refine hK.out _ _ ⟨HX.out, (Below.cell HX.out (World.block_lt_of_cell? _ _ H9.out)).trans H9.out⟩ (fun hS => ?_)
    clear hK K
    refine wpAnyH_take (i := 6) (v := ?rv11) rfl (by kernel_rfl) (by kernel_rfl) (by kernel_rfl) (fun _ _ _ h => h) (Or.inl ⟨by rfl, ?ry11⟩) hS ?rr11
    case ry11 => (intro w hw; clear hw; go_simp; try with_reducible rfl)
    try simp only [List.getElem_toArray, List.getElem_cons_zero, List.getElem_cons_succ, Act.put, List.setIfInBounds_toArray, List.set_cons_zero, List.set_cons_succ]
    refine wpAnyH_take (i := 7) (v := ?rv12) rfl (by kernel_rfl) (by kernel_rfl) (by kernel_rfl) (fun _ _ _ h => h) (Or.inl ⟨by rfl, ?ry12⟩) hS ?rr12
    case ry12 => (intro w hw; clear hw; go_simp; try with_reducible rfl)
    try simp only [List.getElem_toArray, List.getElem_cons_zero, List.getElem_cons_succ, Act.put, List.setIfInBounds_toArray, List.set_cons_zero, List.set_cons_succ]
    refine wpAnyH_done (by kernel_rfl) ?_ _
    clear hS
    go_wp2
    go_ret
    exact ⟨rfl, HX.out⟩

set_option maxRecDepth 100000 in
set_option maxHeartbeats 4000000 in
theorem agreed_go (K : Nat) (kp me pa : Int) (d : List UInt8) (m : Mm) (arm : Int) (lost : List UInt8) (ag : Nat) (hs : Nat → Int) (gd : Option Nat) (cd : Nat) (gl : Option Nat) (cl : Nat) (gf : Option Nat) (cf : Nat) (w : World) (h : PK w K kp me pa d m arm lost ag hs gd cd gl cl gf cf) (hag : ag ≤ m.ls.length) (h20 : m.ls.length ≤ 20) :
    Calls Tryz.prog 24 #[.pointer (some ⟨K, 0, none⟩)] w fun e w' => ∃ g c, e = .returned (sl g (m.ls.take ag).length c) ∧ OwnLines w w' g c (m.ls.take ag) ∧ Below w.heap.size w w' := by
  have HP := hid h
  have HL : Hid (LinesAt w (gl.map fun k => (⟨k, 0, none⟩ : Addr)) (m.ls.take ag)) := h.lb.take ag
  have hlen : (m.ls.take ag).length = ag := by rw [List.length_take]; omega
  have AV := hid (agreedLines_go K kp me pa d m arm lost ag hs gd cd gl cl gf cf w h hag)
  clear h HP
  rw [hlen]
  generalize m.ls.take ag = ls at *
  subst hlen
  obtain ⟨il, hil, hil0, hil1, hil2⟩ := info_parts Tryz.info27
  have HSRC := hid (fun x (h : LinesAt x (gl.map fun k => (⟨k, 0, none⟩ : Addr)) ls) => lines_src (gl.map fun k => (⟨k, 0, none⟩ : Addr)) cl ls x h)
  go_enter Tryz.func24, Tryz.ntmps24
  go_wp2_with fail
  refine AV.out.mono ?_
  rintro e w2 ⟨rfl, hb⟩
  have HB := hid hb
  clear hb
  unfold sl
  go_wp2_with (at_builtin; refine wpList_appN _ rfl (.const (.slice none 0 0)) (.tmp 4) 28 28 rfl 27 il (.agg #[.int .i64 0, .int .i64 0, .string ⟨#[]⟩]) 3 32 Tryz.underlying28 hil hil0 hil1 hil2 rfl (by rfl) _ rfl ls.length (lnCells ls) (HSRC.out _ (HL.out.below HB.out)) (by omega) (by omega) ?_)
  intro g1 c1 w1 P
  have HO1 := hid (P.lines.base (u := w) HB.out.size)
  have HB1 := hid (HB.out.trans (P.below.mono HB.out.size))
  clear P
  unfold sl
  go_wp2
  go_ret
  exact ⟨g1, c1, rfl, HO1.out, HB1.out⟩

theorem agreedSaid_ : AgreedSaid KIs_ := fun w K F s h hok => by
  obtain ⟨gd, cd, gl, cl, gf, cf, h1, _⟩ := h
  exact agreed_go K _ _ _ _ _ _ _ _ _ gd cd gl cl gf cf w h1 (LK.av_le hok) (LK.mv_len hok)

theorem wpList_appRun {P : Program} {w : World} {ops : Array Oper} {rest : List Oper} {o : Oper} {a : Act} {Q : Exit → Act → World → Prop} (hgd : o.guard = none) (s y : Operand) (t tx : TypeId)
    (ho : o.op = .call { callee := .builtin .append, args := #[s, y], argTypes := #[t, tx] }) (x1 x2 v : Value) (w' : World) (hq : a.eval s = x1) (hx : a.eval y = x2) (hr : (Builtin.append_ #[t, tx] o.type #[x1, x2]).run P w = .ok v w')
    (h : wpList P ops Q rest (a.put o.dst v) w') : wpList P ops Q (o :: rest) a w := by
  refine wpList_plain hgd fun _ hK => ?_
  unfold Oper.wp execOp
  simp only [ho, resolve, invoke, builtin, Sem.run_bind, Sem.run_pure, Result.andThen_ok, List.map_toArray, List.map_cons, List.map_nil, hq, hx, hr]
  exact hK _ _ h

set_option maxRecDepth 100000 in
set_option maxHeartbeats 4000000 in
theorem grow_go (n : Nat) (w : World) (hn : n ≤ 20000000) :
    Calls Tryz.prog 141 #[.slice none 0 0, .int .i64 n] w fun e w' => ∃ b c, e = .returned (sl b 0 c) ∧ OwnBytes w w' b c [] ∧ Below w.heap.size w w' := by
  obtain ⟨ib, hib, hib0, hib1, hib2⟩ := info_parts Tryz.info5
  rcases Nat.eq_zero_or_pos n with h0 | h0
  · subst h0
    go_enter Tryz.func141, Tryz.ntmps141
    go_wp2
    go_ret
    exact ⟨none, 0, rfl, ⟨fun j hj => absurd hj (by simp), .inl ⟨rfl, rfl, rfl⟩, fun k e => by cases e⟩, Below.refl _ _⟩
  · have hrun := Lib.run_append_nil_zeros (P := Tryz.prog) w 31 3 31 5 ib (.int .u8 0) .i64 .i64 Tryz.underlying31 Tryz.underlying3 hib hib0 n h0 (by omega) (by omega) (by rw [hib2]; omega)
    have hge := grownCap_ge w n 0 5
    have hcm : grownCap w n 0 5 ≤ maxLen := grownCap_le_maxLen w n 0 5 (by simp only [maxLen]; omega)
    generalize grownCap w n 0 5 = c at *
    have hz : OwnRow (w.drew.alloc (.cells (Builtin.zeroCells (Value.int .u8 0).cells n ++ Builtin.zeroCells (Value.int .u8 0).cells (c - n)) 5)) 5 1 (some w.heap.size) 0 c := .inr ⟨_, _, rfl, heap_alloc_new w.drew _, by rw [Array.size_append, size_zeroCells, size_zeroCells]; show n * 1 + (c - n) * 1 = c * 1; omega, Nat.zero_le _, hcm⟩
    have HZ := hid hz
    have n0 : (0 : Int) < (n : Int) := by omega
    have n1 : ¬ ((n : Int) < 0) := by omega
    clear hz hcm
    generalize hY : w.drew.alloc (.cells (Builtin.zeroCells (Value.int .u8 0).cells n ++ Builtin.zeroCells (Value.int .u8 0).cells (c - n)) 5) = Y at *
    have HB : Hid (Below w.heap.size w Y) := by show Below _ _ _; rw [← hY]; exact ((Below.refl _ w).drew).alloc (Nat.le_refl _) _
    clear hY
    go_enter Tryz.func141, Tryz.ntmps141
    go_wp2_with (at_builtin; refine wpList_appRun rfl (.tmp 20) (.tmp 21) 31 3 rfl _ _ _ _ rfl rfl hrun ?_)
    go_wp2
    go_ret
    exact ⟨some w.heap.size, c, rfl, ⟨fun j hj => absurd hj (by simp), HZ.out, fun k e => by cases e; exact Nat.le_refl _⟩, HB.out⟩

end Go.Proofs.YtolififimldmlaaGreat
