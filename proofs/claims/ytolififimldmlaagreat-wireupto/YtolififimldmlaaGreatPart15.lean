import Derived.Test.YtolififimldmlaaGreatPart14
set_option linter.unusedVariables false
set_option linter.unusedSimpArgs false
namespace Go.Proofs.YtolififimldmlaaGreat
open Go.RowKit
attribute [local go_sem ↓] Go.wp_at_zero Go.wp_at_succ

/-- A disk was read. -/
def ReadM (w : World) (s : List UInt8) (e : Ending) (w' : World) : Prop :=
  ∃ g c, e = .returned (.tuple #[(readD s).1.val (g.map fun k => (⟨k, 0, none⟩ : Addr)) c, .int .i64 (readD s).2]) ∧ OwnLines w w' g c (readD s).1.ls ∧ Below w.heap.size w w'

theorem readRet {Q : Ending → World → Prop} {a : Act} {W : World} {B : Nat} {fz : Nat × Nat} {v0 v1 v2 : Value} {er : Int} (hB : W.heap[B]? = some (.cells #[v0, v1, v2] 176 fz))
    (ht : a.tmps[2]? = some (.pointer (some ⟨B, 0, none⟩))) (he : a.tmps[3]? = some (.int .i64 er)) (hd : a.defers = []) (hq : Q (.returned (.tuple #[.agg #[v0, v1, v2], .int .i64 er])) W) : bodyPost Tryz.prog Tryz.f98 Q Exit.ret a W := by
  have c0 : W.cell? ⟨B, 0, none⟩ = some v0 := (cell_of_heap hB 0).trans rfl
  have c1 : W.cell? ⟨B, 1, none⟩ = some v1 := (cell_of_heap hB 1).trans rfl
  have c2 : W.cell? ⟨B, 2, none⟩ = some v2 := (cell_of_heap hB 2).trans rfl
  exact bodyPost_ret (v := .tuple #[.agg #[v0, v1, v2], .int .i64 er]) (by simp [results, Tryz.results98, go_sem, ht, he, c0, c1, c2]) hd hq

theorem alloc_keep1 {w : World} {B : Nat} {o o' : Obj} (h : w.heap[B]? = some o) : (w.alloc o').heap[B]? = some o := by rw [Below.heap_alloc _ _ _ (heap_lt h)]; exact h

/-- How far reading has come. -/
structure RAt (w : World) (s : List UInt8) (R B : Nat) (wr : World) (k : Nat) (m : Mm) (g : Option Nat) (c f : Nat) : Prop where
  at_ : readD s = readF s f m k
  fuel : s.length + 1 ≤ f + k
  box : MBox B 176 (.int .i64 m.view) (.int .i64 m.last) (.slice (g.map fun x => ⟨x, 0, none⟩) m.ls.length c) wr
  res : MBox R 176 (.int .i64 0) (.int .i64 0) (.slice none 0 0) wr
  own : OwnLines w wr g c m.ls
  bel : Below w.heap.size w wr
  few : m.ls.length ≤ 20
  nB : g ≠ some B
  nR : g ≠ some R

set_option maxRecDepth 100000 in
set_option maxHeartbeats 4000000 in
theorem read_any (s : List UInt8) (w : World) (hn : s.length ≤ 10000000) : Calls Tryz.prog 98 #[.string ⟨s.toArray⟩] w (ReadM w s) := by
  go_enter Tryz.func98, Tryz.ntmps98
  go_wp2
  have HI0 : Hid (RAt w s w.heap.size (w.heap.size + 1) ((w.alloc (.cells #[.int .i64 0, .int .i64 0, .slice none 0 0] 176)).alloc (.cells #[.int .i64 0, .int .i64 0, .slice none 0 0] 176)) 0 Mm.zero none 0 (s.length + 1)) :=
    ⟨rfl, by omega, heap_alloc2 w _ _ _, MBox.below (heap_alloc_new w _) ((Below.refl _ _).alloc (Nat.le_refl _) _), OwnLines.none_ _ _, ((Below.refl _ _).alloc (Nat.le_refl _) _).alloc (by simp) _, (by show 0 ≤ 20; omega), fun e => (by cases e), fun e => (by cases e)⟩
  have hRB : w.heap.size ≠ w.heap.size + 1 := by omega
  have hRw : w.heap.size ≤ w.heap.size + 1 := by omega
  go_loopw [5] (fun av wr => ∃ (k : Nat) (m : Mm) (g : Option Nat) (c f : Nat), k ≤ s.length ∧ av = .int .i64 k ∧ Hid (RAt w s w.heap.size (w.heap.size + 1) wr k m g c f)) (fun av _ => s.length - (intOf av).toNat)
  case atStart => exact ⟨0, Mm.zero, none, 0, s.length + 1, Nat.zero_le _, rfl, HI0.out⟩
  case round =>
    obtain ⟨k, m, g, c, f, hk, rfl, HI⟩ := hrel
    clear HI0
    have hBw : Hid (w.heap.size ≤ w.heap.size + 1) := hRw
    generalize w.heap.size + 1 = B at *
    obtain ⟨b0, b1, b2, fb⟩ := mbox_cells HI.out.box
    obtain ⟨r0, r1, r2, fr⟩ := mbox_cells HI.out.res
    by_cases hlt : k < s.length
    · have ik : ∀ h, (⟨s.toArray⟩ : ByteArray)[k]'h = s.getD k 0 := fun h => by rw [getD_at s k 0 hlt]; rfl
      have HZ : Hid ((s.drop k).getD 0 0 = s.getD k 0) := by show _ = _; simp [List.getD]
      have HDL : Hid ((s.drop k).length = s.length - k) := List.length_drop
      have HX1 : Hid (∀ e, k + 2 ≤ e → (⟨s.toArray⟩ : ByteArray).extract k (e - 2) = ⟨((s.drop k).take (e - 2 - k)).toArray⟩) := fun e _ => extr _ _ _
      generalize s.getD k 0 = z at ik HZ
      have hz : z.toNat < 256 := z.toNat_lt
      have hki : (0 : Int) ≤ (k : Int) := by omega
      have hki2 : (k : Int) < (s.length : Int) := by omega
      rcases Nat.lt_or_ge s.length (k + 3 + z.toNat) with hle | hle
      · have HE : Hid (readD s = (m, k)) := by
          show _ = _
          rw [HI.out.at_]
          exact readF_stop (by unfold recOf; rw [if_neg (by have := HDL.out; omega), HZ.out, if_pos (by have := HDL.out; omega)]) f
        go_wp2
        rw [show ((k : Int) + 3 + (z.toNat : Int)) = ((k + 3 + z.toNat : Nat) : Int) from by omega]
        generalize hE : k + 3 + z.toNat = E at *
        have hgt : (s.length : Int) < (E : Int) := by omega
        clear ik
        refine wp_region_any (by kernel_rfl) ?_
        try (change wpAny _ _ _ _ _ _ _ (World.drew _))
        refine wpAny_take (i := 0) (v := ?rv1) rfl (by kernel_rfl) (by kernel_rfl) (by kernel_rfl) (fun _ _ _ h => h) (Or.inl ⟨by rfl, ?ry1⟩) ?rr1
        case ry1 => (intro w; go_simp; try with_reducible rfl)
        try simp only [List.getElem_toArray, List.getElem_cons_zero, List.getElem_cons_succ, Act.put, List.setIfInBounds_toArray, List.set_cons_zero, List.set_cons_succ]
        refine wpAny_take (i := 1) (v := ?rv2) rfl (by kernel_rfl) (by kernel_rfl) (by kernel_rfl) (fun _ _ _ h => h) (Or.inl ⟨by rfl, ?ry2⟩) ?rr2
        case ry2 => (intro w; go_simp; try with_reducible rfl)
        try simp only [List.getElem_toArray, List.getElem_cons_zero, List.getElem_cons_succ, Act.put, List.setIfInBounds_toArray, List.set_cons_zero, List.set_cons_succ]
        refine wpAny_take (i := 2) (v := ?rv3) rfl (by kernel_rfl) (by kernel_rfl) (by kernel_rfl) (fun _ _ _ h => h) (Or.inl ⟨by rfl, ?ry3⟩) ?rr3
        case ry3 => (intro w; go_simp; try with_reducible rfl)
        try simp only [List.getElem_toArray, List.getElem_cons_zero, List.getElem_cons_succ, Act.put, List.setIfInBounds_toArray, List.set_cons_zero, List.set_cons_succ]
        refine wpAny_take (i := 3) (v := ?rv4) rfl (by kernel_rfl) (by kernel_rfl) (by kernel_rfl) (fun _ _ _ h => h) (Or.inl ⟨by rfl, ?ry4⟩) ?rr4
        case ry4 => (intro w; go_simp; try with_reducible rfl)
        try simp only [List.getElem_toArray, List.getElem_cons_zero, List.getElem_cons_succ, Act.put, List.setIfInBounds_toArray, List.set_cons_zero, List.set_cons_succ]
        refine wpAny_take (i := 4) (v := ?rv5) rfl (by kernel_rfl) (by kernel_rfl) (by kernel_rfl) (fun _ _ _ h => h) (Or.inl ⟨by rfl, ?ry5⟩) ?rr5
        case ry5 => (intro w; go_simp; try with_reducible rfl)
        try simp only [List.getElem_toArray, List.getElem_cons_zero, List.getElem_cons_succ, Act.put, List.setIfInBounds_toArray, List.set_cons_zero, List.set_cons_succ]
        refine wpAny_take (i := 5) (v := undef) rfl (by kernel_rfl) (by kernel_rfl) (by kernel_rfl) (fun _ _ _ h => h) (Or.inr ⟨by kernel_rfl, rfl⟩) ?_
        try simp only [List.getElem_toArray, List.getElem_cons_zero, List.getElem_cons_succ, Act.put, List.setIfInBounds_toArray, List.set_cons_zero, List.set_cons_succ]
        refine wpAny_take (i := 6) (v := undef) rfl (by kernel_rfl) (by kernel_rfl) (by kernel_rfl) (fun _ _ _ h => h) (Or.inr ⟨by kernel_rfl, rfl⟩) ?_
        try simp only [List.getElem_toArray, List.getElem_cons_zero, List.getElem_cons_succ, Act.put, List.setIfInBounds_toArray, List.set_cons_zero, List.set_cons_succ]
        refine wpAny_take (i := 7) (v := undef) rfl (by kernel_rfl) (by kernel_rfl) (by kernel_rfl) (fun _ _ _ h => h) (Or.inr ⟨by kernel_rfl, rfl⟩) ?_
        try simp only [List.getElem_toArray, List.getElem_cons_zero, List.getElem_cons_succ, Act.put, List.setIfInBounds_toArray, List.set_cons_zero, List.set_cons_succ]
        refine wpAny_take (i := 8) (v := undef) rfl (by kernel_rfl) (by kernel_rfl) (by kernel_rfl) (fun _ _ _ h => h) (Or.inr ⟨by kernel_rfl, rfl⟩) ?_
        try simp only [List.getElem_toArray, List.getElem_cons_zero, List.getElem_cons_succ, Act.put, List.setIfInBounds_toArray, List.set_cons_zero, List.set_cons_succ]
        refine wpAny_take (i := 9) (v := undef) rfl (by kernel_rfl) (by kernel_rfl) (by kernel_rfl) (fun _ _ _ h => h) (Or.inr ⟨by kernel_rfl, rfl⟩) ?_
        try simp only [List.getElem_toArray, List.getElem_cons_zero, List.getElem_cons_succ, Act.put, List.setIfInBounds_toArray, List.set_cons_zero, List.set_cons_succ]
        refine wpAny_take (i := 10) (v := undef) rfl (by kernel_rfl) (by kernel_rfl) (by kernel_rfl) (fun _ _ _ h => h) (Or.inr ⟨by kernel_rfl, rfl⟩) ?_
        try simp only [List.getElem_toArray, List.getElem_cons_zero, List.getElem_cons_succ, Act.put, List.setIfInBounds_toArray, List.set_cons_zero, List.set_cons_succ]
        refine wpAny_take (i := 11) (v := undef) rfl (by kernel_rfl) (by kernel_rfl) (by kernel_rfl) (fun _ _ _ h => h) (Or.inr ⟨by kernel_rfl, rfl⟩) ?_
        try simp only [List.getElem_toArray, List.getElem_cons_zero, List.getElem_cons_succ, Act.put, List.setIfInBounds_toArray, List.set_cons_zero, List.set_cons_succ]
        refine wpAny_take (i := 12) (v := undef) rfl (by kernel_rfl) (by kernel_rfl) (by kernel_rfl) (fun _ _ _ h => h) (Or.inr ⟨by kernel_rfl, rfl⟩) ?_
        try simp only [List.getElem_toArray, List.getElem_cons_zero, List.getElem_cons_succ, Act.put, List.setIfInBounds_toArray, List.set_cons_zero, List.set_cons_succ]
        refine wpAny_take (i := 13) (v := undef) rfl (by kernel_rfl) (by kernel_rfl) (by kernel_rfl) (fun _ _ _ h => h) (Or.inr ⟨by kernel_rfl, rfl⟩) ?_
        try simp only [List.getElem_toArray, List.getElem_cons_zero, List.getElem_cons_succ, Act.put, List.setIfInBounds_toArray, List.set_cons_zero, List.set_cons_succ]
        refine wpAny_take (i := 14) (v := undef) rfl (by kernel_rfl) (by kernel_rfl) (by kernel_rfl) (fun _ _ _ h => h) (Or.inr ⟨by kernel_rfl, rfl⟩) ?_
        try simp only [List.getElem_toArray, List.getElem_cons_zero, List.getElem_cons_succ, Act.put, List.setIfInBounds_toArray, List.set_cons_zero, List.set_cons_succ]
        refine wpAny_take (i := 15) (v := undef) rfl (by kernel_rfl) (by kernel_rfl) (by kernel_rfl) (fun _ _ _ h => h) (Or.inr ⟨by kernel_rfl, rfl⟩) ?_
        try simp only [List.getElem_toArray, List.getElem_cons_zero, List.getElem_cons_succ, Act.put, List.setIfInBounds_toArray, List.set_cons_zero, List.set_cons_succ]
        refine wpAny_take (i := 16) (v := ?rv6) rfl (by kernel_rfl) (by kernel_rfl) (by kernel_rfl) (fun _ _ _ h => h) (Or.inl ⟨by rfl, ?ry6⟩) ?rr6
        case ry6 => (intro w; go_simp; try with_reducible rfl)
        try simp only [List.getElem_toArray, List.getElem_cons_zero, List.getElem_cons_succ, Act.put, List.setIfInBounds_toArray, List.set_cons_zero, List.set_cons_succ]
        refine wpAny_done (by kernel_rfl) ?_ _
        go_wp2
        refine readRet (mset2 (mset1 (mset0 (show MBox _ _ _ _ _ wr.drew from HI.out.res) _) _) _) rfl rfl rfl ⟨g, c, ?_, ?_, ?_⟩
        · rw [HE.out]; rfl
        · rw [HE.out]; exact (((HI.out.own.below ((Below.refl _ _).drew)).setOther w.heap.size 0 _ HI.out.nR).setOther w.heap.size 1 _ HI.out.nR).setOther w.heap.size 2 _ HI.out.nR
        · exact ((HI.out.bel.drew.setCell (p := ⟨w.heap.size, 0, none⟩) (Nat.le_refl _) _).setCell (p := ⟨w.heap.size, 1, none⟩) (Nat.le_refl _) _).setCell (p := ⟨w.heap.size, 2, none⟩) (Nat.le_refl _) _
      · go_wp2
        rw [show ((k : Int) + 3 + (z.toNat : Int)) = ((k + 3 + z.toNat : Nat) : Int) from by omega]
        have HEZ : Hid (k + 3 + z.toNat - 2 = k + 1 + z.toNat) := by show _ = _; omega
        generalize hE : k + 3 + z.toNat = E at *
        generalize hE2 : k + 1 + z.toNat = E2 at *
        have e2 : (E : Int) - 2 = (E2 : Int) := by omega
        have hng : ¬ ((s.length : Int) < (E : Int)) := by omega
        have l1 : (k : Int) ≤ (E2 : Int) := by omega
        have l2 : (E2 : Int) ≤ (s.length : Int) := by omega
        have l3 : (k : Int) ≤ (E : Int) := by omega
        have l4 : (E : Int) ≤ (s.length : Int) := by omega
        have we2 : IntKind.i64.wrap (E2 : Int) = (E2 : Int) := by rw [IntWalk.i64_left, IntWalk.wrap64_in _ (by omega)]
        have l5 : (0 : Int) ≤ (E2 : Int) := by omega
        have x1 := extr s k E2
        have x2 := extr s k E
        clear ik
        refine wp_region_any (by kernel_rfl) ?_
        try (change wpAny _ _ _ _ _ _ _ (World.drew _))
        refine wpAny_take (i := 0) (v := ?rv7) rfl (by kernel_rfl) (by kernel_rfl) (by kernel_rfl) (fun _ _ _ h => h) (Or.inl ⟨by rfl, ?ry7⟩) ?rr7
        case ry7 => (intro w; go_simp; try with_reducible rfl)
        try simp only [List.getElem_toArray, List.getElem_cons_zero, List.getElem_cons_succ, Act.put, List.setIfInBounds_toArray, List.set_cons_zero, List.set_cons_succ]
        refine wpAny_take (i := 1) (v := ?rv8) rfl (by kernel_rfl) (by kernel_rfl) (by kernel_rfl) (fun _ _ _ h => h) (Or.inl ⟨by rfl, ?ry8⟩) ?rr8
        case ry8 => (intro w; go_simp; try with_reducible rfl)
        try simp only [List.getElem_toArray, List.getElem_cons_zero, List.getElem_cons_succ, Act.put, List.setIfInBounds_toArray, List.set_cons_zero, List.set_cons_succ]
        refine wpAny_take (i := 2) (v := ?rv9) rfl (by kernel_rfl) (by kernel_rfl) (by kernel_rfl) (fun _ _ _ h => h) (Or.inl ⟨by rfl, ?ry9⟩) ?rr9
        case ry9 => (intro w; go_simp; try with_reducible rfl)
        try simp only [List.getElem_toArray, List.getElem_cons_zero, List.getElem_cons_succ, Act.put, List.setIfInBounds_toArray, List.set_cons_zero, List.set_cons_succ]
        refine wpAny_take (i := 3) (v := ?rv10) rfl (by kernel_rfl) (by kernel_rfl) (by kernel_rfl) (fun _ _ _ h => h) (Or.inl ⟨by rfl, ?ry10⟩) ?rr10
        case ry10 => (intro w; go_simp; try with_reducible rfl)
        try simp only [List.getElem_toArray, List.getElem_cons_zero, List.getElem_cons_succ, Act.put, List.setIfInBounds_toArray, List.set_cons_zero, List.set_cons_succ]
        refine wpAny_take (i := 4) (v := ?rv11) rfl (by kernel_rfl) (by kernel_rfl) (by kernel_rfl) (fun _ _ _ h => h) (Or.inl ⟨by rfl, ?ry11⟩) ?rr11
        case ry11 => (intro w; go_simp; try with_reducible rfl)
        try simp only [List.getElem_toArray, List.getElem_cons_zero, List.getElem_cons_succ, Act.put, List.setIfInBounds_toArray, List.set_cons_zero, List.set_cons_succ]
        refine wpAny_take (i := 5) (v := ?rv12) rfl (by kernel_rfl) (by kernel_rfl) (by kernel_rfl) (fun _ _ _ h => h) (Or.inl ⟨by rfl, ?ry12⟩) ?rr12
        case ry12 => (intro w; go_simp; try with_reducible rfl)
        try simp only [List.getElem_toArray, List.getElem_cons_zero, List.getElem_cons_succ, Act.put, List.setIfInBounds_toArray, List.set_cons_zero, List.set_cons_succ]
        refine wpAny_take (i := 6) (v := ?rv13) rfl (by kernel_rfl) (by kernel_rfl) (by kernel_rfl) (fun _ _ _ h => h) (Or.inl ⟨by rfl, ?ry13⟩) ?rr13
        case ry13 => (intro w; go_simp; try with_reducible rfl)
        try simp only [List.getElem_toArray, List.getElem_cons_zero, List.getElem_cons_succ, Act.put, List.setIfInBounds_toArray, List.set_cons_zero, List.set_cons_succ]
        refine wpAny_take (i := 7) (v := ?rv14) rfl (by kernel_rfl) (by kernel_rfl) (by kernel_rfl) (fun _ _ _ h => h) (Or.inl ⟨by rfl, ?ry14⟩) ?rr14
        case ry14 => (intro w; go_simp; try with_reducible rfl)
        try simp only [List.getElem_toArray, List.getElem_cons_zero, List.getElem_cons_succ, Act.put, List.setIfInBounds_toArray, List.set_cons_zero, List.set_cons_succ]
        refine wpAny_take (i := 8) (v := ?rv15) rfl (by kernel_rfl) (by kernel_rfl) (by kernel_rfl) (fun _ _ _ h => h) (Or.inl ⟨by rfl, ?ry15⟩) ?rr15
        case ry15 => (intro w; go_simp; try with_reducible rfl)
        try simp only [List.getElem_toArray, List.getElem_cons_zero, List.getElem_cons_succ, Act.put, List.setIfInBounds_toArray, List.set_cons_zero, List.set_cons_succ]
        refine wpAny_take (i := 9) (v := ?rv16) rfl (by kernel_rfl) (by kernel_rfl) (by kernel_rfl) (fun _ _ _ h => h) (Or.inl ⟨by rfl, ?ry16⟩) ?rr16
        case ry16 => (intro w; go_simp; try with_reducible rfl)
        try simp only [List.getElem_toArray, List.getElem_cons_zero, List.getElem_cons_succ, Act.put, List.setIfInBounds_toArray, List.set_cons_zero, List.set_cons_succ]
        refine wpAny_take (i := 11) (v := ?rv17) rfl (by kernel_rfl) (by kernel_rfl) (by kernel_rfl) (fun _ _ _ h => h) (Or.inl ⟨by rfl, ?ry17⟩) ?rr17
        case ry17 => (intro w; go_simp; try with_reducible rfl)
        try simp only [List.getElem_toArray, List.getElem_cons_zero, List.getElem_cons_succ, Act.put, List.setIfInBounds_toArray, List.set_cons_zero, List.set_cons_succ]
        refine wpAny_take (i := 12) (v := ?rv18) rfl (by kernel_rfl) (by kernel_rfl) (by kernel_rfl) (fun _ _ _ h => h) (Or.inl ⟨by rfl, ?ry18⟩) ?rr18
        case ry18 => (intro w; go_simp; try with_reducible rfl)
        try simp only [List.getElem_toArray, List.getElem_cons_zero, List.getElem_cons_succ, Act.put, List.setIfInBounds_toArray, List.set_cons_zero, List.set_cons_succ]
        refine wpAny_take (i := 13) (v := ?rv19) rfl (by kernel_rfl) (by kernel_rfl) (by kernel_rfl) (fun _ _ _ h => h) (Or.inl ⟨by rfl, ?ry19⟩) ?rr19
        case ry19 => (intro w; go_simp; try with_reducible rfl)
        try simp only [List.getElem_toArray, List.getElem_cons_zero, List.getElem_cons_succ, Act.put, List.setIfInBounds_toArray, List.set_cons_zero, List.set_cons_succ]
        refine wpAny_take (i := 14) (v := ?rv20) rfl (by kernel_rfl) (by kernel_rfl) (by kernel_rfl) (fun _ _ _ h => h) (Or.inl ⟨by rfl, ?ry20⟩) ?rr20
        case ry20 => (intro w; go_simp; try with_reducible rfl)
        try simp only [List.getElem_toArray, List.getElem_cons_zero, List.getElem_cons_succ, Act.put, List.setIfInBounds_toArray, List.set_cons_zero, List.set_cons_succ]
        refine wpAny_ready (rs := [10]) (by kernel_rfl) (by simp) ?_
        refine AllReady.cons rfl (fun K hK => ?_) AllReady.nil
        go_simp
        refine (checked_any _ _ (by rw [List.length_take]; omega)).mono ?_
        rintro e w2 ⟨rfl, hb2'⟩
        have hb2 : Below wr.heap.size wr w2 := (Below.refl _ wr).drew.trans hb2'
        clear hb2'
        have HI2 : Hid (RAt w s w.heap.size B w2 k m g c f) := ⟨HI.out.at_, HI.out.fuel, HI.out.box.below hb2, HI.out.res.below hb2, HI.out.own.below hb2, HI.out.bel.trans (hb2.mono HI.out.bel.size), HI.out.few, HI.out.nB, HI.out.nR⟩
        clear hb2 b0 b1 b2 fb r0 r1 r2 fr
        obtain ⟨b0, b1, b2, fb⟩ := mbox_cells HI2.out.box
        obtain ⟨r0, r1, r2, fr⟩ := mbox_cells HI2.out.res
        have HREC : Hid (recOf (s.drop k) = if withChk ((s.drop k).take (E2 - k)) = (s.drop k).take (E - k) then some ((s.drop (k + 1)).take (E2 - (k + 1)), z.toNat + 3) else none) := by
          show _ = _
          have hl := HDL.out
          have e1 : E - k = z.toNat + 3 := by omega
          have e3 : E2 - k = z.toNat + 3 - 2 := by omega
          have e4 : E2 - (k + 1) = z.toNat := by omega
          unfold recOf
          rw [if_neg (by omega), HZ.out, if_neg (by omega), e1, e3, e4, List.drop_drop]
          have hs := strip_iff ((s.drop k).take (z.toNat + 3)) (by rw [List.length_take]; omega)
          rw [List.length_take, Nat.min_eq_left (by omega), List.take_take, Nat.min_eq_left (by omega)] at hs
          by_cases hq : stripOk ((s.drop k).take (z.toNat + 3)) = true
          · rw [if_pos hq, if_pos (hs.1 hq)]
          · rw [if_neg hq, if_neg (fun h => hq (hs.2 h))]
        have HIL : Hid (((s.drop (k + 1)).take (E2 - (k + 1))).length ≤ 256) := by show _ ≤ _; rw [List.length_take]; omega
        clear x1 x2
        have x3 := extr s (k + 1) E2
        generalize (s.drop (k + 1)).take (E2 - (k + 1)) = IN at HREC HIL x3
        generalize (s.drop k).take (E2 - k) = L1 at HREC ⊢
        generalize (s.drop k).take (E - k) = L2 at HREC ⊢
        by_cases heq : withChk L1 = L2
        · have HREC2 : Hid (recOf (s.drop k) = some (IN, z.toNat + 3)) := by show _ = _; rw [HREC.out, if_pos heq]
          rw [heq]
          clear heq HREC
          go_simp
          refine hK _ _ ?_
          clear hK K
          refine wpAny_take (i := 15) (v := ?rv21) rfl (by kernel_rfl) (by kernel_rfl) (by kernel_rfl) (fun _ _ _ h => h) (Or.inl ⟨by rfl, ?ry21⟩) ?rr21
          case ry21 => (intro w; go_simp; try with_reducible rfl)
          try simp only [List.getElem_toArray, List.getElem_cons_zero, List.getElem_cons_succ, Act.put, List.setIfInBounds_toArray, List.set_cons_zero, List.set_cons_succ]
          refine wpAny_take (i := 16) (v := ?rv22) rfl (by kernel_rfl) (by kernel_rfl) (by kernel_rfl) (fun _ _ _ h => h) (Or.inl ⟨by rfl, ?ry22⟩) ?rr22
          case ry22 => (intro w; go_simp; try with_reducible rfl)
          try simp only [List.getElem_toArray, List.getElem_cons_zero, List.getElem_cons_succ, Act.put, List.setIfInBounds_toArray, List.set_cons_zero, List.set_cons_succ]
          refine wpAny_done (by kernel_rfl) ?_ _
          go_wp2
          have hBl2 : B < w2.heap.size := heap_lt HI2.out.box
          have HMV : Hid (m.val (g.map fun x => (⟨x, 0, none⟩ : Addr)) c = .agg #[.int .i64 m.view, .int .i64 m.last, .slice (g.map fun x => ⟨x, 0, none⟩) m.ls.length c]) := rfl
          have wk1 : IntKind.i64.wrap ((k : Int) + 1) = (k : Int) + 1 := by rw [IntWalk.i64_left, IntWalk.wrap64_in _ (by omega)]
          have lk1 : (k : Int) + 1 ≤ (E2 : Int) := by omega
          have lk0 : (0 : Int) ≤ (k : Int) + 1 := by omega
          refine wp_region_any (by kernel_rfl) ?_
          try (change wpAny _ _ _ _ _ _ _ (World.drew _))
          refine wpAny_take (i := 1) (v := ?rv23) rfl (by kernel_rfl) (by kernel_rfl) (by kernel_rfl) (fun _ _ _ h => h) (Or.inl ⟨by rfl, ?ry23⟩) ?rr23
          case ry23 => (intro w; go_simp; try with_reducible rfl)
          try simp only [List.getElem_toArray, List.getElem_cons_zero, List.getElem_cons_succ, Act.put, List.setIfInBounds_toArray, List.set_cons_zero, List.set_cons_succ]
          refine wpAny_take (i := 2) (v := ?rv24) rfl (by kernel_rfl) (by kernel_rfl) (by kernel_rfl) (fun _ _ _ h => h) (Or.inl ⟨by rfl, ?ry24⟩) ?rr24
          case ry24 => (intro w; go_simp; try with_reducible rfl)
          try simp only [List.getElem_toArray, List.getElem_cons_zero, List.getElem_cons_succ, Act.put, List.setIfInBounds_toArray, List.set_cons_zero, List.set_cons_succ]
          refine wpAny_take (i := 3) (v := ?rv25) rfl (by kernel_rfl) (by kernel_rfl) (by kernel_rfl) (fun _ _ _ h => h) (Or.inl ⟨by rfl, ?ry25⟩) ?rr25
          case ry25 => (intro w; go_simp; try with_reducible rfl)
          try simp only [List.getElem_toArray, List.getElem_cons_zero, List.getElem_cons_succ, Act.put, List.setIfInBounds_toArray, List.set_cons_zero, List.set_cons_succ]
          refine wpAny_take (i := 4) (v := ?rv26) rfl (by kernel_rfl) (by kernel_rfl) (by kernel_rfl) (fun _ _ _ h => h) (Or.inl ⟨by rfl, ?ry26⟩) ?rr26
          case ry26 => (intro w; go_simp; try with_reducible rfl)
          try simp only [List.getElem_toArray, List.getElem_cons_zero, List.getElem_cons_succ, Act.put, List.setIfInBounds_toArray, List.set_cons_zero, List.set_cons_succ]
          refine wpAny_take (i := 5) (v := ?rv27) rfl (by kernel_rfl) (by kernel_rfl) (by kernel_rfl) (fun _ _ _ h => h) (Or.inl ⟨by rfl, ?ry27⟩) ?rr27
          case ry27 => (intro w; go_simp; try with_reducible rfl)
          try simp only [List.getElem_toArray, List.getElem_cons_zero, List.getElem_cons_succ, Act.put, List.setIfInBounds_toArray, List.set_cons_zero, List.set_cons_succ]
          refine wpAny_take (i := 6) (v := ?rv28) rfl (by kernel_rfl) (by kernel_rfl) (by kernel_rfl) (fun _ _ _ h => h) (Or.inl ⟨by rfl, ?ry28⟩) ?rr28
          case ry28 => (intro w; go_simp; try with_reducible rfl)
          try simp only [List.getElem_toArray, List.getElem_cons_zero, List.getElem_cons_succ, Act.put, List.setIfInBounds_toArray, List.set_cons_zero, List.set_cons_succ]
          refine wpAny_ready (rs := [0, 11]) (by kernel_rfl) (by simp) ?_
          refine AllReady.cons rfl (fun K hK => ?_) (AllReady.cons rfl (fun K hK => ?_) AllReady.nil)
          · go_simp
            refine hK _ _ ?_
            clear hK K
            refine wpAny_ready (rs := [7, 11]) (by kernel_rfl) (by simp) ?_
            refine AllReady.cons rfl (fun K hK => ?_) (AllReady.cons rfl (fun K hK => ?_) AllReady.nil)
            · skip
              go_simp
              rw [← HMV.out]
              refine (does_any m (g.map fun x => (⟨x, 0, none⟩ : Addr)) c IN _ (by exact HI2.out.own.at_.below ((Below.refl _ _).drew)) HI.out.few (by have := HIL.out; omega)).mono ?_
              rintro e w4 ⟨hb4, hdd⟩
              have HB4 := hid hb4
              have hb24 : Below w2.heap.size w2 w4 := (Below.refl _ w2).drew.trans HB4.out
              have R4 := hid (HI2.out.res.below hb24)
              have B4 := hid (HI2.out.box.below hb24)
              have O4 := hid (HI2.out.own.below hb24)
              have W4 := hid (HI2.out.bel.trans (hb24.mono HI2.out.bel.size))
              clear hb24 b0 b1 b2 fb r0 r1 r2 fr hb4
              obtain ⟨b0, b1, b2, fb⟩ := mbox_cells B4.out
              obtain ⟨r0, r1, r2, fr⟩ := mbox_cells R4.out
              have hBl : B < w4.heap.size := heap_lt B4.out
              have hRl : w.heap.size < w4.heap.size := heap_lt R4.out
              rcases hdd with ⟨hd, rfl⟩ | ⟨m', g2, c2, hd, rfl, hol⟩
              · have HD := hid hd
                have HE : Hid (readD s = (m, k)) := by show _ = _; rw [HI.out.at_]; exact readF_no HREC2.out HD.out f

                clear hd
                rw [HMV.out]
                go_simp
                refine hK _ _ ?_
                clear hK K
                refine wpAny_take (i := 8) (v := ?rv29) rfl (by kernel_rfl) (by kernel_rfl) (by kernel_rfl) (fun _ _ _ h => h) (Or.inl ⟨by rfl, ?ry29⟩) ?rr29
                case ry29 => (intro w; go_simp; try with_reducible rfl)
                try simp only [List.getElem_toArray, List.getElem_cons_zero, List.getElem_cons_succ, Act.put, List.setIfInBounds_toArray, List.set_cons_zero, List.set_cons_succ]
                refine wpAny_take (i := 9) (v := ?rv30) rfl (by kernel_rfl) (by kernel_rfl) (by kernel_rfl) (fun _ _ _ h => h) (Or.inl ⟨by rfl, ?ry30⟩) ?rr30
                case ry30 => (intro w; go_simp; try with_reducible rfl)
                try simp only [List.getElem_toArray, List.getElem_cons_zero, List.getElem_cons_succ, Act.put, List.setIfInBounds_toArray, List.set_cons_zero, List.set_cons_succ]
                refine wpAny_take (i := 10) (v := ?rv31) rfl (by kernel_rfl) (by kernel_rfl) (by kernel_rfl) (fun _ _ _ h => h) (Or.inl ⟨by rfl, ?ry31⟩) ?rr31
                case ry31 => (intro w; go_simp; try with_reducible rfl)
                try simp only [List.getElem_toArray, List.getElem_cons_zero, List.getElem_cons_succ, Act.put, List.setIfInBounds_toArray, List.set_cons_zero, List.set_cons_succ]
                refine wpAny_ready (rs := [11]) (by kernel_rfl) (by simp) ?_
                refine AllReady.cons rfl (fun K hK => ?_) AllReady.nil
                go_simp
                refine hK _ _ ?_
                clear hK K
                refine wpAny_ready (rs := [12]) (by kernel_rfl) (by simp) ?_
                refine AllReady.cons rfl (fun K hK => ?_) AllReady.nil
                go_simp
                refine hK _ _ ?_
                clear hK K
                refine wpAny_ready (rs := [13]) (by kernel_rfl) (by simp) ?_
                refine AllReady.cons rfl (fun K hK => ?_) AllReady.nil
                go_simp
                refine hK _ _ ?_
                clear hK K
                refine wpAny_done (by kernel_rfl) ?_ _
                go_wp2
                refine readRet (alloc_keep1 (mset2 (mset1 (mset0 R4.out _) _) _)) rfl rfl rfl ⟨g, c, ?_, ?_, ?_⟩
                · rw [HE.out]; rfl
                · rw [HE.out]; exact (((O4.out.setOther w.heap.size 0 _ HI.out.nR).setOther w.heap.size 1 _ HI.out.nR).setOther w.heap.size 2 _ HI.out.nR).below ((Below.refl _ _).alloc (Nat.le_refl _) _)
                · exact (((W4.out.setCell (p := ⟨w.heap.size, 0, none⟩) (Nat.le_refl _) _).setCell (p := ⟨w.heap.size, 1, none⟩) (Nat.le_refl _) _).setCell (p := ⟨w.heap.size, 2, none⟩) (Nat.le_refl _) _).alloc (by simp only [size_setCell]; exact W4.out.size) _
              · have HD := hid hd
                have HOL := hid hol
                obtain ⟨f', hf1, hf2⟩ := readF_step HI.out.fuel HREC2.out hd
                have hkE : k + (z.toNat + 3) = E := by omega
                rw [hkE] at hf1 hf2
                have HF1 := hid (HI.out.at_.trans hf1)
                have HF2 := hid hf2
                have hbase : Hid (w.heap.size ≤ w2.heap.size) := HI2.out.bel.size
                have hgB2 : Hid (g2 ≠ some B) := fun e => by have := HOL.out.new _ e; have := heap_lt HI2.out.box; first | omega | (simp at *; omega)
                have hgR2 : Hid (g2 ≠ some w.heap.size) := fun e => by have := HOL.out.new _ e; have := heap_lt HI2.out.res; first | omega | (simp at *; omega)

                clear hd hol hf1 hf2 hkE
                have HMV2 : Hid (m'.val (g2.map fun x => (⟨x, 0, none⟩ : Addr)) c2 = .agg #[.int .i64 m'.view, .int .i64 m'.last, .slice (g2.map fun x => ⟨x, 0, none⟩) m'.ls.length c2]) := rfl
                rw [HMV2.out]
                go_simp
                refine hK _ _ ?_
                clear hK K
                refine wpAny_take (i := 8) (v := ?rv32) rfl (by kernel_rfl) (by kernel_rfl) (by kernel_rfl) (fun _ _ _ h => h) (Or.inl ⟨by rfl, ?ry32⟩) ?rr32
                case ry32 => (intro w; go_simp; try with_reducible rfl)
                try simp only [List.getElem_toArray, List.getElem_cons_zero, List.getElem_cons_succ, Act.put, List.setIfInBounds_toArray, List.set_cons_zero, List.set_cons_succ]
                refine wpAny_take (i := 9) (v := ?rv33) rfl (by kernel_rfl) (by kernel_rfl) (by kernel_rfl) (fun _ _ _ h => h) (Or.inl ⟨by rfl, ?ry33⟩) ?rr33
                case ry33 => (intro w; go_simp; try with_reducible rfl)
                try simp only [List.getElem_toArray, List.getElem_cons_zero, List.getElem_cons_succ, Act.put, List.setIfInBounds_toArray, List.set_cons_zero, List.set_cons_succ]
                refine wpAny_take (i := 10) (v := ?rv34) rfl (by kernel_rfl) (by kernel_rfl) (by kernel_rfl) (fun _ _ _ h => h) (Or.inl ⟨by rfl, ?ry34⟩) ?rr34
                case ry34 => (intro w; go_simp; try with_reducible rfl)
                try simp only [List.getElem_toArray, List.getElem_cons_zero, List.getElem_cons_succ, Act.put, List.setIfInBounds_toArray, List.set_cons_zero, List.set_cons_succ]
                refine wpAny_ready (rs := [11]) (by kernel_rfl) (by simp) ?_
                refine AllReady.cons rfl (fun K hK => ?_) AllReady.nil
                go_simp
                refine hK _ _ ?_
                clear hK K
                refine wpAny_ready (rs := [12]) (by kernel_rfl) (by simp) ?_
                refine AllReady.cons rfl (fun K hK => ?_) AllReady.nil
                go_simp
                refine hK _ _ ?_
                clear hK K
                refine wpAny_ready (rs := [13]) (by kernel_rfl) (by simp) ?_
                refine AllReady.cons rfl (fun K hK => ?_) AllReady.nil
                go_simp
                refine hK _ _ ?_
                clear hK K
                refine wpAny_done (by kernel_rfl) ?_ _
                go_wp2
                go_roundw
                case rel => exact ⟨E, m', g2, c2, f', by omega, rfl, ⟨HF1.out, HF2.out, (alloc_keep1 (mset2 (mset1 (mset0 B4.out _) _) _)), (alloc_keep1 (((R4.out.other hRB).other hRB).other hRB)), ((((HOL.out.base hbase.out).setOther B 0 _ hgB2.out).setOther B 1 _ hgB2.out).setOther B 2 _ hgB2.out).below ((Below.refl _ _).alloc (Nat.le_refl _) _), (((W4.out.setCell (p := ⟨B, 0, none⟩) hBw.out _).setCell (p := ⟨B, 1, none⟩) hBw.out _).setCell (p := ⟨B, 2, none⟩) hBw.out _).alloc (by simp only [size_setCell]; exact W4.out.size) _, okM_len (doesM_ok HD.out), hgB2.out, hgR2.out⟩⟩
                case measure => simp [intOf]; omega
            · go_simp
              refine hK _ _ ?_
              clear hK K
              refine wpAny_ready (rs := [7]) (by kernel_rfl) (by simp) ?_
              refine AllReady.cons rfl (fun K hK => ?_) AllReady.nil
              go_simp
              rw [← HMV.out]
              refine (does_any m (g.map fun x => (⟨x, 0, none⟩ : Addr)) c IN _ (by exact HI2.out.own.at_.below (((Below.refl _ _).alloc (Nat.le_refl _) _).drew)) HI.out.few (by have := HIL.out; omega)).mono ?_
              rintro e w4 ⟨hb4, hdd⟩
              have HB4 := hid hb4
              have hb24 : Below w2.heap.size w2 w4 := ((Below.refl _ w2).alloc (Nat.le_refl _) _).drew.trans (HB4.out.mono (by simp))
              have R4 := hid (HI2.out.res.below hb24)
              have B4 := hid (HI2.out.box.below hb24)
              have O4 := hid (HI2.out.own.below hb24)
              have W4 := hid (HI2.out.bel.trans (hb24.mono HI2.out.bel.size))
              clear hb24 b0 b1 b2 fb r0 r1 r2 fr hb4
              obtain ⟨b0, b1, b2, fb⟩ := mbox_cells B4.out
              obtain ⟨r0, r1, r2, fr⟩ := mbox_cells R4.out
              have hBl : B < w4.heap.size := heap_lt B4.out
              have hRl : w.heap.size < w4.heap.size := heap_lt R4.out
              have hT4 : MBox w2.heap.size 176 (.int .i64 0) (.int .i64 0) (.slice none 0 0) w4 := MBox.below (x := (w2.alloc (.cells #[.int .i64 0, .int .i64 0, .slice none 0 0] 176)).drew) (show MBox w2.heap.size 176 (.int .i64 0) (.int .i64 0) (.slice none 0 0) (w2.alloc (.cells #[.int .i64 0, .int .i64 0, .slice none 0 0] 176)) from heap_alloc_new w2 _) HB4.out
              obtain ⟨t0, t1, t2, ft⟩ := mbox_cells hT4
              have hTB : B ≠ w2.heap.size := by have := heap_lt HI2.out.box; omega
              have hTR : w.heap.size ≠ w2.heap.size := by have := heap_lt HI2.out.res; omega
              have hTw : w.heap.size ≤ w2.heap.size := HI2.out.bel.size
              have HT4 := hid hT4
              clear hT4
              rcases hdd with ⟨hd, rfl⟩ | ⟨m', g2, c2, hd, rfl, hol⟩
              · have HD := hid hd
                have HE : Hid (readD s = (m, k)) := by show _ = _; rw [HI.out.at_]; exact readF_no HREC2.out HD.out f
                have hgT : Hid (g ≠ some w2.heap.size) := fun e => by have := HI2.out.own.own.lt e; omega
                clear hd
                rw [HMV.out]
                go_simp
                refine hK _ _ ?_
                clear hK K
                refine wpAny_take (i := 8) (v := ?rv35) rfl (by kernel_rfl) (by kernel_rfl) (by kernel_rfl) (fun _ _ _ h => h) (Or.inl ⟨by rfl, ?ry35⟩) ?rr35
                case ry35 => (intro w; go_simp; try with_reducible rfl)
                try simp only [List.getElem_toArray, List.getElem_cons_zero, List.getElem_cons_succ, Act.put, List.setIfInBounds_toArray, List.set_cons_zero, List.set_cons_succ]
                refine wpAny_take (i := 9) (v := ?rv36) rfl (by kernel_rfl) (by kernel_rfl) (by kernel_rfl) (fun _ _ _ h => h) (Or.inl ⟨by rfl, ?ry36⟩) ?rr36
                case ry36 => (intro w; go_simp; try with_reducible rfl)
                try simp only [List.getElem_toArray, List.getElem_cons_zero, List.getElem_cons_succ, Act.put, List.setIfInBounds_toArray, List.set_cons_zero, List.set_cons_succ]
                refine wpAny_take (i := 10) (v := ?rv37) rfl (by kernel_rfl) (by kernel_rfl) (by kernel_rfl) (fun _ _ _ h => h) (Or.inl ⟨by rfl, ?ry37⟩) ?rr37
                case ry37 => (intro w; go_simp; try with_reducible rfl)
                try simp only [List.getElem_toArray, List.getElem_cons_zero, List.getElem_cons_succ, Act.put, List.setIfInBounds_toArray, List.set_cons_zero, List.set_cons_succ]
                refine wpAny_ready (rs := [12]) (by kernel_rfl) (by simp) ?_
                refine AllReady.cons rfl (fun K hK => ?_) AllReady.nil
                go_simp
                refine hK _ _ ?_
                clear hK K
                refine wpAny_ready (rs := [13]) (by kernel_rfl) (by simp) ?_
                refine AllReady.cons rfl (fun K hK => ?_) AllReady.nil
                go_simp
                refine hK _ _ ?_
                clear hK K
                refine wpAny_done (by kernel_rfl) ?_ _
                go_wp2
                refine readRet (mset2 (mset1 (mset0 (((R4.out.other hTR).other hTR).other hTR) _) _) _) rfl rfl rfl ⟨g, c, ?_, ?_, ?_⟩
                · rw [HE.out]; rfl
                · rw [HE.out]; exact ((((((O4.out.setOther w2.heap.size 0 _ hgT.out).setOther w2.heap.size 1 _ hgT.out).setOther w2.heap.size 2 _ hgT.out).setOther w.heap.size 0 _ HI.out.nR).setOther w.heap.size 1 _ HI.out.nR).setOther w.heap.size 2 _ HI.out.nR)
                · exact ((((((W4.out.setCell (p := ⟨w2.heap.size, 0, none⟩) hTw _).setCell (p := ⟨w2.heap.size, 1, none⟩) hTw _).setCell (p := ⟨w2.heap.size, 2, none⟩) hTw _).setCell (p := ⟨w.heap.size, 0, none⟩) (Nat.le_refl _) _).setCell (p := ⟨w.heap.size, 1, none⟩) (Nat.le_refl _) _).setCell (p := ⟨w.heap.size, 2, none⟩) (Nat.le_refl _) _)
              · have HD := hid hd
                have HOL := hid hol
                obtain ⟨f', hf1, hf2⟩ := readF_step HI.out.fuel HREC2.out hd
                have hkE : k + (z.toNat + 3) = E := by omega
                rw [hkE] at hf1 hf2
                have HF1 := hid (HI.out.at_.trans hf1)
                have HF2 := hid hf2
                have hbase : Hid (w.heap.size ≤ w2.heap.size) := HI2.out.bel.size
                have hgB2 : Hid (g2 ≠ some B) := fun e => by have := HOL.out.new _ e; have := heap_lt HI2.out.box; first | omega | (simp at *; omega)
                have hgR2 : Hid (g2 ≠ some w.heap.size) := fun e => by have := HOL.out.new _ e; have := heap_lt HI2.out.res; first | omega | (simp at *; omega)
                have hgT2 : Hid (g2 ≠ some w2.heap.size) := fun e => by have := HOL.out.new _ e; simp at this; omega
                clear hd hol hf1 hf2 hkE
                have HMV2 : Hid (m'.val (g2.map fun x => (⟨x, 0, none⟩ : Addr)) c2 = .agg #[.int .i64 m'.view, .int .i64 m'.last, .slice (g2.map fun x => ⟨x, 0, none⟩) m'.ls.length c2]) := rfl
                rw [HMV2.out]
                go_simp
                refine hK _ _ ?_
                clear hK K
                refine wpAny_take (i := 8) (v := ?rv38) rfl (by kernel_rfl) (by kernel_rfl) (by kernel_rfl) (fun _ _ _ h => h) (Or.inl ⟨by rfl, ?ry38⟩) ?rr38
                case ry38 => (intro w; go_simp; try with_reducible rfl)
                try simp only [List.getElem_toArray, List.getElem_cons_zero, List.getElem_cons_succ, Act.put, List.setIfInBounds_toArray, List.set_cons_zero, List.set_cons_succ]
                refine wpAny_take (i := 9) (v := ?rv39) rfl (by kernel_rfl) (by kernel_rfl) (by kernel_rfl) (fun _ _ _ h => h) (Or.inl ⟨by rfl, ?ry39⟩) ?rr39
                case ry39 => (intro w; go_simp; try with_reducible rfl)
                try simp only [List.getElem_toArray, List.getElem_cons_zero, List.getElem_cons_succ, Act.put, List.setIfInBounds_toArray, List.set_cons_zero, List.set_cons_succ]
                refine wpAny_take (i := 10) (v := ?rv40) rfl (by kernel_rfl) (by kernel_rfl) (by kernel_rfl) (fun _ _ _ h => h) (Or.inl ⟨by rfl, ?ry40⟩) ?rr40
                case ry40 => (intro w; go_simp; try with_reducible rfl)
                try simp only [List.getElem_toArray, List.getElem_cons_zero, List.getElem_cons_succ, Act.put, List.setIfInBounds_toArray, List.set_cons_zero, List.set_cons_succ]
                refine wpAny_ready (rs := [12]) (by kernel_rfl) (by simp) ?_
                refine AllReady.cons rfl (fun K hK => ?_) AllReady.nil
                go_simp
                refine hK _ _ ?_
                clear hK K
                refine wpAny_ready (rs := [13]) (by kernel_rfl) (by simp) ?_
                refine AllReady.cons rfl (fun K hK => ?_) AllReady.nil
                go_simp
                refine hK _ _ ?_
                clear hK K
                refine wpAny_done (by kernel_rfl) ?_ _
                go_wp2
                go_roundw
                case rel => exact ⟨E, m', g2, c2, f', by omega, rfl, ⟨HF1.out, HF2.out, (mset2 (mset1 (mset0 (((B4.out.other hTB).other hTB).other hTB) _) _) _), ((((((R4.out.other hTR).other hTR).other hTR).other hRB).other hRB).other hRB), (((((((HOL.out.base (Nat.le_trans hbase.out (by simp))).setOther w2.heap.size 0 _ hgT2.out).setOther w2.heap.size 1 _ hgT2.out).setOther w2.heap.size 2 _ hgT2.out).setOther B 0 _ hgB2.out).setOther B 1 _ hgB2.out).setOther B 2 _ hgB2.out), ((((((W4.out.setCell (p := ⟨w2.heap.size, 0, none⟩) hTw _).setCell (p := ⟨w2.heap.size, 1, none⟩) hTw _).setCell (p := ⟨w2.heap.size, 2, none⟩) hTw _).setCell (p := ⟨B, 0, none⟩) hBw.out _).setCell (p := ⟨B, 1, none⟩) hBw.out _).setCell (p := ⟨B, 2, none⟩) hBw.out _), okM_len (doesM_ok HD.out), hgB2.out, hgR2.out⟩⟩
                case measure => simp [intOf]; omega
          · go_simp
            refine hK _ _ ?_
            clear hK K
            refine wpAny_ready (rs := [0]) (by kernel_rfl) (by simp) ?_
            refine AllReady.cons rfl (fun K hK => ?_) AllReady.nil
            go_simp
            refine hK _ _ ?_
            clear hK K
            refine wpAny_ready (rs := [7]) (by kernel_rfl) (by simp) ?_
            refine AllReady.cons rfl (fun K hK => ?_) AllReady.nil
            go_simp
            rw [← HMV.out]
            refine (does_any m (g.map fun x => (⟨x, 0, none⟩ : Addr)) c IN _ (by exact HI2.out.own.at_.below (((Below.refl _ _).alloc (Nat.le_refl _) _).drew)) HI.out.few (by have := HIL.out; omega)).mono ?_
            rintro e w4 ⟨hb4, hdd⟩
            have HB4 := hid hb4
            have hb24 : Below w2.heap.size w2 w4 := ((Below.refl _ w2).alloc (Nat.le_refl _) _).drew.trans (HB4.out.mono (by simp))
            have R4 := hid (HI2.out.res.below hb24)
            have B4 := hid (HI2.out.box.below hb24)
            have O4 := hid (HI2.out.own.below hb24)
            have W4 := hid (HI2.out.bel.trans (hb24.mono HI2.out.bel.size))
            clear hb24 b0 b1 b2 fb r0 r1 r2 fr hb4
            obtain ⟨b0, b1, b2, fb⟩ := mbox_cells B4.out
            obtain ⟨r0, r1, r2, fr⟩ := mbox_cells R4.out
            have hBl : B < w4.heap.size := heap_lt B4.out
            have hRl : w.heap.size < w4.heap.size := heap_lt R4.out
            have hT4 : MBox w2.heap.size 176 (.int .i64 0) (.int .i64 0) (.slice none 0 0) w4 := MBox.below (x := (w2.alloc (.cells #[.int .i64 0, .int .i64 0, .slice none 0 0] 176)).drew) (show MBox w2.heap.size 176 (.int .i64 0) (.int .i64 0) (.slice none 0 0) (w2.alloc (.cells #[.int .i64 0, .int .i64 0, .slice none 0 0] 176)) from heap_alloc_new w2 _) HB4.out
            obtain ⟨t0, t1, t2, ft⟩ := mbox_cells hT4
            have hTB : B ≠ w2.heap.size := by have := heap_lt HI2.out.box; omega
            have hTR : w.heap.size ≠ w2.heap.size := by have := heap_lt HI2.out.res; omega
            have hTw : w.heap.size ≤ w2.heap.size := HI2.out.bel.size
            have HT4 := hid hT4
            clear hT4
            rcases hdd with ⟨hd, rfl⟩ | ⟨m', g2, c2, hd, rfl, hol⟩
            · have HD := hid hd
              have HE : Hid (readD s = (m, k)) := by show _ = _; rw [HI.out.at_]; exact readF_no HREC2.out HD.out f
              have hgT : Hid (g ≠ some w2.heap.size) := fun e => by have := HI2.out.own.own.lt e; omega
              clear hd
              rw [HMV.out]
              go_simp
              refine hK _ _ ?_
              clear hK K
              refine wpAny_take (i := 8) (v := ?rv41) rfl (by kernel_rfl) (by kernel_rfl) (by kernel_rfl) (fun _ _ _ h => h) (Or.inl ⟨by rfl, ?ry41⟩) ?rr41
              case ry41 => (intro w; go_simp; try with_reducible rfl)
              try simp only [List.getElem_toArray, List.getElem_cons_zero, List.getElem_cons_succ, Act.put, List.setIfInBounds_toArray, List.set_cons_zero, List.set_cons_succ]
              refine wpAny_take (i := 9) (v := ?rv42) rfl (by kernel_rfl) (by kernel_rfl) (by kernel_rfl) (fun _ _ _ h => h) (Or.inl ⟨by rfl, ?ry42⟩) ?rr42
              case ry42 => (intro w; go_simp; try with_reducible rfl)
              try simp only [List.getElem_toArray, List.getElem_cons_zero, List.getElem_cons_succ, Act.put, List.setIfInBounds_toArray, List.set_cons_zero, List.set_cons_succ]
              refine wpAny_take (i := 10) (v := ?rv43) rfl (by kernel_rfl) (by kernel_rfl) (by kernel_rfl) (fun _ _ _ h => h) (Or.inl ⟨by rfl, ?ry43⟩) ?rr43
              case ry43 => (intro w; go_simp; try with_reducible rfl)
              try simp only [List.getElem_toArray, List.getElem_cons_zero, List.getElem_cons_succ, Act.put, List.setIfInBounds_toArray, List.set_cons_zero, List.set_cons_succ]
              refine wpAny_ready (rs := [12]) (by kernel_rfl) (by simp) ?_
              refine AllReady.cons rfl (fun K hK => ?_) AllReady.nil
              go_simp
              refine hK _ _ ?_
              clear hK K
              refine wpAny_ready (rs := [13]) (by kernel_rfl) (by simp) ?_
              refine AllReady.cons rfl (fun K hK => ?_) AllReady.nil
              go_simp
              refine hK _ _ ?_
              clear hK K
              refine wpAny_done (by kernel_rfl) ?_ _
              go_wp2
              refine readRet (mset2 (mset1 (mset0 (((R4.out.other hTR).other hTR).other hTR) _) _) _) rfl rfl rfl ⟨g, c, ?_, ?_, ?_⟩
              · rw [HE.out]; rfl
              · rw [HE.out]; exact ((((((O4.out.setOther w2.heap.size 0 _ hgT.out).setOther w2.heap.size 1 _ hgT.out).setOther w2.heap.size 2 _ hgT.out).setOther w.heap.size 0 _ HI.out.nR).setOther w.heap.size 1 _ HI.out.nR).setOther w.heap.size 2 _ HI.out.nR)
              · exact ((((((W4.out.setCell (p := ⟨w2.heap.size, 0, none⟩) hTw _).setCell (p := ⟨w2.heap.size, 1, none⟩) hTw _).setCell (p := ⟨w2.heap.size, 2, none⟩) hTw _).setCell (p := ⟨w.heap.size, 0, none⟩) (Nat.le_refl _) _).setCell (p := ⟨w.heap.size, 1, none⟩) (Nat.le_refl _) _).setCell (p := ⟨w.heap.size, 2, none⟩) (Nat.le_refl _) _)
            · have HD := hid hd
              have HOL := hid hol
              obtain ⟨f', hf1, hf2⟩ := readF_step HI.out.fuel HREC2.out hd
              have hkE : k + (z.toNat + 3) = E := by omega
              rw [hkE] at hf1 hf2
              have HF1 := hid (HI.out.at_.trans hf1)
              have HF2 := hid hf2
              have hbase : Hid (w.heap.size ≤ w2.heap.size) := HI2.out.bel.size
              have hgB2 : Hid (g2 ≠ some B) := fun e => by have := HOL.out.new _ e; have := heap_lt HI2.out.box; first | omega | (simp at *; omega)
              have hgR2 : Hid (g2 ≠ some w.heap.size) := fun e => by have := HOL.out.new _ e; have := heap_lt HI2.out.res; first | omega | (simp at *; omega)
              have hgT2 : Hid (g2 ≠ some w2.heap.size) := fun e => by have := HOL.out.new _ e; simp at this; omega
              clear hd hol hf1 hf2 hkE
              have HMV2 : Hid (m'.val (g2.map fun x => (⟨x, 0, none⟩ : Addr)) c2 = .agg #[.int .i64 m'.view, .int .i64 m'.last, .slice (g2.map fun x => ⟨x, 0, none⟩) m'.ls.length c2]) := rfl
              rw [HMV2.out]
              go_simp
              refine hK _ _ ?_
              clear hK K
              refine wpAny_take (i := 8) (v := ?rv44) rfl (by kernel_rfl) (by kernel_rfl) (by kernel_rfl) (fun _ _ _ h => h) (Or.inl ⟨by rfl, ?ry44⟩) ?rr44
              case ry44 => (intro w; go_simp; try with_reducible rfl)
              try simp only [List.getElem_toArray, List.getElem_cons_zero, List.getElem_cons_succ, Act.put, List.setIfInBounds_toArray, List.set_cons_zero, List.set_cons_succ]
              refine wpAny_take (i := 9) (v := ?rv45) rfl (by kernel_rfl) (by kernel_rfl) (by kernel_rfl) (fun _ _ _ h => h) (Or.inl ⟨by rfl, ?ry45⟩) ?rr45
              case ry45 => (intro w; go_simp; try with_reducible rfl)
              try simp only [List.getElem_toArray, List.getElem_cons_zero, List.getElem_cons_succ, Act.put, List.setIfInBounds_toArray, List.set_cons_zero, List.set_cons_succ]
              refine wpAny_take (i := 10) (v := ?rv46) rfl (by kernel_rfl) (by kernel_rfl) (by kernel_rfl) (fun _ _ _ h => h) (Or.inl ⟨by rfl, ?ry46⟩) ?rr46
              case ry46 => (intro w; go_simp; try with_reducible rfl)
              try simp only [List.getElem_toArray, List.getElem_cons_zero, List.getElem_cons_succ, Act.put, List.setIfInBounds_toArray, List.set_cons_zero, List.set_cons_succ]
              refine wpAny_ready (rs := [12]) (by kernel_rfl) (by simp) ?_
              refine AllReady.cons rfl (fun K hK => ?_) AllReady.nil
              go_simp
              refine hK _ _ ?_
              clear hK K
              refine wpAny_ready (rs := [13]) (by kernel_rfl) (by simp) ?_
              refine AllReady.cons rfl (fun K hK => ?_) AllReady.nil
              go_simp
              refine hK _ _ ?_
              clear hK K
              refine wpAny_done (by kernel_rfl) ?_ _
              go_wp2
              go_roundw
              case rel => exact ⟨E, m', g2, c2, f', by omega, rfl, ⟨HF1.out, HF2.out, (mset2 (mset1 (mset0 (((B4.out.other hTB).other hTB).other hTB) _) _) _), ((((((R4.out.other hTR).other hTR).other hTR).other hRB).other hRB).other hRB), (((((((HOL.out.base (Nat.le_trans hbase.out (by simp))).setOther w2.heap.size 0 _ hgT2.out).setOther w2.heap.size 1 _ hgT2.out).setOther w2.heap.size 2 _ hgT2.out).setOther B 0 _ hgB2.out).setOther B 1 _ hgB2.out).setOther B 2 _ hgB2.out), ((((((W4.out.setCell (p := ⟨w2.heap.size, 0, none⟩) hTw _).setCell (p := ⟨w2.heap.size, 1, none⟩) hTw _).setCell (p := ⟨w2.heap.size, 2, none⟩) hTw _).setCell (p := ⟨B, 0, none⟩) hBw.out _).setCell (p := ⟨B, 1, none⟩) hBw.out _).setCell (p := ⟨B, 2, none⟩) hBw.out _), okM_len (doesM_ok HD.out), hgB2.out, hgR2.out⟩⟩
              case measure => simp [intOf]; omega
        · have HE : Hid (readD s = (m, k)) := by
            show _ = _
            rw [HI.out.at_]
            exact readF_stop (by rw [HREC.out, if_neg heq]) f
          have hne : (withChk L1 == L2) = false := beq_eq_false_iff_ne.2 heq
          go_simp
          refine hK _ _ ?_
          clear hK K
          refine wpAny_take (i := 15) (v := ?rv47) rfl (by kernel_rfl) (by kernel_rfl) (by kernel_rfl) (fun _ _ _ h => h) (Or.inl ⟨by rfl, ?ry47⟩) ?rr47
          case ry47 => (intro w; go_simp; try with_reducible rfl)
          try simp only [List.getElem_toArray, List.getElem_cons_zero, List.getElem_cons_succ, Act.put, List.setIfInBounds_toArray, List.set_cons_zero, List.set_cons_succ]
          refine wpAny_take (i := 16) (v := ?rv48) rfl (by kernel_rfl) (by kernel_rfl) (by kernel_rfl) (fun _ _ _ h => h) (Or.inl ⟨by rfl, ?ry48⟩) ?rr48
          case ry48 => (intro w; go_simp; try with_reducible rfl)
          try simp only [List.getElem_toArray, List.getElem_cons_zero, List.getElem_cons_succ, Act.put, List.setIfInBounds_toArray, List.set_cons_zero, List.set_cons_succ]
          refine wpAny_done (by kernel_rfl) ?_ _
          go_wp2
          refine readRet (mset2 (mset1 (mset0 HI2.out.res _) _) _) rfl rfl rfl ⟨g, c, ?_, ?_, ?_⟩
          · rw [HE.out]; rfl
          · rw [HE.out]; exact ((HI2.out.own.setOther w.heap.size 0 _ HI.out.nR).setOther w.heap.size 1 _ HI.out.nR).setOther w.heap.size 2 _ HI.out.nR
          · exact ((HI2.out.bel.setCell (p := ⟨w.heap.size, 0, none⟩) (Nat.le_refl _) _).setCell (p := ⟨w.heap.size, 1, none⟩) (Nat.le_refl _) _).setCell (p := ⟨w.heap.size, 2, none⟩) (Nat.le_refl _) _
    · have HE : Hid (readD s = (m, k)) := by
        show _ = _
        rw [HI.out.at_]
        exact readF_stop (by unfold recOf; rw [if_pos (by rw [List.length_drop]; omega)]) f
      go_wp2
      refine readRet (mset2 (mset1 (mset0 HI.out.res _) _) _) rfl rfl rfl ⟨g, c, ?_, ?_, ?_⟩
      · rw [HE.out]; rfl
      · rw [HE.out]; exact ((HI.out.own.setOther w.heap.size 0 _ HI.out.nR).setOther w.heap.size 1 _ HI.out.nR).setOther w.heap.size 2 _ HI.out.nR
      · exact ((HI.out.bel.setCell (p := ⟨w.heap.size, 0, none⟩) (Nat.le_refl _) _).setCell (p := ⟨w.heap.size, 1, none⟩) (Nat.le_refl _) _).setCell (p := ⟨w.heap.size, 2, none⟩) (Nat.le_refl _) _

end Go.Proofs.YtolififimldmlaaGreat
