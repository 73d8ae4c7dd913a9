import Derived.Test.YtolififimldmlaaGreatPart44
import Derived.Test.YtolififimldmlaaGreatPart06
set_option linter.unusedVariables false
set_option linter.unusedSimpArgs false
namespace Go.Proofs.YtolififimldmlaaGreat
open Go.RowKit
attribute [local go_sem ↓] Go.wp_at_zero Go.wp_at_succ

theorem run_appNilNil (z : World) : (Builtin.append_ #[31, 31] 31 #[.slice none 0 0, .slice none 0 0]).run Tryz.prog z = .ok (.slice none 0 0) z := by
  obtain ⟨ib, hib, hib0, hib1, hib2⟩ := info_parts Tryz.info5
  have hs : Src Tryz.prog 1 31 (.slice none 0 0) 0 [] z := Src.ofNil z Tryz.underlying31 0
  rw [← hib1] at hs
  simp [Builtin.append_, run_underlying (P := Tryz.prog) Tryz.underlying31, sizeOf, typeInfo, hib, hs.len, hs.cells, storeCells]

set_option maxRecDepth 100000 in
set_option maxHeartbeats 4000000 in
theorem openNilD (w : World) : Calls Tryz.prog 46 #[.slice none 0 0] w fun e w' => e = .returned (.agg #[.slice none 0 0, .int .i64 0, .int .i64 0, .slice none 0 0, .int .i64 0, .slice none 0 0]) ∧ Below w.heap.size w w' := by
  go_enter Tryz.func46, Tryz.ntmps46
  go_wp2_with fail
  refine (readNil _).mono ?_
  rintro e w2 ⟨rfl, hb2⟩
  have W2 : Hid (Below w.heap.size w w2) := ((Below.refl _ w).alloc (Nat.le_refl _) _).trans (hb2.mono (by simp))
  have hRb : w2.heap[w.heap.size]? = some (.cells #[.slice none 0 0, .int .i64 0, .int .i64 0, .slice none 0 0, .int .i64 0, .slice none 0 0] 96 (0, 0)) := by rw [hb2.block _ (by simp)]; exact heap_alloc_new w _
  have HRb := hid hRb
  have hRl : w.heap.size < w2.heap.size := heap_lt hRb
  clear hRb hb2
  go_wp2
  generalize hY : w2.alloc (.cells #[.int .i64 0, .int .i64 0, .slice none 0 0] 94) = Y
  have b2Y : Below w2.heap.size w2 Y := by rw [← hY]; exact (Below.refl _ _).alloc (Nat.le_refl _) _
  have HTY : Hid (MBox w2.heap.size 94 (.int .i64 0) (.int .i64 0) (.slice none 0 0) Y) := by show MBox _ _ _ _ _ _; rw [← hY]; exact heap_alloc_new w2 _
  have HRY : Hid (Y.heap[w.heap.size]? = some (.cells #[.slice none 0 0, .int .i64 0, .int .i64 0, .slice none 0 0, .int .i64 0, .slice none 0 0] 96 (0, 0))) := by show _ = _; rw [b2Y.block _ hRl]; exact HRb.out
  have BY : Hid (Below w.heap.size w Y) := W2.out.trans (b2Y.mono W2.out.size)
  clear hY b2Y
  have HTZ : Hid (MBox w2.heap.size 94 (.int .i64 0) (.int .i64 0) (.slice none 0 0) Y.drew) := HTY.out
  have HRZ : Hid (Y.drew.heap[w.heap.size]? = some (.cells #[.slice none 0 0, .int .i64 0, .int .i64 0, .slice none 0 0, .int .i64 0, .slice none 0 0] 96 (0, 0))) := HRY.out
  have BZ : Hid (Below w.heap.size w Y.drew) := BY.out.drew
  clear HTY HRY BY
  refine wp_region_any (by kernel_rfl) ?_
  try (change wpAny _ _ _ _ _ _ _ (World.drew _))
  generalize Y.drew = Z at *
  obtain ⟨t0, t1, t2, ft⟩ := mbox_cells HTZ.out
  have q0 : Z.cell? ⟨w.heap.size, 0, none⟩ = some (.slice none 0 0) := cell_of_heap HRZ.out 0
  have q1 : Z.cell? ⟨w.heap.size, 1, none⟩ = some (.int .i64 0) := cell_of_heap HRZ.out 1
  have q2 : Z.cell? ⟨w.heap.size, 2, none⟩ = some (.int .i64 0) := cell_of_heap HRZ.out 2
  have q3 : Z.cell? ⟨w.heap.size, 3, none⟩ = some (.slice none 0 0) := cell_of_heap HRZ.out 3
  have q4 : Z.cell? ⟨w.heap.size, 4, none⟩ = some (.int .i64 0) := cell_of_heap HRZ.out 4
  have q5 : Z.cell? ⟨w.heap.size, 5, none⟩ = some (.slice none 0 0) := cell_of_heap HRZ.out 5
  have fq : ∀ j, Z.frozen? ⟨w.heap.size, j, none⟩ = false := fun j => frozen_of_heap HRZ.out j
  refine wpAny_take (i := 0) (v := ?rv1) rfl (by kernel_rfl) (by kernel_rfl) (by kernel_rfl) (fun _ _ _ h => h) (Or.inl ⟨by rfl, ?ry1⟩) ?rr1
  case ry1 => (intro w; go_simp; try with_reducible rfl)
  try simp only [List.getElem_toArray, List.getElem_cons_zero, List.getElem_cons_succ, Act.put, List.setIfInBounds_toArray, List.set_cons_zero, List.set_cons_succ]
  refine wpAny_take (i := 1) (v := ?rv2) rfl (by kernel_rfl) (by kernel_rfl) (by kernel_rfl) (fun _ _ _ h => h) (Or.inl ⟨by rfl, ?ry2⟩) ?rr2
  case ry2 => (intro w; go_simp; try with_reducible rfl)
  try simp only [List.getElem_toArray, List.getElem_cons_zero, List.getElem_cons_succ, Act.put, List.setIfInBounds_toArray, List.set_cons_zero, List.set_cons_succ]
  refine wpAny_take (i := 2) (v := ?rv3) rfl (by kernel_rfl) (by kernel_rfl) (by kernel_rfl) (fun _ _ _ h => h) (Or.inl ⟨by rfl, ?ry3⟩) ?rr3
  case ry3 => (intro w; go_simp; try with_reducible rfl)
  try simp only [List.getElem_toArray, List.getElem_cons_zero, List.getElem_cons_succ, Act.put, List.setIfInBounds_toArray, List.set_cons_zero, List.set_cons_succ]
  refine wpAny_ready (rs := [3, 4]) (by kernel_rfl) (by simp) ?_
  refine AllReady.cons rfl (fun K hK => ?_) (AllReady.cons rfl (fun K hK => ?_) AllReady.nil)
  · skip
    refine step_appRun rfl (.const (.slice none 0 0)) (.tmp 12) 31 31 rfl _ _ _ _ rfl rfl (run_appNilNil _) ?_
    refine hK _ _ ?_
    clear hK K
    simp only [Act.put, List.setIfInBounds_toArray, List.set_cons_zero, List.set_cons_succ]
    refine wpAny_ready (rs := [4]) (by kernel_rfl) (by simp) ?_
    refine AllReady.cons rfl (fun K hK => ?_) AllReady.nil
    go_simp
    refine hK _ _ ?_
    clear hK K
    refine wpAny_take (i := 5) (v := ?rv4) rfl (by kernel_rfl) (by kernel_rfl) (by kernel_rfl) (fun _ _ _ h => h) (Or.inl ⟨by rfl, ?ry4⟩) ?rr4
    case ry4 => (intro w; go_simp; try with_reducible rfl)
    try simp only [List.getElem_toArray, List.getElem_cons_zero, List.getElem_cons_succ, Act.put, List.setIfInBounds_toArray, List.set_cons_zero, List.set_cons_succ]
    refine wpAny_ready (rs := [6]) (by kernel_rfl) (by simp) ?_
    refine AllReady.cons rfl (fun K hK => ?_) AllReady.nil
    go_simp
    refine hK _ _ ?_
    clear hK K
    refine wpAny_done (by kernel_rfl) ?_ _
    go_wp2
    refine openDRet (set6 HRZ.out rfl _ _ _ _ _ _) rfl rfl ⟨rfl, ?_⟩
    exact (((((BZ.out.setCell (p := ⟨w.heap.size, 0, none⟩) (Nat.le_refl _) _).setCell (p := ⟨w.heap.size, 1, none⟩) (Nat.le_refl _) _).setCell (p := ⟨w.heap.size, 2, none⟩) (Nat.le_refl _) _).setCell (p := ⟨w.heap.size, 3, none⟩) (Nat.le_refl _) _).setCell (p := ⟨w.heap.size, 4, none⟩) (Nat.le_refl _) _).setCell (p := ⟨w.heap.size, 5, none⟩) (Nat.le_refl _) _
  · go_simp
    refine hK _ _ ?_
    clear hK K
    refine wpAny_ready (rs := [3]) (by kernel_rfl) (by simp) ?_
    refine AllReady.cons rfl (fun K hK => ?_) AllReady.nil
    refine step_appRun rfl (.const (.slice none 0 0)) (.tmp 12) 31 31 rfl _ _ _ _ rfl rfl (run_appNilNil _) ?_
    refine hK _ _ ?_
    clear hK K
    simp only [Act.put, List.setIfInBounds_toArray, List.set_cons_zero, List.set_cons_succ]
    refine wpAny_take (i := 5) (v := ?rv5) rfl (by kernel_rfl) (by kernel_rfl) (by kernel_rfl) (fun _ _ _ h => h) (Or.inl ⟨by rfl, ?ry5⟩) ?rr5
    case ry5 => (intro w; go_simp; try with_reducible rfl)
    try simp only [List.getElem_toArray, List.getElem_cons_zero, List.getElem_cons_succ, Act.put, List.setIfInBounds_toArray, List.set_cons_zero, List.set_cons_succ]
    refine wpAny_ready (rs := [6]) (by kernel_rfl) (by simp) ?_
    refine AllReady.cons rfl (fun K hK => ?_) AllReady.nil
    go_simp
    refine hK _ _ ?_
    clear hK K
    refine wpAny_done (by kernel_rfl) ?_ _
    go_wp2
    refine openDRet (set6 HRZ.out rfl _ _ _ _ _ _) rfl rfl ⟨rfl, ?_⟩
    exact (((((BZ.out.setCell (p := ⟨w.heap.size, 0, none⟩) (Nat.le_refl _) _).setCell (p := ⟨w.heap.size, 1, none⟩) (Nat.le_refl _) _).setCell (p := ⟨w.heap.size, 2, none⟩) (Nat.le_refl _) _).setCell (p := ⟨w.heap.size, 3, none⟩) (Nat.le_refl _) _).setCell (p := ⟨w.heap.size, 4, none⟩) (Nat.le_refl _) _).setCell (p := ⟨w.heap.size, 5, none⟩) (Nat.le_refl _) _

end Go.Proofs.YtolififimldmlaaGreat

set_option linter.unusedVariables false
set_option linter.unusedSimpArgs false
namespace Go.Proofs.YtolififimldmlaaGreat
open Go.RowKit
attribute [local go_sem ↓] Go.wp_at_zero Go.wp_at_succ

/-- A keeper on an empty disk. -/
def PV.fresh (kp me pa : Int) : PV := ⟨kp, me, pa, [], ⟨0, 0, []⟩, 0, [], 0, fun _ => 0, none, 0, none, 0, none, 0⟩

theorem PV.fresh_at (kp me pa : Int) (X : World) : (PV.fresh kp me pa).At (X.alloc (.cells (progCells kp me pa none 0 0 ⟨0, 0, []⟩ none 0 0 none 0 0 0 (fun _ => 0)) 103)) X.heap.size :=
  ⟨heap_alloc_new X _, fun j hj => absurd hj (Nat.not_lt_zero _), .inl ⟨rfl, rfl, rfl⟩, fun j hj => absurd hj (Nat.not_lt_zero _), .inl ⟨rfl, rfl, rfl⟩, fun j hj => absurd hj (Nat.not_lt_zero _), .inl ⟨rfl, rfl, rfl⟩, ⟨(fun e => by cases e), (fun e => by cases e), (fun e => by cases e)⟩, ⟨fun k e => (by cases e), fun k e => (by cases e), fun k e => (by cases e)⟩⟩

set_option maxRecDepth 100000 in
set_option maxHeartbeats 8000000 in
theorem openNil (kp me pa : Int) (hc : ConfOk kp me pa) (w : World) : Calls Tryz.prog 25 #[.agg #[.int .i64 kp, .int .i64 me, .int .i64 pa], .slice none 0 0] w fun e w' => ∃ K, e = .returned (.tuple #[.pointer (some ⟨K, 0, none⟩), .int .i64 0]) ∧ w.heap.size ≤ K ∧ (PV.fresh kp me pa).At w' K ∧ Below w.heap.size w w' := by
  have RC : Hid (∀ z, Calls Tryz.prog 45 #[.agg #[.int .i64 kp, .int .i64 me, .int .i64 pa]] z fun e w' => e = .returned (.bool true) ∧ Below z.heap.size z w') := fun z => rightConfig_yes kp me pa z hc
  clear hc
  go_enter Tryz.func25, Tryz.ntmps25
  go_wp2_with fail
  refine (RC.out _).mono ?_
  rintro e X1 ⟨rfl, hb1⟩
  rw [World.size_alloc] at hb1
  have HX1 : Hid (Below w.heap.size w X1) := ((Below.refl _ w).alloc (Nat.le_refl _) _).trans (hb1.mono (by omega))
  have HCB : Hid (MBox w.heap.size 63 (.int .i64 kp) (.int .i64 me) (.int .i64 pa) X1) := by
    show _ = _
    rw [hb1.block _ (by omega)]; exact heap_alloc_new w _
  clear hb1
  obtain ⟨q0, q1, q2, fq⟩ := mbox_cells HCB.out
  have Q0 := hid q0
  have Q1 := hid q1
  have Q2 := hid q2
  clear fq q0 q1 q2
  go_wp2
  have hS0 : (fun z : World => Below X1.heap.size X1 z ∧ z.cell? ⟨w.heap.size, 0, none⟩ = some (.int .i64 kp) ∧ z.cell? ⟨w.heap.size, 1, none⟩ = some (.int .i64 me) ∧ z.cell? ⟨w.heap.size, 2, none⟩ = some (.int .i64 pa)) X1.drew := ⟨(Below.refl _ _).drew, Q0.out, Q1.out, Q2.out⟩
  refine wp_region_held_drew (S := fun z : World => Below X1.heap.size X1 z ∧ z.cell? ⟨w.heap.size, 0, none⟩ = some (.int .i64 kp) ∧ z.cell? ⟨w.heap.size, 1, none⟩ = some (.int .i64 me) ∧ z.cell? ⟨w.heap.size, 2, none⟩ = some (.int .i64 pa)) (by kernel_rfl) hS0 (fun hS => ?_)
  clear hS0
  refine wpAnyH_take (i := 1) (v := ?rv1) rfl (by kernel_rfl) (by kernel_rfl) (by kernel_rfl) (fun _ _ _ h => h) (Or.inl ⟨by rfl, ?ry1⟩) hS ?rr1
  case ry1 => (intro w hw; clear hw; go_simp; try with_reducible rfl)
  try simp only [List.getElem_toArray, List.getElem_cons_zero, List.getElem_cons_succ, Act.put, List.setIfInBounds_toArray, List.set_cons_zero, List.set_cons_succ]
  refine wpAnyH_take (i := 0) (v := ?rv5) rfl (by kernel_rfl) (by kernel_rfl) (by kernel_rfl) (fun _ _ _ h => h) (Or.inl ⟨by rfl, ?ry5⟩) hS ?rr5
  case ry5 => (intro w hw; obtain ⟨_, s0, s1, s2⟩ := hw; go_simp; try with_reducible rfl)
  try simp only [List.getElem_toArray, List.getElem_cons_zero, List.getElem_cons_succ, Act.put, List.setIfInBounds_toArray, List.set_cons_zero, List.set_cons_succ]
  refine wpAnyH_ready (rs := [2]) (by kernel_rfl) (by simp) ?_
  refine AllReadyH.cons rfl (fun K hK => ?_) AllReadyH.nil
  go_simp
  refine (openNilD _).mono ?_
  rintro e X2 ⟨rfl, hbf⟩
  have hb12 := hS.1.trans (hbf.mono hS.1.size)
  have H12 := hid hb12
  have HX2 := hid (HX1.out.trans (hb12.mono HX1.out.size))
  clear hbf
  refine hK.out _ _ ⟨hb12, (Below.cell hb12 (World.block_lt_of_cell? _ _ Q0.out)).trans Q0.out, (Below.cell hb12 (World.block_lt_of_cell? _ _ Q1.out)).trans Q1.out, (Below.cell hb12 (World.block_lt_of_cell? _ _ Q2.out)).trans Q2.out⟩ (fun hS => ?_)
  clear hK K hb12
  refine wpAnyH_take (i := 3) (v := ?rv2) rfl (by kernel_rfl) (by kernel_rfl) (by kernel_rfl) (fun _ _ _ h => h) (Or.inl ⟨by rfl, ?ry2⟩) hS ?rr2
  case ry2 => (intro w hw; clear hw; go_simp; try with_reducible rfl)
  try simp only [List.getElem_toArray, List.getElem_cons_zero, List.getElem_cons_succ, Act.put, List.setIfInBounds_toArray, List.set_cons_zero, List.set_cons_succ]
  refine wpAnyH_ready (rs := [4]) (by kernel_rfl) (by simp) ?_
  refine AllReadyH.cons rfl (fun K hK => ?_) AllReadyH.nil
  go_simp
  refine hK.out _ _ ⟨H12.out.alloc H12.out.size _, cell_alloc_keep hS.2.1 _, cell_alloc_keep hS.2.2.1 _, cell_alloc_keep hS.2.2.2 _⟩ (fun hS => ?_)
  clear hK K
  refine wpAnyH_take (i := 5) (v := ?rv3) rfl (by kernel_rfl) (by kernel_rfl) (by kernel_rfl) (fun _ _ _ h => h) (Or.inl ⟨by rfl, ?ry3⟩) hS ?rr3
  case ry3 => (intro w hw; clear hw; go_simp; try with_reducible rfl)
  try simp only [List.getElem_toArray, List.getElem_cons_zero, List.getElem_cons_succ, Act.put, List.setIfInBounds_toArray, List.set_cons_zero, List.set_cons_succ]
  refine wpAnyH_take (i := 6) (v := ?rv4) rfl (by kernel_rfl) (by kernel_rfl) (by kernel_rfl) (fun _ _ _ h => h) (Or.inl ⟨by rfl, ?ry4⟩) hS ?rr4
  case ry4 => (intro w hw; clear hw; go_simp; try with_reducible rfl)
  try simp only [List.getElem_toArray, List.getElem_cons_zero, List.getElem_cons_succ, Act.put, List.setIfInBounds_toArray, List.set_cons_zero, List.set_cons_succ]
  refine wpAnyH_done (by kernel_rfl) ?_ _
  clear hS
  have HFIN := hid (PV.fresh_at kp me pa X2)
  have HXA := hid (HX2.out.alloc HX2.out.size (.cells (progCells kp me pa none 0 0 ⟨0, 0, []⟩ none 0 0 none 0 0 0 (fun _ => 0)) 103))
  unfold progCells sl at HFIN HXA
  go_wp2
  go_ret2
  exact ⟨X2.heap.size, rfl, HX2.out.size, HFIN.out, HXA.out⟩

end Go.Proofs.YtolififimldmlaaGreat

set_option linter.unusedVariables false
set_option linter.unusedSimpArgs false
namespace Go.Proofs.YtolififimldmlaaGreat

theorem byteOf_in {n : Int} (h0 : 0 ≤ n) (h : n < 256) : ((byteOf n).toNat : Int) = n := by
  unfold byteOf
  rw [UInt8.toNat_ofNat']; omega
theorem takeLine_pack (l : Ln) (h : l.ok = true) (r : List UInt8) : takeLine (lineBytes l ++ r) = some (l, r) := by
  obtain ⟨c, t, s⟩ := l
  unfold Ln.ok at h
  simp only [Bool.and_eq_true, decide_eq_true_eq] at h
  obtain ⟨⟨⟨⟨h1, h2⟩, h3⟩, h4⟩, h5⟩ := h
  have e1 := byteOf_in (n := c) (by omega) (by omega)
  have e2 := byteOf_in (n := t) (by omega) (by omega)
  have e3 := byteOf_in (n := (s.length : Int)) (by omega) (by omega)
  have e4 : (byteOf (s.length : Int)).toNat = s.length := by omega
  unfold takeLine lineBytes
  simp only [List.cons_append, List.nil_append, List.length_cons, List.length_append, List.getD_cons_succ, List.getD_cons_zero, e1, e2, e4]
  rw [if_neg (by omega), if_neg (by omega)]
  have e5 : 3 + s.length = s.length + 1 + 1 + 1 := by omega
  rw [e5]
  simp
theorem takeN_pack : ∀ (k : Nat) (ls : List Ln), ls.length = k → (∀ l ∈ ls, l.ok = true) → ∀ r, takeN (manyBytes ls ++ r) k = some (ls, r) := by
  intro k
  induction k with
  | zero => intro ls e _ r; cases ls with
    | nil => rfl
    | cons _ _ => simp at e
  | succ k ih =>
    intro ls e hok r
    have hne : ls ≠ [] := fun h => by rw [h] at e; simp at e
    have es := List.dropLast_concat_getLast hne
    generalize ls.dropLast = l0 at es
    generalize ls.getLast hne = x at es
    subst es
    have hl0 : l0.length = k := by simpa using e
    have h := ih l0 hl0 (fun l hl => hok l (by simp [hl])) (lineBytes x ++ r)
    rw [manyBytes_snoc, List.append_assoc, takeN_step _ _ _ _ h, takeLine_pack x (hok x (by simp))]
    rfl
theorem takeLines_pack (ls : List Ln) (h20 : ls.length ≤ 20) (hok : ∀ l ∈ ls, l.ok = true) : takeLines (linesBytes ls) = some (ls, []) := by
  have e3 := byteOf_in (n := (ls.length : Int)) (by omega) (by omega)
  have e4 : (byteOf (ls.length : Int)).toNat = ls.length := by omega
  unfold takeLines linesBytes
  rw [if_neg (by simp)]
  simp only [List.drop_succ_cons, List.drop_zero, List.getD_cons_zero, e4]
  have := takeN_pack ls.length ls rfl hok []
  rw [List.append_nil] at this
  exact this

theorem fits_byte {b : Bool} {n lo hi : Int} (h : fitsB b n lo hi = true) (h0 : 0 ≤ lo) (h1 : hi < 256) : ((byteOf n).toNat : Int) = n := by
  unfold fitsB at h
  split at h
  · simp only [Bool.and_eq_true, decide_eq_true_eq] at h
    exact byteOf_in (by omega) (by omega)
  · simp only [beq_iff_eq] at h
    exact byteOf_in (by omega) (by omega)

theorem pack_unpack (f : Fr) (h : f.ok = true) : unpackR (packS f) = some f := by
  have hp : packS f = f.bytes := by unfold packS; rw [if_pos h]
  have hm : midOf f.bytes = (if hasB f.kind 49 then lineBytes f.line else []) ++ (if hasB f.kind 110 then linesBytes f.lines else []) := by
    unfold midOf Fr.bytes withChk Fr.body Fr.head
    generalize (if hasB f.kind 49 then lineBytes f.line else []) = A
    generalize (if hasB f.kind 110 then linesBytes f.lines else []) = B
    simp
    rw [← List.append_assoc, List.take_left' (by simp; omega)]
  obtain ⟨hk1, hk2, q1, q2, q3, q4⟩ := Fr.ok_parts h
  have h' := h
  unfold Fr.ok at h'
  simp only [Bool.and_eq_true] at h'
  obtain ⟨⟨⟨⟨⟨⟨⟨⟨⟨_, _⟩, f1⟩, f2⟩, f3⟩, f4⟩, f5⟩, _⟩, _⟩, _⟩ := h'
  have ek : kindOf f.bytes = f.kind := byteOf_in (by omega) (by omega)
  have e1 := fits_byte f1 (by omega) (by omega)
  have e2 := fits_byte f2 (by omega) (by omega)
  have e3 := fits_byte f3 (by split <;> omega) (by omega)
  have e4 := fits_byte f4 (by omega) (by omega)
  have e5 := fits_byte f5 (by omega) (by omega)
  have hl : 8 ≤ f.bytes.length := by
    unfold Fr.bytes withChk Fr.body Fr.head
    simp; omega
  have hpo : parseOk f.bytes = true ∧ parseF f.bytes = f := by
    have g : ∀ ln lns, ln = f.line → lns = f.lines → (⟨kindOf f.bytes, (f.bytes.getD 1 0).toNat, (f.bytes.getD 2 0).toNat, (f.bytes.getD 3 0).toNat, (f.bytes.getD 4 0).toNat, (f.bytes.getD 5 0).toNat, ln, lns⟩ : Fr) = f := by
      intro ln lns a b
      have g1 : ((f.bytes.getD 1 0).toNat : Int) = f.frm := e1
      have g2 : ((f.bytes.getD 2 0).toNat : Int) = f.view := e2
      have g3 : ((f.bytes.getD 3 0).toNat : Int) = f.place := e3
      have g4 : ((f.bytes.getD 4 0).toNat : Int) = f.agreed := e4
      have g5 : ((f.bytes.getD 5 0).toNat : Int) = f.last := e5
      rw [ek, g1, g2, g3, g4, g5, a, b]
    unfold parseOk parseF
    rw [g _ _ ?_ ?_]
    · refine ⟨?_, rfl⟩
      rw [ek, hm]
      cases h49 : hasB f.kind 49
      · cases h110 : hasB f.kind 110
        · simp
        · obtain ⟨u1, u2⟩ := linesOk_all (q3 h110)
          simp [tsOk, tsRest, takeLines_pack f.lines u1 u2]
      · have h110 : hasB f.kind 110 = false := by
          cases h : hasB f.kind 110
          · rfl
          · exact absurd ⟨h49, h⟩ (no_both _)
        have := takeLine_pack f.line (q1 h49) []
        rw [List.append_nil] at this
        simp [h110, tlOk, tlRest, this]
    · rw [ek, hm]
      cases h49 : hasB f.kind 49
      · have := q2 h49
        unfold Ln.isZero at this
        simp only [Bool.and_eq_true, beq_iff_eq, List.isEmpty_iff] at this
        obtain ⟨⟨a, b⟩, c⟩ := this
        cases hh : f.line with
        | mk x y z =>
          rw [hh] at a b c
          subst a; subst b; subst c
          rfl
      · have h110 : hasB f.kind 110 = false := by
          cases h : hasB f.kind 110
          · rfl
          · exact absurd ⟨h49, h⟩ (no_both _)
        have := takeLine_pack f.line (q1 h49) []
        rw [List.append_nil] at this
        simp [h110, tlLine, this]
    · rw [ek, hm]
      cases h110 : hasB f.kind 110
      · simp [q4 h110]
      · have h49 : hasB f.kind 49 = false := by
          cases h : hasB f.kind 49
          · rfl
          · exact absurd ⟨h, h110⟩ (no_both _)
        obtain ⟨u1, u2⟩ := linesOk_all (q3 h110)
        simp [h49, tsLines, takeLines_pack f.lines u1 u2]
  rw [hp]
  unfold unpackR
  rw [if_neg (by rw [ek]; omega), hpo.1, hpo.2, h]
  simp

theorem unpack_pack {b : List UInt8} {f : Fr} (h : unpackR b = some f) : f.ok = true ∧ packS f = b := by
  unfold unpackR at h
  split at h
  · cases h
  · split at h
    · cases h
    · split at h
      · cases h
      · rename_i hh
        cases h
        simp only [not_or, Bool.not_eq_false, Decidable.not_not] at hh
        exact ⟨hh.1, by unfold packS; rw [if_pos hh.1]; exact hh.2⟩

end Go.Proofs.YtolififimldmlaaGreat
