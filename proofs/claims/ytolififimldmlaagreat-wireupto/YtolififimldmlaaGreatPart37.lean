import Derived.Test.YtolififimldmlaaGreatPart36
set_option linter.unusedVariables false
set_option linter.unusedSimpArgs false
namespace Go.Proofs.YtolififimldmlaaGreat
open Go.RowKit
attribute [local go_sem ↓] Go.wp_at_zero Go.wp_at_succ

def emptyW (w : World) : World := { w with heap := #[] }
theorem recBytes_len (l : List UInt8) : (recBytes l).length = l.length + 3 := by
  unfold recBytes withChk
  simp

set_option maxRecDepth 100000 in
set_option maxHeartbeats 8000000 in
/-- A record is written. -/
theorem writeOkV (v : PV) (B : Nat) (w : World) (h : v.At w B) (hl : v.lost = []) (narm : Int) (harm : (v.arm = 0 ∧ narm = 0) ∨ (2 ≤ v.arm ∧ v.arm ≤ 9223372036854775807 ∧ narm = v.arm - 1)) (a : Option Addr) (n c : Nat) (inner : List UInt8) (hb : BytesIn w a inner) (hna : ∀ p, a = some p → ¬ v.own B p.block) (hil : inner.length = n) (hin : inner.length ≤ 1000) (hcap : inner.length ≤ c)
    (m' : Mm) (hcd : candM v.m inner = some m') (h20 : v.m.ls.length ≤ 20) (hdl : v.d.length ≤ 9900000) :
    Calls Tryz.prog 163 #[.pointer (some ⟨B, 3, none⟩), .slice a n c] w fun e w' => ∃ gd' cd' gl' cl', e = .returned (.bool true) ∧ Chg w w' B v { v with arm := narm, d := v.d ++ recBytes inner, gd := gd', cd := cd', m := m', gl := gl', cl := cl' } := by
  have FV := hid (failedV v B w h)
  rw [hl] at FV
  have hBT : ∀ z, Touch (fun k => v.own B k) w z → BytesIn z a inner := fun z hz => by
    cases a with
    | none => exact fun j hj => by obtain ⟨_, _, e, _⟩ := hb j hj; cases e
    | some p =>
      intro j hj
      obtain ⟨g, o, e, hc⟩ := hb j hj
      exact ⟨g, o, e, hz.cell hc (by cases e; exact hna ⟨g, o, none⟩ rfl)⟩
  have HBT := hid hBT
  have HAF : Hid (∀ (X4 : World) {gd' : Option Nat} {cd' : Nat}, Chg w X4 B v { v with arm := narm, d := v.d ++ recBytes inner, gd := gd', cd := cd' } → Calls Tryz.prog 130 #[.agg #[.int .i64 v.m.view, .int .i64 v.m.last, .slice (v.gl.map fun k => ⟨k, 0, none⟩) v.m.ls.length v.cl], .slice a n c] X4 (AfterRet (emptyW w) X4 v.m v.gl v.cl (candM v.m inner))) := fun X4 gd' cd' hc =>
    after_go v.m v.gl v.cl a n c inner (emptyW w) X4 X4 ⟨hc.at_.lb, hc.at_.low, fun k _ => Nat.zero_le _⟩ h20 (Nat.zero_le _) (hBT X4 hc.tch) (Below.refl _ _) hil (by omega) hcap
  have HCD := hid hcd
  have HV := hid h
  have hB := h.lt
  have HRL := hid (recBytes_len inner)
  have C7 : Hid (w.cell? ⟨B, 7, none⟩ = some (.int .i64 v.arm)) := cell_of_heap h.blk 7
  clear h hb hcd hl hBT
  have h3 : Hid (v.arm = 0 ∧ narm = 0 ∨ 2 ≤ v.arm ∧ v.arm ≤ 9223372036854775807 ∧ narm = v.arm - 1) := harm
  go_enter Tryz.func163, Tryz.ntmps163
  go_wp2_with fail
  refine FV.out.mono ?_
  rintro e X0 ⟨rfl, hb0⟩
  have HB0 := hid hb0
  have c7 := (hb0.cell (World.block_lt_of_cell? _ _ C7.out)).trans C7.out
  have f7 : ∀ j, X0.frozen? ⟨B, j, none⟩ = false := fun j => frozen_of_heap (HV.out.below hb0).blk j
  clear hb0 FV
  simp only [List.length_nil, Nat.lt_irrefl, decide_false]
  have C1 : Hid (Chg w (X0.setCell ⟨B, 7, none⟩ (.int .i64 narm)) B v { v with arm := narm }) := Chg.of HB0.out HV.out ((HV.out.below HB0.out).arm narm)
  rcases harm with ⟨ha0, hn0⟩ | ⟨ha2, ha3, ha4⟩
  · have HW1 : Hid (X0.setCell ⟨B, 7, none⟩ (.int .i64 0) = X0.setCell ⟨B, 7, none⟩ (.int .i64 narm)) := by show _ = _; rw [hn0]
    rw [ha0] at c7
    clear ha0 hn0
    go_wp2
    rw [HW1.out]
    clear c7 f7 HW1
    generalize X0.setCell ⟨B, 7, none⟩ (.int .i64 narm) = X1 at *
    have HV1 := hid C1.out.at_
    have HWH : Hid (∀ z, Below X1.heap.size X1 z → Calls Tryz.prog 184 #[.slice a n c] z fun e w' => ∃ g cq, e = .returned (.slice (some ⟨g, 0, none⟩) (recBytes inner).length cq) ∧ OwnBytes z w' (some g) cq (recBytes inner) ∧ Below z.heap.size z w') := fun z hz => whole_go a n c inner z ((HBT.out X1 C1.out.tch).below hz) hil hin
    have p3 := cell_of_heap HV1.out.blk 3
    unfold progCells at p3
    simp only [List.getElem?_toArray, List.getElem?_cons_zero, List.getElem?_cons_succ] at p3
    unfold sl at p3
    refine wp_region_any (by kernel_rfl) ?_
    try (change wpAny _ _ _ _ _ _ _ (World.drew _))
    refine wpAny_take (i := 0) (v := ?rv1) rfl (by kernel_rfl) (by kernel_rfl) (by kernel_rfl) (fun _ _ _ h => h) (Or.inl ⟨by rfl, ?ry1⟩) ?rr1
    case ry1 => (intro w; go_simp; try with_reducible rfl)
    try simp only [List.getElem_toArray, List.getElem_cons_zero, List.getElem_cons_succ, Act.put, List.setIfInBounds_toArray, List.set_cons_zero, List.set_cons_succ]
    refine wpAny_take (i := 1) (v := ?rv2) rfl (by kernel_rfl) (by kernel_rfl) (by kernel_rfl) (fun _ _ _ h => h) (Or.inl ⟨by rfl, ?ry2⟩) ?rr2
    case ry2 => (intro w; go_simp; try with_reducible rfl)
    try simp only [List.getElem_toArray, List.getElem_cons_zero, List.getElem_cons_succ, Act.put, List.setIfInBounds_toArray, List.set_cons_zero, List.set_cons_succ]
    refine wpAny_take (i := 2) (v := ?rv3) rfl (by kernel_rfl) (by kernel_rfl) (by kernel_rfl) (fun _ _ _ h => h) (Or.inl ⟨by rfl, ?ry3⟩) ?rr3
    case ry3 => (intro w; go_simp; try with_reducible rfl)
    try simp only [List.getElem_toArray, List.getElem_cons_zero, List.getElem_cons_succ, Act.put, List.setIfInBounds_toArray, List.set_cons_zero, List.set_cons_succ]
    refine wpAny_take (i := 3) (v := ?rv4) rfl (by kernel_rfl) (by kernel_rfl) (by kernel_rfl) (fun _ _ _ h => h) (Or.inl ⟨by rfl, ?ry4⟩) ?rr4
    case ry4 => (intro w; go_simp; try with_reducible rfl)
    try simp only [List.getElem_toArray, List.getElem_cons_zero, List.getElem_cons_succ, Act.put, List.setIfInBounds_toArray, List.set_cons_zero, List.set_cons_succ]
    refine wpAny_take (i := 5) (v := ?rv5) rfl (by kernel_rfl) (by kernel_rfl) (by kernel_rfl) (fun _ _ _ h => h) (Or.inl ⟨by rfl, ?ry5⟩) ?rr5
    case ry5 => (intro w; go_simp; try with_reducible rfl)
    try simp only [List.getElem_toArray, List.getElem_cons_zero, List.getElem_cons_succ, Act.put, List.setIfInBounds_toArray, List.set_cons_zero, List.set_cons_succ]
    refine wpAny_ready (rs := [4, 6]) (by kernel_rfl) (by simp) ?_
    refine AllReady.cons rfl (fun K hK => ?_) (AllReady.cons rfl (fun K hK => ?_) AllReady.nil)
    · go_simp
      refine hK _ _ ?_
      clear hK K
      refine wpAny_ready (rs := [6]) (by kernel_rfl) (by simp) ?_
      refine AllReady.cons rfl (fun K hK => ?_) AllReady.nil
      go_simp
      refine (HWH.out _ ((Below.refl _ _).drew)).mono ?_
      rintro e X2 ⟨gw, cw, rfl, ho, hbf⟩
      have hb2a : Below X1.heap.size X1 X2 := (Below.refl _ X1).drew.trans hbf
      clear hbf p3
      refine hK _ _ ?_
      clear hK K
      try simp only [Act.put, List.setIfInBounds_toArray, List.set_cons_zero, List.set_cons_succ]
      have HX2 := hid (hb2a)
      have HV2 := hid (HV1.out.below HX2.out)
      have HOB := hid (ho.base (u := X1) (Nat.le_refl _))
      obtain ⟨gd', cd', X3, hr, ha3, ho3, ht3, hn3⟩ := run_appR (w := X2) (b := v.gd) (c := v.cd) (l := v.d) (l2 := recBytes inner) 31 31 (.slice (some ⟨gw, 0, none⟩) (recBytes inner).length cw) HV2.out.db HV2.out.dow (bytes_src (some ⟨gw, 0, none⟩) _ cw (recBytes inner) X2 HOB.out.at_.in_ rfl) (by have := HRL.out; omega)
      have HC4 : Hid (Chg w (X3.setCell ⟨B, 3, none⟩ (.slice (gd'.map fun k => ⟨k, 0, none⟩) (v.d.length + (recBytes inner).length) cd')) B v { v with arm := narm, d := v.d ++ recBytes inner, gd := gd', cd := cd' }) :=
        C1.out.trans (Chg.of HX2.out HV1.out (diskChg (v := { v with arm := narm }) HV2.out ha3 ho3 ht3 hn3 (by rw [List.length_append])))
      have HB3 : Hid (X3.heap[B]? = some (.cells (progCells v.kp v.me v.pa v.gd v.d.length v.cd v.m v.gl v.cl narm v.gf v.lost.length v.cf v.ag v.hs) 103 (0, 0))) := ht3.heapAt HV2.out.blk (fun e => HV.out.ne1.1 e)
      have HR := hid hr
      unfold sl at HR
      clear hr ha3 ho3 ht3 hn3 ho hb2a
      refine wpAny_ready (rs := [7]) (by kernel_rfl) (by simp) ?_
      refine AllReady.cons rfl (fun KK hKK => ?_) AllReady.nil
      refine step_appRun rfl (.tmp 34) (.tmp 36) 31 31 rfl _ _ _ _ rfl rfl HR.out ?_
      refine hKK _ _ ?_
      clear hKK KK HR
      try simp only [Act.put, List.setIfInBounds_toArray, List.set_cons_zero, List.set_cons_succ]
      refine wpAny_take (i := 8) (v := ?rv6) rfl (by kernel_rfl) (by kernel_rfl) (by kernel_rfl) (fun _ _ _ h => h) (Or.inl ⟨by rfl, ?ry6⟩) ?rr6
      case ry6 => (intro w; go_simp; try with_reducible rfl)
      try simp only [List.getElem_toArray, List.getElem_cons_zero, List.getElem_cons_succ, Act.put, List.setIfInBounds_toArray, List.set_cons_zero, List.set_cons_succ]
      refine wpAny_take (i := 9) (v := ?rv7) rfl (by kernel_rfl) (by kernel_rfl) (by kernel_rfl) (fun _ _ _ h => h) (Or.inl ⟨by rfl, ?ry7⟩) ?rr7
      case ry7 => (intro w; go_simp; try with_reducible rfl)
      try simp only [List.getElem_toArray, List.getElem_cons_zero, List.getElem_cons_succ, Act.put, List.setIfInBounds_toArray, List.set_cons_zero, List.set_cons_succ]
      have q3 := cell_of_heap HB3.out 3
      unfold progCells at q3
      simp only [List.getElem?_toArray, List.getElem?_cons_zero, List.getElem?_cons_succ] at q3
      have f3 : ∀ j, X3.frozen? ⟨B, j, none⟩ = false := fun j => frozen_of_heap HB3.out j
      unfold sl at q3
      refine wpAny_ready (rs := [10]) (by kernel_rfl) (by simp) ?_
      refine AllReady.cons rfl (fun KK hKK => ?_) AllReady.nil
      go_simp
      refine hKK _ _ ?_
      clear hKK KK
      refine wpAny_done (by kernel_rfl) ?_ _
      have C4 : Hid (Chg w (X3.setCell ⟨B, 3, none⟩ (.slice (gd'.map fun k => ⟨k, 0, none⟩) (v.d.length + (recBytes inner).length) cd')) B v { v with arm := narm, d := v.d ++ recBytes inner, gd := gd', cd := cd' }) := HC4.out
      have HV4 := hid C4.out.at_
      clear q3 f3 HC4
      generalize X3.setCell ⟨B, 3, none⟩ (.slice (gd'.map fun k => ⟨k, 0, none⟩) (v.d.length + (recBytes inner).length) cd') = X4 at *
      have q4 := cell_of_heap HV4.out.blk 4
      have q5 := cell_of_heap HV4.out.blk 5
      have q6 := cell_of_heap HV4.out.blk 6
      unfold progCells at q4 q5 q6
      simp only [List.getElem?_toArray, List.getElem?_cons_zero, List.getElem?_cons_succ] at q4 q5 q6
      unfold sl at q6
      have f4 : ∀ j, X4.frozen? ⟨B, j, none⟩ = false := fun j => frozen_of_heap HV4.out.blk j
      go_wp2_with fail
      refine (HAF.out X4 C4.out).mono ?_
      rintro e X5 ⟨h1, h2, h3⟩
      rcases h3 with ⟨hcd, _⟩ | ⟨nn, gl', cl', hcd, rfl, ho, hfr⟩
      · rw [HCD.out] at hcd; cases hcd
      rw [HCD.out] at hcd
      cases hcd
      have HO5 := hid ho
      have HT5 := hid h2
      have HFR := hid hfr
      clear h1 h2 ho hfr
      have hnB : ∀ k, v.gl = some k → ¬ (k = B) := fun k e e2 => HV.out.ne1.2.1 (by rw [e, e2])
      have hb5 : X5.heap[B]? = _ := HT5.out.heapAt HV4.out.blk (fun e => HV.out.ne1.2.1 e)
      have r4 := cell_of_heap hb5 4
      have r5 := cell_of_heap hb5 5
      have r6 := cell_of_heap hb5 6
      have HB5 := hid hb5
      unfold progCells at r4 r5 r6
      simp only [List.getElem?_toArray, List.getElem?_cons_zero, List.getElem?_cons_succ] at r4 r5 r6
      unfold sl at r6
      have f5 : ∀ j, X5.frozen? ⟨B, j, none⟩ = false := fun j => frozen_of_heap hb5 j
      clear q4 q5 q6 f4 hb5
      have HMV : Hid (m'.val (gl'.map fun x => (⟨x, 0, none⟩ : Addr)) cl' = .agg #[.int .i64 m'.view, .int .i64 m'.last, .slice (gl'.map fun x => ⟨x, 0, none⟩) m'.ls.length cl']) := rfl
      rw [HMV.out]
      have FIN : Hid (Chg w (((X5.setCell ⟨B, 4, none⟩ (.int .i64 m'.view)).setCell ⟨B, 5, none⟩ (.int .i64 m'.last)).setCell ⟨B, 6, none⟩ (.slice (gl'.map fun x => ⟨x, 0, none⟩) m'.ls.length cl')) B v { v with arm := narm, d := v.d ++ recBytes inner, gd := gd', cd := cd', m := m', gl := gl', cl := cl' }) := saidChg (u := { v with arm := narm, d := v.d ++ recBytes inner, gd := gd', cd := cd' }) C4.out HB5.out HT5.out HO5.out HFR.out
      clear HO5 HT5 HFR HB5 C4 HV4
      go_wp2
      go_ret
      exact ⟨gd', cd', gl', cl', rfl, FIN.out⟩
    · go_simp
      refine (HWH.out _ ((Below.refl _ _).drew)).mono ?_
      rintro e X2 ⟨gw, cw, rfl, ho, hbf⟩
      have hb2a : Below X1.heap.size X1 X2 := (Below.refl _ X1).drew.trans hbf
      have p32 := (hb2a.cell (World.block_lt_of_cell? _ _ p3)).trans p3
      clear hbf p3
      refine hK _ _ ?_
      clear hK K
      try simp only [Act.put, List.setIfInBounds_toArray, List.set_cons_zero, List.set_cons_succ]
      refine wpAny_ready (rs := [4]) (by kernel_rfl) (by simp) ?_
      refine AllReady.cons rfl (fun K hK => ?_) AllReady.nil
      go_simp
      refine hK _ _ ?_
      clear hK K p32
      have HX2 := hid (hb2a)
      have HV2 := hid (HV1.out.below HX2.out)
      have HOB := hid (ho.base (u := X1) (Nat.le_refl _))
      obtain ⟨gd', cd', X3, hr, ha3, ho3, ht3, hn3⟩ := run_appR (w := X2) (b := v.gd) (c := v.cd) (l := v.d) (l2 := recBytes inner) 31 31 (.slice (some ⟨gw, 0, none⟩) (recBytes inner).length cw) HV2.out.db HV2.out.dow (bytes_src (some ⟨gw, 0, none⟩) _ cw (recBytes inner) X2 HOB.out.at_.in_ rfl) (by have := HRL.out; omega)
      have HC4 : Hid (Chg w (X3.setCell ⟨B, 3, none⟩ (.slice (gd'.map fun k => ⟨k, 0, none⟩) (v.d.length + (recBytes inner).length) cd')) B v { v with arm := narm, d := v.d ++ recBytes inner, gd := gd', cd := cd' }) :=
        C1.out.trans (Chg.of HX2.out HV1.out (diskChg (v := { v with arm := narm }) HV2.out ha3 ho3 ht3 hn3 (by rw [List.length_append])))
      have HB3 : Hid (X3.heap[B]? = some (.cells (progCells v.kp v.me v.pa v.gd v.d.length v.cd v.m v.gl v.cl narm v.gf v.lost.length v.cf v.ag v.hs) 103 (0, 0))) := ht3.heapAt HV2.out.blk (fun e => HV.out.ne1.1 e)
      have HR := hid hr
      unfold sl at HR
      clear hr ha3 ho3 ht3 hn3 ho hb2a
      refine wpAny_ready (rs := [7]) (by kernel_rfl) (by simp) ?_
      refine AllReady.cons rfl (fun KK hKK => ?_) AllReady.nil
      refine step_appRun rfl (.tmp 34) (.tmp 36) 31 31 rfl _ _ _ _ rfl rfl HR.out ?_
      refine hKK _ _ ?_
      clear hKK KK HR
      try simp only [Act.put, List.setIfInBounds_toArray, List.set_cons_zero, List.set_cons_succ]
      refine wpAny_take (i := 8) (v := ?rv8) rfl (by kernel_rfl) (by kernel_rfl) (by kernel_rfl) (fun _ _ _ h => h) (Or.inl ⟨by rfl, ?ry8⟩) ?rr8
      case ry8 => (intro w; go_simp; try with_reducible rfl)
      try simp only [List.getElem_toArray, List.getElem_cons_zero, List.getElem_cons_succ, Act.put, List.setIfInBounds_toArray, List.set_cons_zero, List.set_cons_succ]
      refine wpAny_take (i := 9) (v := ?rv9) rfl (by kernel_rfl) (by kernel_rfl) (by kernel_rfl) (fun _ _ _ h => h) (Or.inl ⟨by rfl, ?ry9⟩) ?rr9
      case ry9 => (intro w; go_simp; try with_reducible rfl)
      try simp only [List.getElem_toArray, List.getElem_cons_zero, List.getElem_cons_succ, Act.put, List.setIfInBounds_toArray, List.set_cons_zero, List.set_cons_succ]
      have q3 := cell_of_heap HB3.out 3
      unfold progCells at q3
      simp only [List.getElem?_toArray, List.getElem?_cons_zero, List.getElem?_cons_succ] at q3
      have f3 : ∀ j, X3.frozen? ⟨B, j, none⟩ = false := fun j => frozen_of_heap HB3.out j
      unfold sl at q3
      refine wpAny_ready (rs := [10]) (by kernel_rfl) (by simp) ?_
      refine AllReady.cons rfl (fun KK hKK => ?_) AllReady.nil
      go_simp
      refine hKK _ _ ?_
      clear hKK KK
      refine wpAny_done (by kernel_rfl) ?_ _
      have C4 : Hid (Chg w (X3.setCell ⟨B, 3, none⟩ (.slice (gd'.map fun k => ⟨k, 0, none⟩) (v.d.length + (recBytes inner).length) cd')) B v { v with arm := narm, d := v.d ++ recBytes inner, gd := gd', cd := cd' }) := HC4.out
      have HV4 := hid C4.out.at_
      clear q3 f3 HC4
      generalize X3.setCell ⟨B, 3, none⟩ (.slice (gd'.map fun k => ⟨k, 0, none⟩) (v.d.length + (recBytes inner).length) cd') = X4 at *
      have q4 := cell_of_heap HV4.out.blk 4
      have q5 := cell_of_heap HV4.out.blk 5
      have q6 := cell_of_heap HV4.out.blk 6
      unfold progCells at q4 q5 q6
      simp only [List.getElem?_toArray, List.getElem?_cons_zero, List.getElem?_cons_succ] at q4 q5 q6
      unfold sl at q6
      have f4 : ∀ j, X4.frozen? ⟨B, j, none⟩ = false := fun j => frozen_of_heap HV4.out.blk j
      go_wp2_with fail
      refine (HAF.out X4 C4.out).mono ?_
      rintro e X5 ⟨h1, h2, h3⟩
      rcases h3 with ⟨hcd, _⟩ | ⟨nn, gl', cl', hcd, rfl, ho, hfr⟩
      · rw [HCD.out] at hcd; cases hcd
      rw [HCD.out] at hcd
      cases hcd
      have HO5 := hid ho
      have HT5 := hid h2
      have HFR := hid hfr
      clear h1 h2 ho hfr
      have hnB : ∀ k, v.gl = some k → ¬ (k = B) := fun k e e2 => HV.out.ne1.2.1 (by rw [e, e2])
      have hb5 : X5.heap[B]? = _ := HT5.out.heapAt HV4.out.blk (fun e => HV.out.ne1.2.1 e)
      have r4 := cell_of_heap hb5 4
      have r5 := cell_of_heap hb5 5
      have r6 := cell_of_heap hb5 6
      have HB5 := hid hb5
      unfold progCells at r4 r5 r6
      simp only [List.getElem?_toArray, List.getElem?_cons_zero, List.getElem?_cons_succ] at r4 r5 r6
      unfold sl at r6
      have f5 : ∀ j, X5.frozen? ⟨B, j, none⟩ = false := fun j => frozen_of_heap hb5 j
      clear q4 q5 q6 f4 hb5
      have HMV : Hid (m'.val (gl'.map fun x => (⟨x, 0, none⟩ : Addr)) cl' = .agg #[.int .i64 m'.view, .int .i64 m'.last, .slice (gl'.map fun x => ⟨x, 0, none⟩) m'.ls.length cl']) := rfl
      rw [HMV.out]
      have FIN : Hid (Chg w (((X5.setCell ⟨B, 4, none⟩ (.int .i64 m'.view)).setCell ⟨B, 5, none⟩ (.int .i64 m'.last)).setCell ⟨B, 6, none⟩ (.slice (gl'.map fun x => ⟨x, 0, none⟩) m'.ls.length cl')) B v { v with arm := narm, d := v.d ++ recBytes inner, gd := gd', cd := cd', m := m', gl := gl', cl := cl' }) := saidChg (u := { v with arm := narm, d := v.d ++ recBytes inner, gd := gd', cd := cd' }) C4.out HB5.out HT5.out HO5.out HFR.out
      clear HO5 HT5 HFR HB5 C4 HV4
      go_wp2
      go_ret
      exact ⟨gd', cd', gl', cl', rfl, FIN.out⟩
  · have wa : IntKind.i64.wrap (v.arm - 1) = v.arm - 1 := by rw [IntWalk.i64_left, IntWalk.wrap64_in _ (by omega)]
    have n1 : (v.arm == 1) = false := beq_eq_false_iff_ne.2 (by omega)
    have n2 : ¬ (v.arm - 1 < 0) := by omega
    have HW1 : Hid (X0.setCell ⟨B, 7, none⟩ (.int .i64 (v.arm - 1)) = X0.setCell ⟨B, 7, none⟩ (.int .i64 narm)) := by show _ = _; rw [ha4]
    clear ha4
    go_wp2
    rw [HW1.out]
    clear c7 f7 HW1
    generalize X0.setCell ⟨B, 7, none⟩ (.int .i64 narm) = X1 at *
    have HV1 := hid C1.out.at_
    have HWH : Hid (∀ z, Below X1.heap.size X1 z → Calls Tryz.prog 184 #[.slice a n c] z fun e w' => ∃ g cq, e = .returned (.slice (some ⟨g, 0, none⟩) (recBytes inner).length cq) ∧ OwnBytes z w' (some g) cq (recBytes inner) ∧ Below z.heap.size z w') := fun z hz => whole_go a n c inner z ((HBT.out X1 C1.out.tch).below hz) hil hin
    have p3 := cell_of_heap HV1.out.blk 3
    unfold progCells at p3
    simp only [List.getElem?_toArray, List.getElem?_cons_zero, List.getElem?_cons_succ] at p3
    unfold sl at p3
    refine wp_region_any (by kernel_rfl) ?_
    try (change wpAny _ _ _ _ _ _ _ (World.drew _))
    refine wpAny_take (i := 0) (v := ?rv10) rfl (by kernel_rfl) (by kernel_rfl) (by kernel_rfl) (fun _ _ _ h => h) (Or.inl ⟨by rfl, ?ry10⟩) ?rr10
    case ry10 => (intro w; go_simp; try with_reducible rfl)
    try simp only [List.getElem_toArray, List.getElem_cons_zero, List.getElem_cons_succ, Act.put, List.setIfInBounds_toArray, List.set_cons_zero, List.set_cons_succ]
    refine wpAny_take (i := 1) (v := ?rv11) rfl (by kernel_rfl) (by kernel_rfl) (by kernel_rfl) (fun _ _ _ h => h) (Or.inl ⟨by rfl, ?ry11⟩) ?rr11
    case ry11 => (intro w; go_simp; try with_reducible rfl)
    try simp only [List.getElem_toArray, List.getElem_cons_zero, List.getElem_cons_succ, Act.put, List.setIfInBounds_toArray, List.set_cons_zero, List.set_cons_succ]
    refine wpAny_take (i := 2) (v := ?rv12) rfl (by kernel_rfl) (by kernel_rfl) (by kernel_rfl) (fun _ _ _ h => h) (Or.inl ⟨by rfl, ?ry12⟩) ?rr12
    case ry12 => (intro w; go_simp; try with_reducible rfl)
    try simp only [List.getElem_toArray, List.getElem_cons_zero, List.getElem_cons_succ, Act.put, List.setIfInBounds_toArray, List.set_cons_zero, List.set_cons_succ]
    refine wpAny_take (i := 3) (v := ?rv13) rfl (by kernel_rfl) (by kernel_rfl) (by kernel_rfl) (fun _ _ _ h => h) (Or.inl ⟨by rfl, ?ry13⟩) ?rr13
    case ry13 => (intro w; go_simp; try with_reducible rfl)
    try simp only [List.getElem_toArray, List.getElem_cons_zero, List.getElem_cons_succ, Act.put, List.setIfInBounds_toArray, List.set_cons_zero, List.set_cons_succ]
    refine wpAny_take (i := 5) (v := ?rv14) rfl (by kernel_rfl) (by kernel_rfl) (by kernel_rfl) (fun _ _ _ h => h) (Or.inl ⟨by rfl, ?ry14⟩) ?rr14
    case ry14 => (intro w; go_simp; try with_reducible rfl)
    try simp only [List.getElem_toArray, List.getElem_cons_zero, List.getElem_cons_succ, Act.put, List.setIfInBounds_toArray, List.set_cons_zero, List.set_cons_succ]
    refine wpAny_ready (rs := [4, 6]) (by kernel_rfl) (by simp) ?_
    refine AllReady.cons rfl (fun K hK => ?_) (AllReady.cons rfl (fun K hK => ?_) AllReady.nil)
    · go_simp
      refine hK _ _ ?_
      clear hK K
      refine wpAny_ready (rs := [6]) (by kernel_rfl) (by simp) ?_
      refine AllReady.cons rfl (fun K hK => ?_) AllReady.nil
      go_simp
      refine (HWH.out _ ((Below.refl _ _).drew)).mono ?_
      rintro e X2 ⟨gw, cw, rfl, ho, hbf⟩
      have hb2a : Below X1.heap.size X1 X2 := (Below.refl _ X1).drew.trans hbf
      clear hbf p3
      refine hK _ _ ?_
      clear hK K
      try simp only [Act.put, List.setIfInBounds_toArray, List.set_cons_zero, List.set_cons_succ]
      have HX2 := hid (hb2a)
      have HV2 := hid (HV1.out.below HX2.out)
      have HOB := hid (ho.base (u := X1) (Nat.le_refl _))
      obtain ⟨gd', cd', X3, hr, ha3, ho3, ht3, hn3⟩ := run_appR (w := X2) (b := v.gd) (c := v.cd) (l := v.d) (l2 := recBytes inner) 31 31 (.slice (some ⟨gw, 0, none⟩) (recBytes inner).length cw) HV2.out.db HV2.out.dow (bytes_src (some ⟨gw, 0, none⟩) _ cw (recBytes inner) X2 HOB.out.at_.in_ rfl) (by have := HRL.out; omega)
      have HC4 : Hid (Chg w (X3.setCell ⟨B, 3, none⟩ (.slice (gd'.map fun k => ⟨k, 0, none⟩) (v.d.length + (recBytes inner).length) cd')) B v { v with arm := narm, d := v.d ++ recBytes inner, gd := gd', cd := cd' }) :=
        C1.out.trans (Chg.of HX2.out HV1.out (diskChg (v := { v with arm := narm }) HV2.out ha3 ho3 ht3 hn3 (by rw [List.length_append])))
      have HB3 : Hid (X3.heap[B]? = some (.cells (progCells v.kp v.me v.pa v.gd v.d.length v.cd v.m v.gl v.cl narm v.gf v.lost.length v.cf v.ag v.hs) 103 (0, 0))) := ht3.heapAt HV2.out.blk (fun e => HV.out.ne1.1 e)
      have HR := hid hr
      unfold sl at HR
      clear hr ha3 ho3 ht3 hn3 ho hb2a
      refine wpAny_ready (rs := [7]) (by kernel_rfl) (by simp) ?_
      refine AllReady.cons rfl (fun KK hKK => ?_) AllReady.nil
      refine step_appRun rfl (.tmp 34) (.tmp 36) 31 31 rfl _ _ _ _ rfl rfl HR.out ?_
      refine hKK _ _ ?_
      clear hKK KK HR
      try simp only [Act.put, List.setIfInBounds_toArray, List.set_cons_zero, List.set_cons_succ]
      refine wpAny_take (i := 8) (v := ?rv15) rfl (by kernel_rfl) (by kernel_rfl) (by kernel_rfl) (fun _ _ _ h => h) (Or.inl ⟨by rfl, ?ry15⟩) ?rr15
      case ry15 => (intro w; go_simp; try with_reducible rfl)
      try simp only [List.getElem_toArray, List.getElem_cons_zero, List.getElem_cons_succ, Act.put, List.setIfInBounds_toArray, List.set_cons_zero, List.set_cons_succ]
      refine wpAny_take (i := 9) (v := ?rv16) rfl (by kernel_rfl) (by kernel_rfl) (by kernel_rfl) (fun _ _ _ h => h) (Or.inl ⟨by rfl, ?ry16⟩) ?rr16
      case ry16 => (intro w; go_simp; try with_reducible rfl)
      try simp only [List.getElem_toArray, List.getElem_cons_zero, List.getElem_cons_succ, Act.put, List.setIfInBounds_toArray, List.set_cons_zero, List.set_cons_succ]
      have q3 := cell_of_heap HB3.out 3
      unfold progCells at q3
      simp only [List.getElem?_toArray, List.getElem?_cons_zero, List.getElem?_cons_succ] at q3
      have f3 : ∀ j, X3.frozen? ⟨B, j, none⟩ = false := fun j => frozen_of_heap HB3.out j
      unfold sl at q3
      refine wpAny_ready (rs := [10]) (by kernel_rfl) (by simp) ?_
      refine AllReady.cons rfl (fun KK hKK => ?_) AllReady.nil
      go_simp
      refine hKK _ _ ?_
      clear hKK KK
      refine wpAny_done (by kernel_rfl) ?_ _
      have C4 : Hid (Chg w (X3.setCell ⟨B, 3, none⟩ (.slice (gd'.map fun k => ⟨k, 0, none⟩) (v.d.length + (recBytes inner).length) cd')) B v { v with arm := narm, d := v.d ++ recBytes inner, gd := gd', cd := cd' }) := HC4.out
      have HV4 := hid C4.out.at_
      clear q3 f3 HC4
      generalize X3.setCell ⟨B, 3, none⟩ (.slice (gd'.map fun k => ⟨k, 0, none⟩) (v.d.length + (recBytes inner).length) cd') = X4 at *
      have q4 := cell_of_heap HV4.out.blk 4
      have q5 := cell_of_heap HV4.out.blk 5
      have q6 := cell_of_heap HV4.out.blk 6
      unfold progCells at q4 q5 q6
      simp only [List.getElem?_toArray, List.getElem?_cons_zero, List.getElem?_cons_succ] at q4 q5 q6
      unfold sl at q6
      have f4 : ∀ j, X4.frozen? ⟨B, j, none⟩ = false := fun j => frozen_of_heap HV4.out.blk j
      go_wp2_with fail
      refine (HAF.out X4 C4.out).mono ?_
      rintro e X5 ⟨h1, h2, h3⟩
      rcases h3 with ⟨hcd, _⟩ | ⟨nn, gl', cl', hcd, rfl, ho, hfr⟩
      · rw [HCD.out] at hcd; cases hcd
      rw [HCD.out] at hcd
      cases hcd
      have HO5 := hid ho
      have HT5 := hid h2
      have HFR := hid hfr
      clear h1 h2 ho hfr
      have hnB : ∀ k, v.gl = some k → ¬ (k = B) := fun k e e2 => HV.out.ne1.2.1 (by rw [e, e2])
      have hb5 : X5.heap[B]? = _ := HT5.out.heapAt HV4.out.blk (fun e => HV.out.ne1.2.1 e)
      have r4 := cell_of_heap hb5 4
      have r5 := cell_of_heap hb5 5
      have r6 := cell_of_heap hb5 6
      have HB5 := hid hb5
      unfold progCells at r4 r5 r6
      simp only [List.getElem?_toArray, List.getElem?_cons_zero, List.getElem?_cons_succ] at r4 r5 r6
      unfold sl at r6
      have f5 : ∀ j, X5.frozen? ⟨B, j, none⟩ = false := fun j => frozen_of_heap hb5 j
      clear q4 q5 q6 f4 hb5
      have HMV : Hid (m'.val (gl'.map fun x => (⟨x, 0, none⟩ : Addr)) cl' = .agg #[.int .i64 m'.view, .int .i64 m'.last, .slice (gl'.map fun x => ⟨x, 0, none⟩) m'.ls.length cl']) := rfl
      rw [HMV.out]
      have FIN : Hid (Chg w (((X5.setCell ⟨B, 4, none⟩ (.int .i64 m'.view)).setCell ⟨B, 5, none⟩ (.int .i64 m'.last)).setCell ⟨B, 6, none⟩ (.slice (gl'.map fun x => ⟨x, 0, none⟩) m'.ls.length cl')) B v { v with arm := narm, d := v.d ++ recBytes inner, gd := gd', cd := cd', m := m', gl := gl', cl := cl' }) := saidChg (u := { v with arm := narm, d := v.d ++ recBytes inner, gd := gd', cd := cd' }) C4.out HB5.out HT5.out HO5.out HFR.out
      clear HO5 HT5 HFR HB5 C4 HV4
      go_wp2
      go_ret
      exact ⟨gd', cd', gl', cl', rfl, FIN.out⟩
    · go_simp
      refine (HWH.out _ ((Below.refl _ _).drew)).mono ?_
      rintro e X2 ⟨gw, cw, rfl, ho, hbf⟩
      have hb2a : Below X1.heap.size X1 X2 := (Below.refl _ X1).drew.trans hbf
      have p32 := (hb2a.cell (World.block_lt_of_cell? _ _ p3)).trans p3
      clear hbf p3
      refine hK _ _ ?_
      clear hK K
      try simp only [Act.put, List.setIfInBounds_toArray, List.set_cons_zero, List.set_cons_succ]
      refine wpAny_ready (rs := [4]) (by kernel_rfl) (by simp) ?_
      refine AllReady.cons rfl (fun K hK => ?_) AllReady.nil
      go_simp
      refine hK _ _ ?_
      clear hK K p32
      have HX2 := hid (hb2a)
      have HV2 := hid (HV1.out.below HX2.out)
      have HOB := hid (ho.base (u := X1) (Nat.le_refl _))
      obtain ⟨gd', cd', X3, hr, ha3, ho3, ht3, hn3⟩ := run_appR (w := X2) (b := v.gd) (c := v.cd) (l := v.d) (l2 := recBytes inner) 31 31 (.slice (some ⟨gw, 0, none⟩) (recBytes inner).length cw) HV2.out.db HV2.out.dow (bytes_src (some ⟨gw, 0, none⟩) _ cw (recBytes inner) X2 HOB.out.at_.in_ rfl) (by have := HRL.out; omega)
      have HC4 : Hid (Chg w (X3.setCell ⟨B, 3, none⟩ (.slice (gd'.map fun k => ⟨k, 0, none⟩) (v.d.length + (recBytes inner).length) cd')) B v { v with arm := narm, d := v.d ++ recBytes inner, gd := gd', cd := cd' }) :=
        C1.out.trans (Chg.of HX2.out HV1.out (diskChg (v := { v with arm := narm }) HV2.out ha3 ho3 ht3 hn3 (by rw [List.length_append])))
      have HB3 : Hid (X3.heap[B]? = some (.cells (progCells v.kp v.me v.pa v.gd v.d.length v.cd v.m v.gl v.cl narm v.gf v.lost.length v.cf v.ag v.hs) 103 (0, 0))) := ht3.heapAt HV2.out.blk (fun e => HV.out.ne1.1 e)
      have HR := hid hr
      unfold sl at HR
      clear hr ha3 ho3 ht3 hn3 ho hb2a
      refine wpAny_ready (rs := [7]) (by kernel_rfl) (by simp) ?_
      refine AllReady.cons rfl (fun KK hKK => ?_) AllReady.nil
      refine step_appRun rfl (.tmp 34) (.tmp 36) 31 31 rfl _ _ _ _ rfl rfl HR.out ?_
      refine hKK _ _ ?_
      clear hKK KK HR
      try simp only [Act.put, List.setIfInBounds_toArray, List.set_cons_zero, List.set_cons_succ]
      refine wpAny_take (i := 8) (v := ?rv17) rfl (by kernel_rfl) (by kernel_rfl) (by kernel_rfl) (fun _ _ _ h => h) (Or.inl ⟨by rfl, ?ry17⟩) ?rr17
      case ry17 => (intro w; go_simp; try with_reducible rfl)
      try simp only [List.getElem_toArray, List.getElem_cons_zero, List.getElem_cons_succ, Act.put, List.setIfInBounds_toArray, List.set_cons_zero, List.set_cons_succ]
      refine wpAny_take (i := 9) (v := ?rv18) rfl (by kernel_rfl) (by kernel_rfl) (by kernel_rfl) (fun _ _ _ h => h) (Or.inl ⟨by rfl, ?ry18⟩) ?rr18
      case ry18 => (intro w; go_simp; try with_reducible rfl)
      try simp only [List.getElem_toArray, List.getElem_cons_zero, List.getElem_cons_succ, Act.put, List.setIfInBounds_toArray, List.set_cons_zero, List.set_cons_succ]
      have q3 := cell_of_heap HB3.out 3
      unfold progCells at q3
      simp only [List.getElem?_toArray, List.getElem?_cons_zero, List.getElem?_cons_succ] at q3
      have f3 : ∀ j, X3.frozen? ⟨B, j, none⟩ = false := fun j => frozen_of_heap HB3.out j
      unfold sl at q3
      refine wpAny_ready (rs := [10]) (by kernel_rfl) (by simp) ?_
      refine AllReady.cons rfl (fun KK hKK => ?_) AllReady.nil
      go_simp
      refine hKK _ _ ?_
      clear hKK KK
      refine wpAny_done (by kernel_rfl) ?_ _
      have C4 : Hid (Chg w (X3.setCell ⟨B, 3, none⟩ (.slice (gd'.map fun k => ⟨k, 0, none⟩) (v.d.length + (recBytes inner).length) cd')) B v { v with arm := narm, d := v.d ++ recBytes inner, gd := gd', cd := cd' }) := HC4.out
      have HV4 := hid C4.out.at_
      clear q3 f3 HC4
      generalize X3.setCell ⟨B, 3, none⟩ (.slice (gd'.map fun k => ⟨k, 0, none⟩) (v.d.length + (recBytes inner).length) cd') = X4 at *
      have q4 := cell_of_heap HV4.out.blk 4
      have q5 := cell_of_heap HV4.out.blk 5
      have q6 := cell_of_heap HV4.out.blk 6
      unfold progCells at q4 q5 q6
      simp only [List.getElem?_toArray, List.getElem?_cons_zero, List.getElem?_cons_succ] at q4 q5 q6
      unfold sl at q6
      have f4 : ∀ j, X4.frozen? ⟨B, j, none⟩ = false := fun j => frozen_of_heap HV4.out.blk j
      go_wp2_with fail
      refine (HAF.out X4 C4.out).mono ?_
      rintro e X5 ⟨h1, h2, h3⟩
      rcases h3 with ⟨hcd, _⟩ | ⟨nn, gl', cl', hcd, rfl, ho, hfr⟩
      · rw [HCD.out] at hcd; cases hcd
      rw [HCD.out] at hcd
      cases hcd
      have HO5 := hid ho
      have HT5 := hid h2
      have HFR := hid hfr
      clear h1 h2 ho hfr
      have hnB : ∀ k, v.gl = some k → ¬ (k = B) := fun k e e2 => HV.out.ne1.2.1 (by rw [e, e2])
      have hb5 : X5.heap[B]? = _ := HT5.out.heapAt HV4.out.blk (fun e => HV.out.ne1.2.1 e)
      have r4 := cell_of_heap hb5 4
      have r5 := cell_of_heap hb5 5
      have r6 := cell_of_heap hb5 6
      have HB5 := hid hb5
      unfold progCells at r4 r5 r6
      simp only [List.getElem?_toArray, List.getElem?_cons_zero, List.getElem?_cons_succ] at r4 r5 r6
      unfold sl at r6
      have f5 : ∀ j, X5.frozen? ⟨B, j, none⟩ = false := fun j => frozen_of_heap hb5 j
      clear q4 q5 q6 f4 hb5
      have HMV : Hid (m'.val (gl'.map fun x => (⟨x, 0, none⟩ : Addr)) cl' = .agg #[.int .i64 m'.view, .int .i64 m'.last, .slice (gl'.map fun x => ⟨x, 0, none⟩) m'.ls.length cl']) := rfl
      rw [HMV.out]
      have FIN : Hid (Chg w (((X5.setCell ⟨B, 4, none⟩ (.int .i64 m'.view)).setCell ⟨B, 5, none⟩ (.int .i64 m'.last)).setCell ⟨B, 6, none⟩ (.slice (gl'.map fun x => ⟨x, 0, none⟩) m'.ls.length cl')) B v { v with arm := narm, d := v.d ++ recBytes inner, gd := gd', cd := cd', m := m', gl := gl', cl := cl' }) := saidChg (u := { v with arm := narm, d := v.d ++ recBytes inner, gd := gd', cd := cd' }) C4.out HB5.out HT5.out HO5.out HFR.out
      clear HO5 HT5 HFR HB5 C4 HV4
      go_wp2
      go_ret
      exact ⟨gd', cd', gl', cl', rfl, FIN.out⟩

end Go.Proofs.YtolififimldmlaaGreat
