import Derived.Test.YtolififimldmlaaGreatPart38
import Derived.Test.YtolififimldmlaaGreatPart41
set_option linter.unusedVariables false
set_option linter.unusedSimpArgs false
namespace Go.Proofs.YtolififimldmlaaGreat
open Go.RowKit
attribute [local go_sem ↓] Go.wp_at_zero Go.wp_at_succ

/-- Behind one keep of what is new. -/
theorem LawAt.kept {KIs : KeeperIs} {Iv : LK → Prop} (HKS : KeepsSaid KIs) {x Y z : World} {W : Nat} {lead : Bool} {gh gp : Option Nat} {n cap np cp : Nat} {H : Nat → HG} {P : Nat → PG} {R : Nat → Prop} (hw : WI Y W (sl gp np cp) lead gh n cap H) (hps : PS KIs Iv Y W gh n H gp np cp P) (h6 : np ≤ 6) (hb : Below x.heap.size x Y)
    (hk : KeptH Y W (sl gp np cp) lead gh n H R z) (hR : ∀ k, R k → x.heap.size ≤ k) (hx : PS KIs Iv x W gh n H gp np cp P) : LawAt KIs Iv x W lead (n + 4) gh gp z := by
  obtain ⟨⟨gh2, cap2, H2, W7, gg2, f2⟩, t2⟩ := hk
  have hs := hb.size
  refine ⟨⟨gh2, cap2, H2, gp, np, cp, P, W7, hps.move HKS t2 f2 (fun j hj k hk r => ?_) (fun k e r => ?_), h6, fun k e => ?_, fun k e => .inl e⟩, (Touch.of_belowAll hb _).trans t2 (fun k hk e => ?_)⟩
  · have := hx.lt j hj k hk; have := hR k r; omega
  · have := hx.own.lt e; have := hR k r; omega
  · rcases gg2 k e with e | e
    · exact .inl e
    · exact .inr (by omega)
  · rcases e with e | e | e
    · exact .inl e
    · exact .inr (.inl e)
    · have := hR k e; omega

set_option maxRecDepth 100000 in
set_option maxHeartbeats 8000000 in
theorem stepTell (KIs : KeeperIs) (Iv : LK → Prop) (lead : Bool) (HKS : KeepsSaid KIs) (HSS : StateSaid KIs) (HAS : AgreedSaid KIs) (HDS : DiskSaid KIs) (HIK : ∀ s, Iv s → s.ok) (x : World) (W : Nat) (gh : Option Nat) (n cap : Nat) (H : Nat → HG) (gp : Option Nat) (np cp : Nat) (P : Nat → PG) (hw : WI x W (sl gp np cp) lead gh n cap H) (hps : PS KIs Iv x W gh n H gp np cp P) (h0 : 0 < np) (h6 : np ≤ 6) (hn : n ≤ 90000000)
    (o : OpG) (hk : o.kind = 4 ∨ o.kind = 5 ∨ o.kind = 6) (hr : -9223372036854775808 ≤ o.n ∧ o.n ≤ 9223372036854775807) :
    Calls Tryz.prog 30 #[.pointer (some ⟨W, 0, none⟩), .agg o.cells] x fun e y => e = .returned (.bool true) ∧ ∃ m, m ≤ 4 ∧ LawAt KIs Iv x W lead (n + m) gh gp y := by
  have HWI := hid hw
  have HPS := hid hps
  have w0 := cell_of_heap hw.wb 0
  simp only [List.getElem?_toArray, List.getElem?_cons_zero] at w0
  unfold sl at w0
  have hWl : W < x.heap.size := heap_lt hw.wb
  clear hw hps
  unfold OpG.cells sla
  obtain ⟨okind, on, l, f, fa, fc, k1, k2, k3, oa⟩ := o
  dsimp only at *
  have n1 : (okind == 1) = false := beq_eq_false_iff_ne.2 (by omega)
  have n2 : (okind == 2) = false := beq_eq_false_iff_ne.2 (by omega)
  have n3 : (okind == 3) = false := beq_eq_false_iff_ne.2 (by omega)
  have n7 : (okind == 7) = false := beq_eq_false_iff_ne.2 (by omega)
  have hz : ((np : Int) == 0) = false := beq_eq_false_iff_ne.2 (by omega)
  go_enter Tryz.func30, Tryz.ntmps30
  go_wp2
  generalize hY : x.alloc (.cells #[.int .i64 okind, .int .i64 on, .string ⟨l.toArray⟩, .int .i64 f.kind, .int .i64 f.frm, .int .i64 f.view, .int .i64 f.place, .int .i64 f.agreed, .int .i64 f.last, .int .i64 f.line.c, .int .i64 f.line.t, .string ⟨f.line.s.toArray⟩, .slice fa f.lines.length fc, .int .i64 k1, .int .i64 k2, .int .i64 k3, .int .i64 oa] 76) = Y
  have y0 : Y.cell? ⟨x.heap.size, 0, none⟩ = some (.int .i64 okind) := by rw [← hY]; exact World.cell?_alloc_new _ _ _ _
  have y1 : Y.cell? ⟨x.heap.size, 1, none⟩ = some (.int .i64 on) := by rw [← hY]; exact World.cell?_alloc_new _ _ _ _
  have y16 : Y.cell? ⟨x.heap.size, 16, none⟩ = some (.int .i64 oa) := by rw [← hY]; exact World.cell?_alloc_new _ _ _ _
  have BY : Hid (Below x.heap.size x Y) := by show Below _ _ _; rw [← hY]; exact (Below.refl _ _).alloc (Nat.le_refl _) _
  have hxl : x.heap.size < Y.heap.size := by rw [← hY]; simp
  have WY := hid (HWI.out.below BY.out)
  have PY := hid (HPS.out.below HKS BY.out)
  clear hY w0
  have v0 := cell_of_heap WY.out.wb 0
  simp only [List.getElem?_toArray, List.getElem?_cons_zero] at v0
  unfold sl at v0
  have hi := pickN_lt on h0
  have HPK := hid (pick_any on np)
  generalize pickN on np = i at hi HPK ⊢
  obtain ⟨gP, hgP, cP⟩ := PY.out.ptr i hi
  obtain ⟨K, F, Kr, G, q1, q2, q3, q5⟩ := PY.out.pl i hi
  have hiv := PY.out.iv i hi
  generalize hPi : P i = pi at *
  obtain ⟨pp, pN, ps⟩ := pi
  dsimp only at *
  have HOK := hid (HIK ps hiv)
  have HQ2 := hid q2
  have HQ3 := hid q3
  have HQ1 := hid q1
  clear hiv q2 q3 q1
  subst hgP
  have i0 : (0 : Int) ≤ (i : Int) := by omega
  have i1 : (i : Int) < (np : Int) := by omega
  simp only [Option.map_some] at v0 ⊢
  have HX : Hid (Below Y.heap.size Y Y) := Below.refl _ _
  have HR := hid hr
  clear hr
  go_region_held (fun z => z.cell? ⟨x.heap.size, 1, none⟩ = some (.int .i64 on) ∧ z.cell? ⟨W, 0, none⟩ = some (.slice (some ⟨gP, 0, none⟩) np cp) ∧ z.cell? ⟨gP, i, none⟩ = some (.pointer (some ⟨pp, 0, none⟩)))
    (go_keep)
    (first | (go_at_call 54; refine (HPK.out _ h0 (by omega) HR.out).mono ?_; rintro e wf ⟨rfl, rfl⟩))
  rename_i hh
  clear hh
  obtain ⟨Y2, hY2⟩ : ∃ Y2 : World, Y2 = Y.drew := ⟨_, rfl⟩
  have bY2 : Below Y.heap.size Y Y2 := by rw [hY2]; exact (Below.refl _ _).drew
  have hs2 : Y2.heap.size = Y.heap.size := by rw [hY2]; rfl
  have u0 : Y2.cell? ⟨x.heap.size, 0, none⟩ = some (.int .i64 okind) := by rw [hY2]; exact y0
  have z16 : Y2.cell? ⟨x.heap.size, 16, none⟩ = some (.int .i64 oa) := by rw [hY2]; exact y16
  rw [← hY2]
  have W2 := hid (WY.out.below bY2)
  have P2 := hid (PY.out.below HKS bY2)
  have B2 := hid (BY.out.trans (bY2.mono BY.out.size))
  have HK2 := hid (HKS _ _ _ _ _ _ HQ2.out (Touch.of_belowAll bY2 (fun _ => False)) (fun _ _ h => h))
  have HR2 := hid (HQ3.out.below bY2)
  have HP2 := hid ((bY2.block _ (heap_lt HQ1.out)).trans HQ1.out)
  clear hY2 bY2 y0 y1 y16 v0 WY PY BY HX cP HQ1 HQ2 HQ3 HPK
  have p0 := cell_of_heap HP2.out 0
  have p1 := cell_of_heap HP2.out 1
  simp only [List.getElem?_toArray, List.getElem?_cons_zero, List.getElem?_cons_succ] at p0 p1
  rcases hk with rfl | rfl | rfl
  · clear n1 n2 n3 n7 hz z16
    go_wp2
    have HX : Hid (Below Y2.heap.size Y2 Y2) := Below.refl _ _
    have HSS := hid HSS
    have SV : Hid (∀ z, Below Y2.heap.size Y2 z → Calls Tryz.prog 26 #[.pointer (some ⟨K, 0, none⟩)] z fun e w' => e = .returned (.agg #[.int .i64 ps.mv.view, .int .i64 ps.mv.last, .int .i64 ps.mv.ls.length, .int .i64 ps.av]) ∧ Below z.heap.size z w') := fun z hz => HSS.out z K F ps (HKS _ _ _ _ _ _ HK2.out (Touch.of_belowAll hz (fun _ => False)) (fun _ _ h => h)) HOK.out
    have RV : Hid (∀ z, Below Y2.heap.size Y2 z → Calls Tryz.prog 55 #[.pointer (some ⟨Kr, 0, none⟩)] z fun e w' => e = .returned (.agg #[.int .i64 ps.mv.view, .int .i64 ps.mv.last, .int .i64 ps.mv.ls.length, .int .i64 ps.av]) ∧ Below z.heap.size z w') := fun z hz => refState_any Kr G ps z (HR2.out.below hz)
    generalize ps.mv.view = mv at *
    generalize ps.mv.last = ml at *
    generalize ps.mv.ls.length = mn at *
    generalize ps.av = ma at *
    go_region_held (fun z => z.cell? ⟨pp, 0, none⟩ = some (.pointer (some ⟨K, 0, none⟩)) ∧ z.cell? ⟨pp, 1, none⟩ = some (.pointer (some ⟨Kr, 0, none⟩)))
      (first | go_keep | (go_split_ands; refine ⟨?_, ?_⟩ <;> (refine (hbf.cell (World.block_lt_of_cell? _ _ (by assumption))).trans ?_; assumption)))
      (first
        | (go_at_call 26; refine (SV.out _ (by exact ex_below_cast HX.out rfl rfl rfl rfl)).mono ?_; rintro e wf ⟨rfl, hbf⟩; have HX := hid (ex_below_on HX.out hbf rfl rfl rfl rfl))
        | (go_at_call 55; refine (RV.out _ (by exact ex_below_cast HX.out rfl rfl rfl rfl)).mono ?_; rintro e wf ⟨rfl, hbf⟩; have HX := hid (ex_below_on HX.out hbf rfl rfl rfl rfl)))
    rename_i hh
    clear hh
    go_wp2
    go_ret
    exact ⟨rfl, 0, by omega, LawAt.still HKS HWI.out HPS.out h6 (B2.out.trans (HX.out.mono B2.out.size))⟩
  · clear n1 n2 n3 n7 hz z16
    obtain ⟨ll, hll⟩ : ∃ ll : List Ln, ll = ps.mv.ls.take ps.av := ⟨_, rfl⟩
    have hsm : ll.length ≤ 20 := by have := LK.mv_len HOK.out; rw [hll, List.length_take]; omega
    have AV : Hid (∀ z, Below Y2.heap.size Y2 z → Calls Tryz.prog 24 #[.pointer (some ⟨K, 0, none⟩)] z fun e w' => ∃ g c, e = .returned (.slice (g.map fun k => ⟨k, 0, none⟩) ll.length c) ∧ OwnLines z w' g c ll ∧ Below z.heap.size z w') := fun z hz => by
      rw [hll]; exact HAS z K F ps (HKS _ _ _ _ _ _ HK2.out (Touch.of_belowAll hz (fun _ => False)) (fun _ _ h => h)) HOK.out
    have RV : Hid (∀ z, Below Y2.heap.size Y2 z → Calls Tryz.prog 57 #[.pointer (some ⟨Kr, 0, none⟩)] z fun e w' => ∃ a c, e = .returned (.slice a ll.length c) ∧ LinesAt w' a ll ∧ Below z.heap.size z w') := fun z hz => by
      rw [hll]; exact refLines_any Kr G ps z (HR2.out.below hz) HOK.out
    clear hll
    go_wp2_with fail
    refine (AV.out _ (Below.refl _ _)).mono ?_
    rintro e Y3 ⟨ga, ca, rfl, hol, hb3⟩
    have B23 := hid hb3
    have HP3 := hid ((hb3.block _ (heap_lt HP2.out)).trans HP2.out)
    have HOL := hid hol
    have hs3 : Y2.heap.size ≤ Y3.heap.size := hb3.size
    clear hb3 hol p0 p1 u0
    have p1 := cell_of_heap HP3.out 1
    simp only [List.getElem?_toArray, List.getElem?_cons_zero, List.getElem?_cons_succ] at p1
    go_wp2_with fail
    refine (RV.out _ B23.out).mono ?_
    rintro e Y4 ⟨a4, c4, rfl, hl4, hb4⟩
    have B24 := hid (B23.out.trans (hb4.mono B23.out.size))
    have HOL4 := hid (HOL.out.below hb4)
    have HL4 := hid hl4
    have hs4 : Y3.heap.size ≤ Y4.heap.size := hb4.size
    clear hb4 hl4 p1
    go_wp2_with fail
    refine (sameLines_any (ga.map fun k => (⟨k, 0, none⟩ : Addr)) a4 ca c4 ll Y4 (by omega) HOL4.out.at_ HL4.out).mono ?_
    rintro e Y5 ⟨rfl, hb5⟩
    have B25 := hid (B24.out.trans (hb5.mono B24.out.size))
    have HOL5 := hid (HOL4.out.below hb5)
    have hs5 : Y4.heap.size ≤ Y5.heap.size := hb5.size
    clear hb5
    have W5 := hid (W2.out.below B25.out)
    have P5 := hid (P2.out.below HKS B25.out)
    have B5 := hid (B2.out.trans (B25.out.mono B2.out.size))
    have HNG : Hid (∀ k, ga = some k → Y2.heap.size ≤ k) := HOL.out.new
    have hx2 : x.heap.size ≤ Y2.heap.size := B2.out.size
    go_wp2_with fail
    refine (keep_hold Y5 W (sl (some gP) np cp) lead gh n cap H W5.out none ga none 0 0 ll.length ca 0 0 (.inl ⟨rfl, rfl, rfl⟩) HOL5.out.own (.inl ⟨rfl, rfl, rfl⟩) (fun g e => by cases e) (fun g e => by cases e) (fun g _ e => by cases e)
      (fun k' e => HWI.out.free_new (by rcases e with e | e | e; cases e; (have := HNG.out k' e; omega); cases e)) (by omega) (by omega) (by omega) (by omega)).mono ?_
    rintro e Y7 ⟨rfl, K1⟩
    have LA : Hid (LawAt KIs Iv x W lead (n + 4) gh (some gP) Y7) := LawAt.kept HKS W5.out P5.out h6 B5.out K1 (fun k e => by
      rcases e with e | e | e
      · cases e
      · have := HNG.out k e; omega
      · cases e) HPS.out
    clear K1
    go_wp2
    go_ret
    exact ⟨rfl, 4, by omega, LA.out⟩
  · clear n1 n2 n3 n7 hz
    go_wp2
    go_still_tail 6, (by kernel_rfl)
    go_wp2_with fail
    refine (HDS Y2.drew K F ps oa (HKS _ _ _ _ _ _ HK2.out ((Touch.refl (fun _ => False) Y2).drew) (fun _ _ h => h)) HOK.out).mono ?_
    rintro e Y3 ⟨gb, cb, rfl, hob, hb3⟩
    have b23 : Below Y2.heap.size Y2 Y3 := (Below.refl _ Y2).drew.trans hb3
    have W3 := hid (W2.out.below b23)
    have P3 := hid (P2.out.below HKS b23)
    have B3 := hid (B2.out.trans (b23.mono B2.out.size))
    have HR3 := hid (HR2.out.below b23)
    have HP3 := hid ((b23.block _ (heap_lt HP2.out)).trans HP2.out)
    have HOB := hid (hob.base (u := Y2) (Nat.le_refl _))
    have hs3 : Y2.heap.size ≤ Y3.heap.size := b23.size
    have z16' : Y3.cell? ⟨x.heap.size, 16, none⟩ = some (.int .i64 oa) := (b23.cell (World.block_lt_of_cell? _ _ z16)).trans z16
    clear hb3 hob p0 p1 u0 b23 z16
    have p1 := cell_of_heap HP3.out 1
    simp only [List.getElem?_toArray, List.getElem?_cons_zero, List.getElem?_cons_succ] at p1
    clear HDS
    obtain ⟨pd, hpd⟩ : ∃ pd : List UInt8, pd = ps.image oa := ⟨_, rfl⟩
    have hpl : pd.length ≤ 9900000 := by rw [hpd]; exact Nat.le_trans (LK.image_len ps oa) HOK.out.1
    rw [← hpd] at HOB ⊢
    have RV : Hid (∀ z, Below Y3.heap.size Y3 z → Calls Tryz.prog 59 #[.pointer (some ⟨Kr, 0, none⟩), .int .i64 oa] z fun e w' => e = .returned (.string ⟨pd.toArray⟩) ∧ Below z.heap.size z w') := fun z hz => by
      rw [hpd]; exact refImage_any Kr G ps _ oa (HR3.out.below hz) HOK.out.1
    have CV : Hid (∀ z, Below Y3.heap.size Y3 z → (convert 31 9 (.slice (gb.map fun k => ⟨k, 0, none⟩) pd.length cb)).run Tryz.prog z = .ok (.string ⟨pd.toArray⟩) z) := fun z hz => conv_bytes gb cb pd z (HOB.out.below hz).at_
    clear hpd
    unfold sl
    go_wp2
    have HX : Hid (Below Y3.heap.size Y3 Y3) := Below.refl _ _
    have HP1 := hid p1
    have HZ16 := hid z16'
    clear p1 z16'
    have hS0 : (fun z : World => Below Y3.heap.size Y3 z ∧ (convert 31 9 (.slice (gb.map fun k => ⟨k, 0, none⟩) pd.length cb)).run Tryz.prog z = .ok (.string ⟨pd.toArray⟩) z ∧ z.cell? ⟨pp, 1, none⟩ = some (.pointer (some ⟨Kr, 0, none⟩)) ∧ z.cell? ⟨x.heap.size, 16, none⟩ = some (.int .i64 oa)) Y3.drew := ⟨(Below.refl _ _).drew, CV.out _ ((Below.refl _ _).drew), HP1.out, HZ16.out⟩
    refine wp_region_held_drew (S := fun z : World => Below Y3.heap.size Y3 z ∧ (convert 31 9 (.slice (gb.map fun k => ⟨k, 0, none⟩) pd.length cb)).run Tryz.prog z = .ok (.string ⟨pd.toArray⟩) z ∧ z.cell? ⟨pp, 1, none⟩ = some (.pointer (some ⟨Kr, 0, none⟩)) ∧ z.cell? ⟨x.heap.size, 16, none⟩ = some (.int .i64 oa)) (by kernel_rfl) hS0 (fun hS => ?_)
    clear hS0
    refine wpAnyH_take (i := 0) (v := ?rv1) rfl (by kernel_rfl) (by kernel_rfl) (by kernel_rfl) (fun _ _ _ h => h) (Or.inl ⟨by rfl, ?ry1⟩) hS ?rr1
    case ry1 => (intro w hw; clear hw; go_simp; try with_reducible rfl)
    try simp only [List.getElem_toArray, List.getElem_cons_zero, List.getElem_cons_succ, Act.put, List.setIfInBounds_toArray, List.set_cons_zero, List.set_cons_succ]
    refine wpAnyH_take (i := 2) (v := ?rv2) rfl (by kernel_rfl) (by kernel_rfl) (by kernel_rfl) (fun _ _ _ h => h) (Or.inl ⟨by rfl, ?ry2⟩) hS ?rr2
    case ry2 => (intro w hw; clear hw; go_simp; try with_reducible rfl)
    try simp only [List.getElem_toArray, List.getElem_cons_zero, List.getElem_cons_succ, Act.put, List.setIfInBounds_toArray, List.set_cons_zero, List.set_cons_succ]
    refine wpAnyH_take (i := 3) (v := ?rv3) rfl (by kernel_rfl) (by kernel_rfl) (by kernel_rfl) (fun _ _ _ h => h) (Or.inl ⟨by rfl, ?ry3⟩) hS ?rr3
    case ry3 => (intro w hw; clear hw; go_simp; try with_reducible rfl)
    try simp only [List.getElem_toArray, List.getElem_cons_zero, List.getElem_cons_succ, Act.put, List.setIfInBounds_toArray, List.set_cons_zero, List.set_cons_succ]
    refine wpAnyH_take (i := 4) (v := ?rv4) rfl (by kernel_rfl) (by kernel_rfl) (by kernel_rfl) (fun _ _ _ h => h) (Or.inl ⟨by rfl, ?ry4⟩) hS ?rr4
    case ry4 => (intro w hw; clear hw; go_simp; try with_reducible rfl)
    try simp only [List.getElem_toArray, List.getElem_cons_zero, List.getElem_cons_succ, Act.put, List.setIfInBounds_toArray, List.set_cons_zero, List.set_cons_succ]
    refine wpAnyH_take (i := 6) (v := ?rv5) rfl (by kernel_rfl) (by kernel_rfl) (by kernel_rfl) (fun _ _ _ h => h) (Or.inl ⟨by rfl, ?ry5⟩) hS ?rr5
    case ry5 => (intro w hw; clear hw; go_simp; try with_reducible rfl)
    try simp only [List.getElem_toArray, List.getElem_cons_zero, List.getElem_cons_succ, Act.put, List.setIfInBounds_toArray, List.set_cons_zero, List.set_cons_succ]
    refine wpAnyH_take (i := 1) (v := ?rv8) rfl (by kernel_rfl) (by kernel_rfl) (by kernel_rfl) (fun _ _ _ h => h) (Or.inl ⟨by rfl, ?ry8⟩) hS ?rr8
    case ry8 => (intro w hw; obtain ⟨_, s1, s2, s3⟩ := hw; go_simp; try with_reducible rfl)
    try simp only [List.getElem_toArray, List.getElem_cons_zero, List.getElem_cons_succ, Act.put, List.setIfInBounds_toArray, List.set_cons_zero, List.set_cons_succ]
    refine wpAnyH_take (i := 5) (v := ?rv9) rfl (by kernel_rfl) (by kernel_rfl) (by kernel_rfl) (fun _ _ _ h => h) (Or.inl ⟨by rfl, ?ry9⟩) hS ?rr9
    case ry9 => (intro w hw; obtain ⟨_, s1, s2, s3⟩ := hw; go_simp; try with_reducible rfl)
    try simp only [List.getElem_toArray, List.getElem_cons_zero, List.getElem_cons_succ, Act.put, List.setIfInBounds_toArray, List.set_cons_zero, List.set_cons_succ]
    refine wpAnyH_take (i := 7) (v := ?rv10) rfl (by kernel_rfl) (by kernel_rfl) (by kernel_rfl) (fun _ _ _ h => h) (Or.inl ⟨by rfl, ?ry10⟩) hS ?rr10
    case ry10 => (intro w hw; obtain ⟨_, s1, s2, s3⟩ := hw; go_simp; try with_reducible rfl)
    try simp only [List.getElem_toArray, List.getElem_cons_zero, List.getElem_cons_succ, Act.put, List.setIfInBounds_toArray, List.set_cons_zero, List.set_cons_succ]
    refine wpAnyH_ready (rs := [8]) (by kernel_rfl) (by simp) ?_
    refine AllReadyH.cons rfl (fun K hK => ?_) AllReadyH.nil
    go_simp
    refine (RV.out _ hS.1).mono ?_
    rintro e Y4 ⟨rfl, hbf⟩
    have HX := hid (hS.1.trans (hbf.mono hS.1.size))
    clear hbf
    refine hK.out _ _ ⟨HX.out, CV.out _ HX.out, (Below.cell HX.out (World.block_lt_of_cell? _ _ HP1.out)).trans HP1.out, (Below.cell HX.out (World.block_lt_of_cell? _ _ HZ16.out)).trans HZ16.out⟩ (fun hS => ?_)
    clear hK K
    refine wpAnyH_take (i := 9) (v := ?rv6) rfl (by kernel_rfl) (by kernel_rfl) (by kernel_rfl) (fun _ _ _ h => h) (Or.inl ⟨by rfl, ?ry6⟩) hS ?rr6
    case ry6 => (intro w hw; clear hw; go_simp; try with_reducible rfl)
    try simp only [List.getElem_toArray, List.getElem_cons_zero, List.getElem_cons_succ, Act.put, List.setIfInBounds_toArray, List.set_cons_zero, List.set_cons_succ]
    refine wpAnyH_take (i := 10) (v := ?rv7) rfl (by kernel_rfl) (by kernel_rfl) (by kernel_rfl) (fun _ _ _ h => h) (Or.inl ⟨by rfl, ?ry7⟩) hS ?rr7
    case ry7 => (intro w hw; clear hw; go_simp; try with_reducible rfl)
    try simp only [List.getElem_toArray, List.getElem_cons_zero, List.getElem_cons_succ, Act.put, List.setIfInBounds_toArray, List.set_cons_zero, List.set_cons_succ]
    refine wpAnyH_done (by kernel_rfl) ?_ _
    clear hS
    have b34 := HX.out
    have W4 := hid (W3.out.below b34)
    have P4 := hid (P3.out.below HKS b34)
    have B4 := hid (B3.out.trans (b34.mono B3.out.size))
    have HOB4 := hid (HOB.out.below b34)
    have hs4 : Y3.heap.size ≤ Y4.heap.size := b34.size
    have HNG : Hid (∀ k, gb = some k → Y2.heap.size ≤ k) := HOB.out.new
    have hx2 : x.heap.size ≤ Y2.heap.size := B2.out.size
    clear b34
    go_wp2_with fail
    refine (keep_hold Y4 W (sl (some gP) np cp) lead gh n cap H W4.out gb none none pd.length cb 0 0 0 0 HOB4.out.own (.inl ⟨rfl, rfl, rfl⟩) (.inl ⟨rfl, rfl, rfl⟩) (fun g _ e => by cases e) (fun g _ e => by cases e) (fun g e => by cases e)
      (fun k' e => HWI.out.free_new (by rcases e with e | e | e; (have := HNG.out k' e; omega); cases e; cases e)) (by omega) (by omega) (by omega) (by omega)).mono ?_
    rintro e Y7 ⟨rfl, K1⟩
    have LA : Hid (LawAt KIs Iv x W lead (n + 4) gh (some gP) Y7) := LawAt.kept HKS W4.out P4.out h6 B4.out K1 (fun k e => by
      rcases e with e | e | e
      · have := HNG.out k e; omega
      · cases e
      · cases e) HPS.out
    clear K1
    go_wp2
    go_ret
    exact ⟨ret_bool (by simp), 4, by omega, LA.out⟩

end Go.Proofs.YtolififimldmlaaGreat
