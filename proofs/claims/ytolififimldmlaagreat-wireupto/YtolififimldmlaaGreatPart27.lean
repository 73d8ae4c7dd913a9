import Derived.Test.YtolififimldmlaaGreatPart26
import Derived.StillTailTactics
import Derived.Deep.RegionHeld3
set_option linter.unusedVariables false
set_option linter.unusedSimpArgs false
namespace Go.Proofs.YtolififimldmlaaGreat
open Go.RowKit
attribute [local go_sem ↓] Go.wp_at_zero Go.wp_at_succ

/-- What the program's Disk must do with a keeper. -/
def DiskSaid (KIs : KeeperIs) : Prop := ∀ (w : World) (K : Nat) (F : Nat → Prop) (s : LK) (keep : Int), KIs w K F s → s.ok →
  Calls Tryz.prog 28 #[.pointer (some ⟨K, 0, none⟩), .int .i64 keep] w fun e w' => ∃ g c, e = .returned (sl g (s.image keep).length c) ∧ OwnBytes w w' g c (s.image keep) ∧ Below w.heap.size w w'

set_option maxRecDepth 100000 in
set_option maxHeartbeats 4000000 in
theorem madeAgain_none (KIs : KeeperIs) (Iv : LK → Prop) (lead : Bool) (HKS : KeepsSaid KIs) (x : World) (W : Nat) (gh : Option Nat) (n cap : Nat) (H : Nat → HG) (gp : Option Nat) (cp : Nat) (P : Nat → PG) (hw : WI x W (sl gp 0 cp) lead gh n cap H) (hps : PS KIs Iv x W gh n H gp 0 cp P)
    (o : OpG) (hk : o.kind = 7) :
    Calls Tryz.prog 53 #[.pointer (some ⟨W, 0, none⟩), .agg o.cells] x fun e y => e = .returned (.bool true) ∧ LawAt KIs Iv x W lead n gh gp y := by
  have HWI := hid hw
  have HPS := hid hps
  have w0 := cell_of_heap hw.wb 0
  simp only [List.getElem?_toArray, List.getElem?_cons_zero] at w0
  unfold sl at w0
  have hWl : W < x.heap.size := heap_lt hw.wb
  clear hw hps
  unfold OpG.cells sla
  obtain ⟨okind, on, l, f, fa, fc, k1, k2, k3, oa⟩ := o
  dsimp only at *
  subst hk
  go_enter Tryz.func53, Tryz.ntmps53
  go_wp2
  go_ret
  exact ⟨rfl, LawAt.still HKS HWI.out HPS.out (by omega) ((Below.refl _ _).alloc (Nat.le_refl _) _)⟩

end Go.Proofs.YtolififimldmlaaGreat

set_option linter.unusedVariables false
set_option linter.unusedSimpArgs false
namespace Go.Proofs.YtolififimldmlaaGreat
open Go.RowKit
attribute [local go_sem ↓] Go.wp_at_zero Go.wp_at_succ

theorem PS.move {KIs : KeeperIs} {Iv : LK → Prop} (HKS : KeepsSaid KIs) {x y : World} {W : Nat} {gh gh' : Option Nat} {n n' : Nat} {H H' : Nat → HG} {gp : Option Nat} {np cp : Nat} {P : Nat → PG} {R : Nat → Prop} (h : PS KIs Iv x W gh n H gp np cp P)
    (ht : Touch (fun k => k = W ∨ gh = some k ∨ R k) x y) (hf : ∀ k, k < x.heap.size → Free W gh n H k → ¬ R k → Free W gh' n' H' k) (hR : ∀ j, j < np → ∀ k, (P j).N k → ¬ R k) (hg : ∀ k, gp = some k → ¬ R k) : PS KIs Iv y W gh' n' H' gp np cp P := by
  have no : ∀ k, Free W gh n H k → ¬ R k → ¬ (k = W ∨ gh = some k ∨ R k) := fun k f r t => by
    rcases t with t | t | t
    · exact f.1 t
    · exact f.2.1 t
    · exact r t
  refine ⟨h.own.touch ht (fun k e => no k (h.frg k e) (hg k e)), fun j hj => ?_, fun j hj => (h.pl j hj).touch HKS ht (fun k hk => no k (h.fr j hj k hk).1 (hR j hj k hk)), fun j hj k hk => Nat.lt_of_lt_of_le (h.lt j hj k hk) ht.size, fun j hj k hk => ⟨hf k (h.lt j hj k hk) (h.fr j hj k hk).1 (hR j hj k hk), (h.fr j hj k hk).2⟩, fun k e => hf k (h.own.lt e) (h.frg k e) (hg k e), h.iv⟩
  obtain ⟨g, e, c⟩ := h.ptr j hj
  exact ⟨g, e, ht.cell c (no g (h.frg g e) (hg g e))⟩

/-- Another player stands in the i-th place. -/
theorem again_set {KIs : KeeperIs} {Iv : LK → Prop} (HKS : KeepsSaid KIs) {Y Z : World} {W n np cp cap1 p i gP : Nat} {gh1 : Option Nat} {H1 : Nat → HG} {P : Nat → PG} {N : Nat → Prop} {lead : Bool} {sn : LK}
    (hw : WI Y W (sl (some gP) np cp) lead gh1 n cap1 H1) (hp : PS KIs Iv Y W gh1 n H1 (some gP) np cp P) (hi : i < np) (hpl : Player KIs Y p N sn) (hN : ∀ k, N k → k < Y.heap.size ∧ Free W gh1 n H1 k ∧ (some gP : Option Nat) ≠ some k) (hiv : Iv sn) (hZ : Z = Y.setCell ⟨gP, i, none⟩ (.pointer (some ⟨p, 0, none⟩))) :
    WI Z W (sl (some gP) np cp) lead gh1 n cap1 H1 ∧ PS KIs Iv Z W gh1 n H1 (some gP) np cp (fun j => if j = i then ⟨p, N, sn⟩ else P j) := by
  have t : Touch (fun k => (some gP : Option Nat) = some k) Y Z := by rw [hZ]; exact (Touch.refl (fun k => (some gP : Option Nat) = some k) Y).setCell (p := ⟨gP, i, none⟩) (fun _ => rfl) _
  refine ⟨hw.touchFree t hp.frg, ?_⟩
  refine ⟨?_, fun j hj => ⟨gP, rfl, ?_⟩, fun j hj => ?_, fun j hj k hk => ?_, fun j hj k hk => ?_, hp.frg, fun j hj => ?_⟩
  · rcases hp.own with ⟨h, _⟩ | ⟨g', cur, h, hh, q1, q2⟩
    · cases h
    · cases h
      rw [hZ]
      exact .inr ⟨gP, _, rfl, heap_setCell hh i _, by simpa using q1, q2⟩
  · by_cases e : j = i
    · subst e
      rw [if_pos rfl, hZ]
      rcases hp.own with ⟨h, _⟩ | ⟨g', cur, h, hh, q1, q2, _⟩
      · cases h
      · cases h
        rw [cell_of_heap (heap_setCell hh j _)]
        rw [Array.getElem?_setIfInBounds_self_of_lt (by omega)]
    · rw [if_neg e, hZ]
      obtain ⟨g', e1, c⟩ := hp.ptr j hj
      cases e1
      rw [cell_set_ne _ (.inr (fun h => e h.symm))]; exact c
  · by_cases e : j = i
    · subst e; simp only [if_true]; exact hpl.touch HKS t (fun k hk e => (hN k hk).2.2 e)
    · simp only [if_neg e]; exact (hp.pl j hj).touch HKS t (fun k hk e => (hp.fr j hj k hk).2 e)
  · by_cases e : j = i
    · subst e; simp only [if_true] at hk; have := (hN k hk).1; have := t.size; omega
    · simp only [if_neg e] at hk; have := hp.lt j hj k hk; have := t.size; omega
  · by_cases e : j = i
    · subst e; simp only [if_true] at hk; exact ⟨(hN k hk).2.1, (hN k hk).2.2⟩
    · simp only [if_neg e] at hk; exact hp.fr j hj k hk
  · by_cases e : j = i
    · subst e; simp only [if_true]; exact hiv
    · simp only [if_neg e]; exact hp.iv j hj

set_option maxRecDepth 100000 in
set_option maxHeartbeats 4000000 in
theorem madeAgain_some (KIs : KeeperIs) (Iv : LK → Prop) (lead : Bool) (HOS : OpenSaid KIs) (HKS : KeepsSaid KIs) (HDS : DiskSaid KIs) (HIK : ∀ s, Iv s → s.ok) (HIV : ∀ s keep, Iv s → Iv (LK.opened s.kp s.me s.pa ((s.image keep).take (readD (s.image keep)).2) (readD (s.image keep)).1)) (x : World) (W : Nat) (gh : Option Nat) (n cap : Nat) (H : Nat → HG) (gp : Option Nat) (np cp : Nat) (P : Nat → PG) (hw : WI x W (sl gp np cp) lead gh n cap H) (hps : PS KIs Iv x W gh n H gp np cp P) (h0 : 0 < np) (h6 : np ≤ 6) (hn : n ≤ 90000000)
    (o : OpG) (hk : o.kind = 7) (hr : -9223372036854775808 ≤ o.n ∧ o.n ≤ 9223372036854775807) :
    Calls Tryz.prog 53 #[.pointer (some ⟨W, 0, none⟩), .agg o.cells] x fun e y => e = .returned (.bool true) ∧ LawAt KIs Iv x W lead (n + 8) gh gp y := by
  have HWI := hid hw
  have HPS := hid hps
  have w0 := cell_of_heap hw.wb 0
  simp only [List.getElem?_toArray, List.getElem?_cons_zero] at w0
  unfold sl at w0
  have hWl : W < x.heap.size := heap_lt hw.wb
  clear hw hps
  unfold OpG.cells sla
  obtain ⟨okind, on, l, f, fa, fc, k1, k2, k3, oa⟩ := o
  dsimp only at *
  subst hk
  have hz : ((np : Int) == 0) = false := beq_eq_false_iff_ne.2 (by omega)
  go_enter Tryz.func53, Tryz.ntmps53
  go_wp2
  generalize hY : x.alloc (.cells #[.int .i64 7, .int .i64 on, .string ⟨l.toArray⟩, .int .i64 f.kind, .int .i64 f.frm, .int .i64 f.view, .int .i64 f.place, .int .i64 f.agreed, .int .i64 f.last, .int .i64 f.line.c, .int .i64 f.line.t, .string ⟨f.line.s.toArray⟩, .slice fa f.lines.length fc, .int .i64 k1, .int .i64 k2, .int .i64 k3, .int .i64 oa] 76) = Y
  have y1 : Y.cell? ⟨x.heap.size, 1, none⟩ = some (.int .i64 on) := by rw [← hY]; exact World.cell?_alloc_new _ _ _ _
  have y16 : Y.cell? ⟨x.heap.size, 16, none⟩ = some (.int .i64 oa) := by rw [← hY]; exact World.cell?_alloc_new _ _ _ _
  have BY : Hid (Below x.heap.size x Y) := by show Below _ _ _; rw [← hY]; exact (Below.refl _ _).alloc (Nat.le_refl _) _
  have hxl : x.heap.size < Y.heap.size := by rw [← hY]; simp
  have WY := hid (HWI.out.below BY.out)
  have PY := hid (HPS.out.below HKS BY.out)
  clear hY w0
  have v0 := cell_of_heap WY.out.wb 0
  simp only [List.getElem?_toArray, List.getElem?_cons_zero] at v0
  unfold sl at v0
  go_still_tail 7, (by kernel_rfl)
  go_wp2_with fail
  refine (pick_any on np _ h0 (by omega) hr).mono ?_
  rintro e w1 ⟨rfl, hw1⟩
  rw [hw1]
  clear hw1 w1
  have hi := pickN_lt on h0
  generalize pickN on np = i at hi ⊢
  obtain ⟨Y2, hY2⟩ : ∃ Y2 : World, Y2 = Y.drew := ⟨_, rfl⟩
  have bY2 : Below Y.heap.size Y Y2 := by rw [hY2]; exact (Below.refl _ _).drew
  have hs2 : Y2.heap.size = Y.heap.size := by rw [hY2]; rfl
  have z16 : Y2.cell? ⟨x.heap.size, 16, none⟩ = some (.int .i64 oa) := by rw [hY2]; exact y16
  have z0 : Y2.cell? ⟨W, 0, none⟩ = some (.slice (gp.map fun g => ⟨g, 0, none⟩) np cp) := by rw [hY2]; exact v0
  rw [← hY2]
  have W2 := hid (WY.out.below bY2)
  have P2 := hid (PY.out.below HKS bY2)
  have B2 := hid (BY.out.trans (bY2.mono BY.out.size))
  clear hY2 bY2 y1 y16 v0 WY PY BY
  obtain ⟨gP, hgP, cP⟩ := P2.out.ptr i hi
  obtain ⟨K, F, Kr, G, q1, q2, q3, q5⟩ := P2.out.pl i hi
  have hiv := P2.out.iv i hi
  have p0 := cell_of_heap q1 0
  have p1 := cell_of_heap q1 1
  simp only [List.getElem?_toArray, List.getElem?_cons_zero, List.getElem?_cons_succ] at p0 p1
  generalize hPi : P i = pi at *
  obtain ⟨pp, pN, ps⟩ := pi
  dsimp only at *
  subst hgP
  have i0 : (0 : Int) ≤ (i : Int) := by omega
  have i1 : (i : Int) < (np : Int) := by omega
  simp only [Option.map_some] at z0 ⊢
  go_wp2
  go_still_tail 6, (by kernel_rfl)
  go_wp2_with fail
  have hok := HIK ps hiv
  have HNI := hid (HIV ps oa hiv)
  have hcf : ConfOk ps.kp ps.me ps.pa := hok.2.1
  have hdl : (ps.image oa).length ≤ 9900000 := Nat.le_trans (LK.image_len ps oa) hok.1
  refine (HDS Y2.drew K F ps oa (HKS _ _ _ _ _ _ q2 ((Touch.refl (fun _ => False) Y2).drew) (fun _ _ h => h)) hok).mono ?_
  generalize hpd : ps.image oa = pd at *
  have hokl := hok.1
  clear hok
  rintro e Y3 ⟨gb, cb, rfl, hob, hb3⟩
  have b23 : Below Y2.heap.size Y2 Y3 := (Below.refl _ Y2).drew.trans hb3
  have W3 := hid (W2.out.below b23)
  have P3 := hid (P2.out.below HKS b23)
  have B3 := hid (B2.out.trans (b23.mono B2.out.size))
  have HOB := hid hob
  have hsz : Y2.heap.size ≤ Y3.heap.size := b23.size
  have Q1 := hid ((b23.block _ (heap_lt q1)).trans q1)
  have Q3 := hid (q3.below b23)
  have z16' : Y3.cell? ⟨x.heap.size, 16, none⟩ = some (.int .i64 oa) := (b23.cell (World.block_lt_of_cell? _ _ z16)).trans z16
  have HGB : Hid (∀ k, gb = some k → Y2.heap.size ≤ k) := hob.new
  clear hob hb3 b23 p0 p1 z0 z16 cP q1 q2 q3 q5
  have p0 := cell_of_heap Q1.out 0
  have p1 := cell_of_heap Q1.out 1
  simp only [List.getElem?_toArray, List.getElem?_cons_zero, List.getElem?_cons_succ] at p0 p1
  unfold sl
  go_wp2
  go_still_tail 6, (by kernel_rfl)
  go_wp2_with fail
  refine (refImage_any Kr G ps _ oa (Q3.out.below ((Below.refl _ _).drew)) hokl).mono ?_
  rw [hpd]
  rintro e Y4 ⟨rfl, hb4⟩
  have b34 : Below Y3.heap.size Y3 Y4 := (Below.refl _ Y3).drew.trans hb4
  have hs4 : Y3.heap.size ≤ Y4.heap.size := b34.size
  clear hb4
  have W4 := hid (W3.out.below b34)
  have P4 := hid (P3.out.below HKS b34)
  have B4 := hid (B3.out.trans (b34.mono B3.out.size))
  have HOB4 := hid (HOB.out.below b34)
  have Q14 := hid ((b34.block _ (heap_lt Q1.out)).trans Q1.out)
  have Q34 := hid (Q3.out.below b34)
  clear b34 p0 p1 z16'
  have p1 := cell_of_heap Q14.out 1
  simp only [List.getElem?_toArray, List.getElem?_cons_zero, List.getElem?_cons_succ] at p1
  obtain ⟨r0, r1, r2⟩ := Q34.out.conf
  have hcv := conv_bytes gb cb pd Y4 HOB4.out.at_
  go_wp2_with fail
  refine (opened_yes KIs HOS HKS Y4 W (sl (some gP) np cp) lead gh n cap H W4.out (by omega) ps.kp ps.me ps.pa pd hdl hcf).mono ?_
  rintro e Y5 ⟨p', N', rfl, hpl, hN, hst⟩
  obtain ⟨⟨gh1, cap1, H1, W1, g1, f1, fN⟩, t1⟩ := hst
  have HGX : Hid (∀ k, gh = some k → k < x.heap.size) := fun k e => HWI.out.ow.lt e
  have HPX : Hid (∀ k, (some gP : Option Nat) = some k → k < x.heap.size) := fun k e => HPS.out.own.lt e
  have hx2 : x.heap.size ≤ Y2.heap.size := B2.out.size
  have h45 : Y4.heap.size ≤ Y5.heap.size := t1.size
  have HGBlt : Hid (∀ k, gb = some k → k < Y4.heap.size) := fun k e => HOB4.out.own.lt e
  have RB5 : Hid (OwnRow Y5 5 1 gb pd.length cb) := HOB4.out.own.touch t1 (fun k e t => by
    have := HGB.out k e
    rcases t with t | t
    · omega
    · have := HGX.out k t; omega)
  have FB5 : Hid (∀ k, gb = some k → Free W gh1 (n + 4) H1 k) := fun k e => f1 k (HGBlt.out k e) (HWI.out.free_new (by have := HGB.out k e; omega))
  have P5 := hid (P4.out.stays HKS t1 f1)
  have HW1 := hid W1
  have HPL := hid hpl
  have HN := hid hN
  have HFN := hid fN
  have HG1 := hid g1
  have HT1 := hid t1
  have v0 := cell_of_heap W1.wb 0
  simp only [List.getElem?_toArray, List.getElem?_cons_zero] at v0
  unfold sl at v0
  simp only [Option.map_some] at v0
  obtain ⟨gP', hgP', cP⟩ := P5.out.ptr i hi
  cases hgP'
  have fP : ∀ j, Y5.frozen? ⟨gP, j, none⟩ = false := fun j => by
    rcases P5.out.own with ⟨h, _⟩ | ⟨g', cur, h, hh, _⟩
    · cases h
    · cases h; exact frozen_of_heap hh j
  rw [hPi] at cP
  clear W1 g1 f1 fN t1 hpl hN r0 r1 r2 p1 hcv
  dsimp only at cP
  obtain ⟨Y6, hY6⟩ : ∃ Y6 : World, Y6 = Y5.setCell ⟨gP, i, none⟩ (.pointer (some ⟨p', 0, none⟩)) := ⟨_, rfl⟩
  have A6 := hid (again_set HKS HW1.out P5.out hi HPL.out (fun k e => ⟨(HN.out k e).2, HFN.out k e, fun e2 => by have := HPX.out k e2; have := (HN.out k e).1; omega⟩) HNI.out hY6)
  have T6 : Hid (Touch (fun k => (some gP : Option Nat) = some k) Y5 Y6) := by show Touch _ _ _; rw [hY6]; exact (Touch.refl (fun k => (some gP : Option Nat) = some k) Y5).setCell (p := ⟨gP, i, none⟩) (fun _ => rfl) _
  have RB6 : Hid (OwnRow Y6 5 1 gb pd.length cb) := RB5.out.touch T6.out (fun k e t => by have := HGB.out k e; have := HPX.out k t; omega)
  have HY6 := hid hY6
  have h56 : Y5.heap.size ≤ Y6.heap.size := T6.out.size
  clear hY6
  have hsz6 : Y6.heap.size = Y5.heap.size := by rw [HY6.out]; exact size_setCell _ _ _
  have HNB : Hid (∀ k, gb = some k → Y2.heap.size ≤ k ∧ k < Y4.heap.size) := fun k e => ⟨HGB.out k e, HGBlt.out k e⟩
  have HNO : Hid (∀ j, j < np → ∀ k, ((fun j => if j = i then (⟨p', N', LK.opened ps.kp ps.me ps.pa (pd.take (readD pd).2) (readD pd).1⟩ : PG) else P j) j).N k → ¬ gb = some k) := fun j hj k hk e => by
    have h1 := HNB.out k e
    by_cases ej : j = i
    · simp only [if_pos ej] at hk; have := (HN.out k hk).1; omega
    · simp only [if_neg ej] at hk; have := HPS.out.lt j hj k hk; omega
  go_wp2_with fail
  rw [← HY6.out, ← hsz6]
  refine (keep_hold Y6 W (sl (some gP) np cp) lead gh1 (n + 4) cap1 H1 A6.out.1 gb none none pd.length cb 0 0 0 0 RB6.out (.inl ⟨rfl, rfl, rfl⟩) (.inl ⟨rfl, rfl, rfl⟩) (fun g _ e => by cases e) (fun g _ e => by cases e) (fun g e => by cases e)
    (fun k' e => FB5.out k' (by rcases e with e | e | e; exact e; cases e; cases e)) (by omega) (by omega) (by omega) (by omega)).mono ?_
  rintro e Y7 ⟨rfl, K1⟩
  obtain ⟨⟨gh2, cap2, H2, W7, gg2, f2⟩, t2⟩ := K1
  have nR : ∀ k, ¬ gb = some k → ¬ (gb = some k ∨ (none : Option Nat) = some k ∨ (none : Option Nat) = some k) := fun k h t => by
    rcases t with t | t | t
    · exact h t
    · cases t
    · cases t
  have LA : Hid (LawAt KIs Iv x W lead (n + 8) gh (some gP) Y7) := by
    refine ⟨⟨gh2, cap2, H2, some gP, np, cp, _, W7, A6.out.2.move HKS t2 f2 (fun j hj k hk => nR k (HNO.out j hj k hk)) (fun k e => nR k (fun e2 => by have := HPX.out k e; have := (HNB.out k e2).1; omega)), h6, fun k e => ?_, fun k e => .inl e⟩, ?_⟩
    · rcases gg2 k e with e | e
      · rcases HG1.out k e with e | e
        · exact .inl e
        · exact .inr (by omega)
      · exact .inr (by omega)
    · refine (((Touch.of_belowAll B4.out _).trans HT1.out (fun k hk e => ?_)).trans T6.out (fun k hk e => .inr (.inr e))).trans t2 (fun k hk e => ?_)
      · rcases e with e | e
        · exact .inl e
        · exact .inr (.inl e)
      · rcases e with e | e | e | e | e
        · exact .inl e
        · rcases HG1.out k e with e | e
          · exact .inr (.inl e)
          · omega
        · have := (HNB.out k e).1; omega
        · cases e
        · cases e
  clear W7 gg2 f2 t2 nR
  go_wp2
  go_ret
  exact ⟨rfl, LA.out⟩

end Go.Proofs.YtolififimldmlaaGreat

set_option linter.unusedVariables false
set_option linter.unusedSimpArgs false
namespace Go.Proofs.YtolififimldmlaaGreat
open Go.RowKit
attribute [local go_sem ↓] Go.wp_at_zero Go.wp_at_succ

/-- Stepped, from a world with one box more. -/
theorem Stepped.box {x : World} {W : Nat} {psv : Value} {lead : Bool} {gh : Option Nat} {n m : Nat} {y : World} {o : Obj} (h : Stepped (x.alloc o) W psv lead gh n m y) : Stepped x W psv lead gh n m y := by
  obtain ⟨⟨gh', cap', H', a, b⟩, t⟩ := h
  refine ⟨⟨gh', cap', H', a, fun k e => ?_⟩, ((Touch.refl _ x).alloc o).trans t (fun _ _ e => e)⟩
  rcases b k e with e | e
  · exact .inl e
  · rw [World.size_alloc] at e; exact .inr (by omega)

set_option maxRecDepth 100000 in
set_option maxHeartbeats 1000000 in
theorem stepF (HPS : PackSaid) (HUS : UnpackSaid) (x : World) (W : Nat) (psv : Value) (lead : Bool) (gh : Option Nat) (n cap : Nat) (H : Nat → HG) (hw : WI x W psv lead gh n cap H) (hn : n ≤ 90000000)
    (o : OpG) (hk : o.kind = 1 ∨ o.kind = 2) (hsl : o.s.length ≤ 9000000) (hl : LinesAt x o.fa o.f.lines) (hfl : o.f.lines.length ≤ 10000000) (hfc : o.f.lines.length ≤ o.fc) :
    Calls Tryz.prog 30 #[.pointer (some ⟨W, 0, none⟩), .agg o.cells] x fun e y => e = .returned (.bool true) ∧ Stepped x W psv lead gh n 8 y := by
  have HP := hid (packed_any HPS (x.alloc (.cells o.cells 76)) W psv lead gh n cap H (hw.alloc _) hn o.f o.fa o.fc (hl.alloc _) hfl hfc)
  have HU := hid (unpacked_any HUS (x.alloc (.cells o.cells 76)) W psv lead gh n cap H (hw.alloc _) hn o hsl)
  clear hw hl
  unfold Fr.val at HP
  unfold OpG.cells sla at *
  obtain ⟨okind, on, l, f, fa, fc, c1, c2, c3, oa⟩ := o
  dsimp only at *
  rcases hk with rfl | rfl
  · go_enter Tryz.func30, Tryz.ntmps30
    go_wp2_with fail
    refine HP.out.mono ?_
    rintro e y ⟨rfl, hs⟩
    go_wp2
    go_ret
    exact ⟨rfl, hs.box⟩
  · go_enter Tryz.func30, Tryz.ntmps30
    go_wp2_with fail
    refine HU.out.mono ?_
    rintro e y ⟨rfl, hs⟩
    go_wp2
    go_ret
    exact ⟨rfl, hs.box⟩

end Go.Proofs.YtolififimldmlaaGreat

set_option linter.unusedVariables false
set_option linter.unusedSimpArgs false
namespace Go.Proofs.YtolififimldmlaaGreat
open Go.RowKit
attribute [local go_sem ↓] Go.wp_at_zero Go.wp_at_succ

/-- What the program's State must do. -/
def StateSaid (KIs : KeeperIs) : Prop := ∀ (w : World) (K : Nat) (F : Nat → Prop) (s : LK), KIs w K F s → s.ok →
  Calls Tryz.prog 26 #[.pointer (some ⟨K, 0, none⟩)] w fun e w' => e = .returned s.stateV ∧ Below w.heap.size w w'
/-- What the program's Agreed must do. -/
def AgreedSaid (KIs : KeeperIs) : Prop := ∀ (w : World) (K : Nat) (F : Nat → Prop) (s : LK), KIs w K F s → s.ok →
  Calls Tryz.prog 24 #[.pointer (some ⟨K, 0, none⟩)] w fun e w' => ∃ g c, e = .returned (sl g (s.mv.ls.take s.av).length c) ∧ OwnLines w w' g c (s.mv.ls.take s.av) ∧ Below w.heap.size w w'

theorem LawAt.box {KIs : KeeperIs} {Iv : LK → Prop} {x y : World} {W : Nat} {lead : Bool} {gh gp : Option Nat} {n : Nat} {o : Obj} (h : LawAt KIs Iv (x.alloc o) W lead n gh gp y) : LawAt KIs Iv x W lead n gh gp y := by
  obtain ⟨⟨gh', cap', H', gp', np, cp, P, a, b, c, d, e⟩, t⟩ := h
  refine ⟨⟨gh', cap', H', gp', np, cp, P, a, b, c, fun k hk => ?_, fun k hk => ?_⟩, ((Touch.refl _ x).alloc o).trans t (fun _ _ e => e)⟩
  · rcases d k hk with d | d
    · exact .inl d
    · rw [World.size_alloc] at d; exact .inr (by omega)
  · rcases e k hk with d | d
    · exact .inl d
    · rw [World.size_alloc] at d; exact .inr (by omega)

set_option maxRecDepth 100000 in
set_option maxHeartbeats 1000000 in
theorem stepMade (KIs : KeeperIs) (Iv : LK → Prop) (lead : Bool) (m : Nat) (x : World) (W : Nat) (gh gp : Option Nat) (n : Nat) (o : OpG) (hk : o.kind = 3 ∨ o.kind = 7)
    (HM : Calls Tryz.prog 53 #[.pointer (some ⟨W, 0, none⟩), .agg o.cells] (x.alloc (.cells o.cells 76)) fun e y => e = .returned (.bool true) ∧ LawAt KIs Iv (x.alloc (.cells o.cells 76)) W lead m gh gp y) :
    Calls Tryz.prog 30 #[.pointer (some ⟨W, 0, none⟩), .agg o.cells] x fun e y => e = .returned (.bool true) ∧ LawAt KIs Iv x W lead m gh gp y := by
  have HM := hid HM
  unfold OpG.cells sla at *
  obtain ⟨okind, on, l, f, fa, fc, c1, c2, c3, oa⟩ := o
  dsimp only at *
  rcases hk with rfl | rfl
  all_goals
    go_enter Tryz.func30, Tryz.ntmps30
    go_wp2_with fail
    refine HM.out.mono ?_
    rintro e y ⟨rfl, hs⟩
    go_wp2
    go_ret
    exact ⟨rfl, hs.box⟩

set_option maxRecDepth 100000 in
set_option maxHeartbeats 4000000 in
theorem stepNone (KIs : KeeperIs) (Iv : LK → Prop) (lead : Bool) (HKS : KeepsSaid KIs) (x : World) (W : Nat) (gh : Option Nat) (n cap : Nat) (H : Nat → HG) (gp : Option Nat) (cp : Nat) (P : Nat → PG) (hw : WI x W (sl gp 0 cp) lead gh n cap H) (hps : PS KIs Iv x W gh n H gp 0 cp P)
    (o : OpG) (hk : 3 < o.kind) (hk7 : o.kind ≠ 7) :
    Calls Tryz.prog 30 #[.pointer (some ⟨W, 0, none⟩), .agg o.cells] x fun e y => e = .returned (.bool true) ∧ LawAt KIs Iv x W lead n gh gp y := by
  have HWI := hid hw
  have HPS := hid hps
  have w0 := cell_of_heap hw.wb 0
  simp only [List.getElem?_toArray, List.getElem?_cons_zero] at w0
  unfold sl at w0
  have hWl : W < x.heap.size := heap_lt hw.wb
  clear hw hps
  unfold OpG.cells sla
  obtain ⟨okind, on, l, f, fa, fc, k1, k2, k3, oa⟩ := o
  dsimp only at *
  have n1 : (okind == 1) = false := beq_eq_false_iff_ne.2 (by omega)
  have n2 : (okind == 2) = false := beq_eq_false_iff_ne.2 (by omega)
  have n3 : (okind == 3) = false := beq_eq_false_iff_ne.2 (by omega)
  have n7 : (okind == 7) = false := beq_eq_false_iff_ne.2 (by omega)
  go_enter Tryz.func30, Tryz.ntmps30
  go_wp2
  go_ret
  exact ⟨rfl, LawAt.still HKS HWI.out HPS.out (by omega) ((Below.refl _ _).alloc (Nat.le_refl _) _)⟩

end Go.Proofs.YtolififimldmlaaGreat
