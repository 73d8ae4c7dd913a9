import Derived.Test.YtolififimldmlaaGreatPart33
import Derived.Test.YtolififimldmlaaGreatPart35
import Derived.StillTailTactics
set_option linter.unusedVariables false
set_option linter.unusedSimpArgs false
namespace Go.Proofs.YtolififimldmlaaGreat
open Go.RowKit
attribute [local go_sem ↓] Go.wp_at_zero Go.wp_at_succ

theorem Tryz.info118 : (Tryz.prog.info? 118).map (fun i => (i.zero, i.size, i.bytes)) = some (some (.pointer none), 1, 8) := by kernel_rfl

theorem WI.touchFree {x y : World} {W : Nat} {psv : Value} {lead : Bool} {gh : Option Nat} {n cap : Nat} {H : Nat → HG} {gp : Option Nat} (h : WI x W psv lead gh n cap H) (ht : Touch (fun k => gp = some k) x y) (hf : ∀ k, gp = some k → Free W gh n H k) : WI y W psv lead gh n cap H :=
  h.touch ht (fun e => (hf W e).1 rfl) (fun k e e2 => (hf k e2).2.1 e) (fun j hj k i hft => World.cell?_of_block (ht.block k ((h.is j hj).foot_lt hft) (fun e => (hf k e).2.2 j hj i hft)))

/-- The law's world, with its players, behind a step. -/
structure LawAt (KIs : KeeperIs) (Iv : LK → Prop) (x : World) (W : Nat) (lead : Bool) (n : Nat) (gh gp : Option Nat) (y : World) : Prop where
  ex : ∃ gh' cap' H' gp' np cp P, WI y W (sl gp' np cp) lead gh' n cap' H' ∧ PS KIs Iv y W gh' n H' gp' np cp P ∧ np ≤ 6 ∧ (∀ k, gh' = some k → gh = some k ∨ x.heap.size ≤ k) ∧ (∀ k, gp' = some k → gp = some k ∨ x.heap.size ≤ k)
  tch : Touch (fun k => k = W ∨ gh = some k ∨ gp = some k) x y

theorem LawAt.same {KIs : KeeperIs} {Iv : LK → Prop} (HKS : KeepsSaid KIs) {x z y : World} {W : Nat} {lead : Bool} {gh gp : Option Nat} {n m : Nat} {H : Nat → HG} {np cp : Nat} {P : Nat → PG} {N : Nat → Prop} (hps : PS KIs Iv z W gh n H gp np cp P) (h6 : np ≤ 6) (hb : Below x.heap.size x z) (hs : Stays z W (sl gp np cp) lead gh n m H y N) : LawAt KIs Iv x W lead (n + m) gh gp y := by
  obtain ⟨⟨gh', cap', H', w1, g1, f1, _⟩, t⟩ := hs
  refine ⟨⟨gh', cap', H', gp, np, cp, P, w1, hps.stays HKS t f1, h6, fun k e => ?_, fun k e => .inl e⟩, (Touch.of_belowAll hb _).trans t (fun i _ e => ?_)⟩
  · rcases g1 k e with e | e
    · exact .inl e
    · exact .inr (Nat.le_trans hb.size e)
  · rcases e with e | e
    · exact .inl e
    · exact .inr (.inl e)

theorem LawAt.still {KIs : KeeperIs} {Iv : LK → Prop} (HKS : KeepsSaid KIs) {x y : World} {W : Nat} {lead : Bool} {gh gp : Option Nat} {n cap np cp : Nat} {H : Nat → HG} {P : Nat → PG} (hw : WI x W (sl gp np cp) lead gh n cap H) (hps : PS KIs Iv x W gh n H gp np cp P) (h6 : np ≤ 6) (hb : Below x.heap.size x y) : LawAt KIs Iv x W lead n gh gp y :=
  ⟨⟨gh, cap, H, gp, np, cp, P, hw.below hb, hps.below HKS hb, h6, fun _ e => .inl e, fun _ e => .inl e⟩, Touch.of_belowAll hb _⟩

theorem made_end {KIs : KeeperIs} {Iv : LK → Prop} (HKS : KeepsSaid KIs) {x Z Y w3 : World} {W n np cp cap1 p g2 c2 : Nat} {gh gh1 gp : Option Nat} {H1 : Nat → HG} {P : Nat → PG} {N : Nat → Prop} {lead : Bool} {sn : LK} {o : Obj}
    (hw : WI Y W (sl gp np cp) lead gh1 (n + 4) cap1 H1) (hp : PS KIs Iv Y W gh1 (n + 4) H1 gp np cp P) (hpl : Player KIs Y p N sn) (hN : ∀ k, N k → Z.heap.size ≤ k ∧ k < Y.heap.size) (hFN : ∀ k, N k → Free W gh1 (n + 4) H1 k)
    (hg : ∀ k, gh1 = some k → gh = some k ∨ Z.heap.size ≤ k) (ht : Touch (fun k => k = W ∨ gh = some k) Z Y) (hb : Below x.heap.size x Z) (Q : AppPost (Y.alloc o) w3 118 1 gp np 1 [.pointer (some ⟨p, 0, none⟩)] g2 c2) (h6 : np + 1 ≤ 6) (hiv : Iv sn) (hgp : ∀ k, gp = some k → k < x.heap.size) :
    LawAt KIs Iv x W lead (n + 4) gh gp (w3.setCell ⟨W, 0, none⟩ (.slice (some ⟨g2, 0, none⟩) (np + 1) c2)) := by
  have tY3 : Touch (fun k => gp = some k) Y w3 := ((Touch.refl (fun k => gp = some k) Y).alloc o).trans Q.touch (fun _ _ e => e)
  have w3w : WI w3 W (sl gp np cp) lead gh1 (n + 4) cap1 H1 := hw.touchFree tY3 hp.frg
  have t3 : Touch (fun k => k = W) w3 (w3.setCell ⟨W, 0, none⟩ (.slice (some ⟨g2, 0, none⟩) (np + 1) c2)) := (Touch.refl (fun k => k = W) w3).setCell (p := ⟨W, 0, none⟩) (fun _ => rfl) _
  have hxz := hb.size
  have hzy := ht.size
  have hg2 : gp = some g2 ∨ Y.heap.size ≤ g2 := by
    rcases Q.lies with e | e
    · exact .inl e
    · rw [World.size_alloc] at e; exact .inr (by omega)
  have fg2 : Free W gh1 (n + 4) H1 g2 := by
    rcases hg2 with e | e
    · exact hp.frg g2 e
    · exact hw.free_new e
  have ng2 : ∀ k, Free W gh1 (n + 4) H1 k → gp ≠ some k → k < Y.heap.size → (some g2 : Option Nat) ≠ some k := fun k _ h2 h3 e => by
    have e := Option.some.inj e
    subst e
    rcases hg2 with e | e
    · exact h2 e
    · omega
  refine ⟨⟨gh1, cap1, H1, some g2, np + 1, c2, fun j => if j = np then ⟨p, N, sn⟩ else P j, w3w.setPs _, ?_, h6, fun k e => ?_, fun k e => ?_⟩, ?_⟩
  · refine ⟨Q.own.touch t3 (fun k e e2 => ?_), fun j hj => ?_, fun j hj => ?_, fun j hj k hk => ?_, fun j hj k hk => ?_, fun k e => ?_, fun j hj => ?_⟩
    · have := Option.some.inj e; subst this; exact fg2.1 e2
    · refine ⟨g2, rfl, ?_⟩
      refine (World.cell?_of_block (t3.block g2 ?_ (fun e => fg2.1 e))).trans ?_
      · rcases Q.own with ⟨h, _⟩ | ⟨g', cur, h, hh, _⟩
        · cases h
        · cases h; exact heap_lt hh
      · by_cases e : j = np
        · subst e
          rw [if_pos rfl]
          have := Q.new 0 (by omega)
          simpa using this
        · rw [if_neg e]
          obtain ⟨g, e1, c⟩ := hp.ptr j (by omega)
          rw [Q.old j (by omega) g e1, World.cell?_alloc_past _ _ _ (hp.own.lt e1)]; exact c
    · by_cases e : j = np
      · subst e
        simp only [if_true]
        exact (hpl.touch HKS tY3 (fun k hk e => by have := hgp k e; have := (hN k hk).1; omega)).touch HKS t3 (fun k hk e => (hFN k hk).1 e)
      · simp only [if_neg e]
        have hj' : j < np := by omega
        exact ((hp.pl j hj').touch HKS tY3 (fun k hk e => (hp.fr j hj' k hk).2 e)).touch HKS t3 (fun k hk e => (hp.fr j hj' k hk).1.1 e)
    · have h3 : Y.heap.size ≤ (w3.setCell ⟨W, 0, none⟩ (.slice (some ⟨g2, 0, none⟩) (np + 1) c2)).heap.size := Nat.le_trans tY3.size t3.size
      by_cases e : j = np
      · subst e; simp only [if_true] at hk; have := (hN k hk).2; omega
      · simp only [if_neg e] at hk; have := hp.lt j (by omega) k hk; omega
    · by_cases e : j = np
      · subst e
        simp only [if_true] at hk
        have h1 := hN k hk
        exact ⟨hFN k hk, ng2 k (hFN k hk) (fun e => by have := hgp k e; omega) h1.2⟩
      · simp only [if_neg e] at hk
        have hj' : j < np := by omega
        exact ⟨(hp.fr j hj' k hk).1, ng2 k (hp.fr j hj' k hk).1 (hp.fr j hj' k hk).2 (hp.lt j hj' k hk)⟩
    · have := Option.some.inj e; subst this; exact fg2
    · by_cases e : j = np
      · subst e; simp only [if_true]; exact hiv
      · simp only [if_neg e]; exact hp.iv j (by omega)
  · rcases hg k e with e | e
    · exact .inl e
    · exact .inr (by omega)
  · have := Option.some.inj e; subst this
    rcases hg2 with e | e
    · exact .inl e
    · exact .inr (by omega)
  · refine (((Touch.of_belowAll hb _).trans ht (fun i _ e => ?_)).trans tY3 (fun i _ e => .inr (.inr e))).trans t3 (fun i _ e => .inl e)
    rcases e with e | e
    · exact .inl e
    · exact .inr (.inl e)

set_option maxRecDepth 100000 in
set_option maxHeartbeats 4000000 in
theorem madeOpen_on (KIs : KeeperIs) (Iv : LK → Prop) (lead : Bool) (HOS : OpenSaid KIs) (HKS : KeepsSaid KIs) (HIV : ∀ kp me pa l, ConfOk kp me pa → l.length ≤ 9000000 → (lead = true → (readD l).1.view = 0) → Iv (LK.opened kp me pa (l.take (readD l).2) (readD l).1)) (x : World) (W : Nat) (gh : Option Nat) (n cap : Nat) (H : Nat → HG) (gp : Option Nat) (np cp : Nat) (P : Nat → PG) (hw : WI x W (sl gp np cp) lead gh n cap H) (hps : PS KIs Iv x W gh n H gp np cp P) (h6 : np ≤ 6) (hn : n ≤ 90000000)
    (o : OpG) (hk : o.kind = 3) (hsl : o.s.length ≤ 9000000) (hlv : lead = false ∨ (lead = true ∧ (readD o.s).1.view = 0)) :
    Calls Tryz.prog 53 #[.pointer (some ⟨W, 0, none⟩), .agg o.cells] x fun e y => e = .returned (.bool true) ∧ LawAt KIs Iv x W lead (n + 4) gh gp y := by
  have HWI := hid hw
  have HPS := hid hps
  clear hw hps
  unfold OpG.cells sla
  obtain ⟨okind, on, l, f, fa, fc, k1, k2, k3, oa⟩ := o
  dsimp only at *
  subst hk
  have HIV := hid HIV
  have hv0 : Hid (lead = true → (readD l).1.view = 0) := fun e => by
    rcases hlv with h | h
    · rw [h] at e; cases e
    · exact h.2
  rcases hlv with rfl | ⟨rfl, hv⟩
  all_goals
    try have hvz : (((readD l).1.view : Int) != 0) = false := by simp [hv]
    try clear hv
    have hWl : W < x.heap.size := heap_lt HWI.out.wb
    go_enter Tryz.func53, Tryz.ntmps53
    go_wp2_with fail
    refine (read_any l _ (by omega)).mono ?_
    rintro e X1 ⟨gm, cm, rfl, hol, hb1⟩
    rw [World.size_alloc] at hb1
    have HX1 : Hid (Below x.heap.size x X1) := ((Below.refl _ x).alloc (Nat.le_refl _) _).trans (hb1.mono (by omega))
    have HMV : Hid (∀ m : Mm, ∀ q, m.val (gm.map fun x => (⟨x, 0, none⟩ : Addr)) q = .agg #[.int .i64 m.view, .int .i64 m.last, .slice (gm.map fun x => ⟨x, 0, none⟩) m.ls.length q]) := fun m q => rfl
    rw [HMV.out]
    have hob := (hb1.block x.heap.size (by omega)).trans (heap_alloc_new x _)
    have s2 := cell_of_heap hob 2
    have s13 := cell_of_heap hob 13
    have s14 := cell_of_heap hob 14
    have s15 := cell_of_heap hob 15
    simp only [List.getElem?_toArray, List.getElem?_cons_zero, List.getElem?_cons_succ] at s2 s13 s14 s15
    have WX1 := hid (HWI.out.below HX1.out)
    have w0 := cell_of_heap WX1.out.wb 0
    have w2 := cell_of_heap WX1.out.wb 2
    simp only [List.getElem?_toArray, List.getElem?_cons_zero, List.getElem?_cons_succ] at w0 w2
    have hs1 : x.heap.size < X1.heap.size := heap_lt hob
    have hW1 : W < X1.heap.size := by omega
    clear hol hb1 hob
    unfold sl at w0
    obtain ⟨Z, hZ⟩ : ∃ Z : World, Z = X1.alloc (.cells #[.int .i64 (readD l).1.view, .int .i64 (readD l).1.last, .slice (gm.map fun x => ⟨x, 0, none⟩) (readD l).1.ls.length cm] 176) := ⟨_, rfl⟩
    have BZ : Hid (Below x.heap.size x Z) := by show Below _ _ _; rw [hZ]; exact HX1.out.alloc HX1.out.size _
    have WZ := hid (HWI.out.below BZ.out)
    have PZ := hid (HPS.out.below HKS BZ.out)
    have HZ := hid hZ
    clear hZ
    go_wp2_with fail
    rw [← HZ.out]
    by_cases hc : ConfOk k1 k2 k3
    · have HI := hid (HIV.out k1 k2 k3 l hc hsl (fun e => hv0.out e))
      refine (opened_yes KIs HOS HKS Z W (sl gp np cp) _ gh n cap H WZ.out (by omega) k1 k2 k3 l (by omega) hc).mono ?_
      rintro e Y ⟨p, N, rfl, hpl, hN, hst⟩
      have HL := hid (LawAt.same HKS PZ.out h6 BZ.out hst)
      obtain ⟨⟨gh1, cap1, H1, W1, g1, f1, fN⟩, t1⟩ := hst
      have HW1 := hid W1
      have HP1 := hid (PZ.out.stays HKS t1 f1)
      have HPL := hid hpl
      have HN := hid hN
      have HFN := hid fN
      have HG1 := hid g1
      have HT1 := hid t1
      have v0 := cell_of_heap W1.wb 0
      have fv : ∀ j, Y.frozen? ⟨W, j, none⟩ = false := fun j => frozen_of_heap W1.wb j
      simp only [List.getElem?_toArray, List.getElem?_cons_zero] at v0
      unfold sl at v0
      have hWY : W < Y.heap.size := heap_lt W1.wb
      have hzy : Z.heap.size ≤ Y.heap.size := t1.size
      have hxz : x.heap.size ≤ Z.heap.size := BZ.out.size
      clear W1 g1 f1 fN t1 hpl hN s2 s13 s14 s15 w0 w2
      by_cases hn6 : np = 6
      · have l6 : ¬ ((np : Int) < 6) := by omega
        go_wp2
        go_ret
        exact ⟨rfl, HL.out⟩
      · have l6 : (np : Int) < 6 := by omega
        obtain ⟨ip, hip, hip0, hip1, hip2⟩ := info_parts Tryz.info118
        have own1 : Hid (OwnRow (Y.alloc (.cells #[.pointer (some ⟨p, 0, none⟩)] 118)) 118 1 gp np cp) := HP1.out.own.alloc _
        go_wp2_with (at_builtin; refine wpList_app _ rfl (.tmp 57) (.tmp 59) 78 rfl 118 ip (.pointer none) 1 8 Tryz.underlying78 hip hip0 hip1 hip2 rfl gp np cp (by rfl) own1.out ⟨Y.heap.size, 0, none⟩ 1 1 [.pointer (some ⟨p, 0, none⟩)] rfl rfl ?c1 ?c2 (by omega) (by omega) (by omega) ?_)
        case c1 => exact World.news_of_block (heap_alloc_new Y _)
        case c2 => intro u hu; simp at hu; subst hu; rfl
        intro g2 c2 w3 Q
        have LA : Hid (LawAt KIs Iv x W _ (n + 4) gh gp (w3.setCell ⟨W, 0, none⟩ (.slice (some ⟨g2, 0, none⟩) (np + 1) c2))) := made_end HKS HW1.out HP1.out HPL.out HN.out HFN.out HG1.out HT1.out BZ.out Q (by omega) HI.out (fun k e => HPS.out.own.lt e)
        have hq0 : w3.cell? ⟨W, 0, none⟩ = some (.slice (gp.map fun g => ⟨g, 0, none⟩) np cp) := by
          rw [Q.keep W 0 (by simp; omega) (fun e => (HP1.out.frg W e.1).1 rfl), World.cell?_alloc_past _ _ _ hWY]; exact v0
        have hq1 : ∀ j, w3.frozen? ⟨W, j, none⟩ = false := fun j => by
          have h1 := Q.touch.heapAt (o := .cells #[sl gp np cp, sl gh1 (n + 4) cap1, .bool _] 81 (0, 0)) (alloc_keep1 HW1.out.wb) (fun e => (HP1.out.frg W e).1 rfl)
          exact frozen_of_heap h1 j
        clear Q v0 fv
        go_wp2
        go_ret
        exact ⟨rfl, LA.out⟩
    · refine (opened_no KIs HOS Z W (sl gp np cp) _ gh n cap H WZ.out (by omega) k1 k2 k3 l (by omega) hc).mono ?_
      rintro e Y ⟨rfl, hst⟩
      have HL := hid (LawAt.same HKS PZ.out h6 BZ.out hst)
      clear hst
      go_wp2
      go_ret
      exact ⟨rfl, HL.out⟩

set_option maxRecDepth 100000 in
set_option maxHeartbeats 4000000 in
theorem madeOpen_past (KIs : KeeperIs) (Iv : LK → Prop) (HKS : KeepsSaid KIs) (x : World) (W : Nat) (gh : Option Nat) (n cap : Nat) (H : Nat → HG) (gp : Option Nat) (np cp : Nat) (P : Nat → PG) (hw : WI x W (sl gp np cp) true gh n cap H) (hps : PS KIs Iv x W gh n H gp np cp P) (h6 : np ≤ 6)
    (o : OpG) (hk : o.kind = 3) (hsl : o.s.length ≤ 9000000) (hv : (readD o.s).1.view ≠ 0) :
    Calls Tryz.prog 53 #[.pointer (some ⟨W, 0, none⟩), .agg o.cells] x fun e y => e = .returned (.bool true) ∧ LawAt KIs Iv x W true n gh gp y := by
  have HWI := hid hw
  have HPS := hid hps
  clear hw hps
  unfold OpG.cells sla
  obtain ⟨okind, on, l, f, fa, fc, k1, k2, k3, oa⟩ := o
  dsimp only at *
  subst hk
  have hvz : (((readD l).1.view : Int) != 0) = true := by simp [hv]
  have hWl : W < x.heap.size := heap_lt HWI.out.wb
  go_enter Tryz.func53, Tryz.ntmps53
  go_wp2_with fail
  refine (read_any l _ (by omega)).mono ?_
  rintro e X1 ⟨gm, cm, rfl, hol, hb1⟩
  rw [World.size_alloc] at hb1
  have HX1 : Hid (Below x.heap.size x X1) := ((Below.refl _ x).alloc (Nat.le_refl _) _).trans (hb1.mono (by omega))
  have HMV : Hid (∀ m : Mm, ∀ q, m.val (gm.map fun x => (⟨x, 0, none⟩ : Addr)) q = .agg #[.int .i64 m.view, .int .i64 m.last, .slice (gm.map fun x => ⟨x, 0, none⟩) m.ls.length q]) := fun m q => rfl
  rw [HMV.out]
  have WX1 := hid (HWI.out.below HX1.out)
  have w2 := cell_of_heap WX1.out.wb 2
  simp only [List.getElem?_toArray, List.getElem?_cons_zero, List.getElem?_cons_succ] at w2
  have hs1 : x.heap.size ≤ X1.heap.size := HX1.out.size
  have hW1 : W < X1.heap.size := by omega
  clear hol hb1
  go_wp2
  go_ret
  exact ⟨rfl, LawAt.still HKS HWI.out HPS.out h6 (HX1.out.alloc HX1.out.size _)⟩

end Go.Proofs.YtolififimldmlaaGreat

set_option linter.unusedVariables false
set_option linter.unusedSimpArgs false
namespace Go.Proofs.YtolififimldmlaaGreat
open Go.RowKit
attribute [local go_sem ↓] Go.wp_at_zero Go.wp_at_succ

/-- What the program's Disk must do with a keeper. -/
def DiskSaid (KIs : KeeperIs) : Prop := ∀ (w : World) (K : Nat) (F : Nat → Prop) (s : LK) (keep : Int), KIs w K F s → s.ok →
  Calls Tryz.prog 28 #[.pointer (some ⟨K, 0, none⟩), .int .i64 keep] w fun e w' => ∃ g c, e = .returned (sl g (s.image keep).length c) ∧ OwnBytes w w' g c (s.image keep) ∧ Below w.heap.size w w'

set_option maxRecDepth 100000 in
set_option maxHeartbeats 4000000 in
theorem madeAgain_none (KIs : KeeperIs) (Iv : LK → Prop) (lead : Bool) (HKS : KeepsSaid KIs) (x : World) (W : Nat) (gh : Option Nat) (n cap : Nat) (H : Nat → HG) (gp : Option Nat) (cp : Nat) (P : Nat → PG) (hw : WI x W (sl gp 0 cp) lead gh n cap H) (hps : PS KIs Iv x W gh n H gp 0 cp P)
    (o : OpG) (hk : o.kind = 7) :
    Calls Tryz.prog 53 #[.pointer (some ⟨W, 0, none⟩), .agg o.cells] x fun e y => e = .returned (.bool true) ∧ LawAt KIs Iv x W lead n gh gp y := by
  have HWI := hid hw
  have HPS := hid hps
  have w0 := cell_of_heap hw.wb 0
  simp only [List.getElem?_toArray, List.getElem?_cons_zero] at w0
  unfold sl at w0
  have hWl : W < x.heap.size := heap_lt hw.wb
  clear hw hps
  unfold OpG.cells sla
  obtain ⟨okind, on, l, f, fa, fc, k1, k2, k3, oa⟩ := o
  dsimp only at *
  subst hk
  go_enter Tryz.func53, Tryz.ntmps53
  go_wp2
  go_ret
  exact ⟨rfl, LawAt.still HKS HWI.out HPS.out (by omega) ((Below.refl _ _).alloc (Nat.le_refl _) _)⟩

end Go.Proofs.YtolififimldmlaaGreat
