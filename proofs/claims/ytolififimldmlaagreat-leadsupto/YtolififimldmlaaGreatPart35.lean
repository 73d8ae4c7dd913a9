import Derived.Test.YtolififimldmlaaGreatPart34
import Derived.Test.YtolififimldmlaaGreatPart28
set_option linter.unusedVariables false
set_option linter.unusedSimpArgs false
set_option maxRecDepth 100000
set_option maxHeartbeats 16000000
namespace Go.Proofs.YtolififimldmlaaGreat
section
open Go.RowKit
attribute [local go_sem ↓] Go.wp_at_zero Go.wp_at_succ
section
variable (v:PV) (B:Nat) (w:World) (h:v.At w B)
include h
theorem hearSayNot (hk:v.kp=3∨v.kp=5) (hv:v.m.view=0) (hla:v.m.last=0) (hme:(0:Int)≠v.me) (l:Ln) :
    Calls Tryz.prog 81 #[.pointer (some ⟨B,0,none⟩),.agg #[.int .i64 l.c,.int .i64 l.t,.string ⟨l.s.toArray⟩]] w (OutsChg w B v v []):=by
  have IH:=hid (fun z (hz:Below w.heap.size w z)=>isHeadV v B z (h.below hz) (by rw [hv];decide) hk)
  have hb1:((v.m.last == v.m.view) && (v.m.view % v.kp == v.me))=false:=by
    rw [hv,hla,Int.zero_emod]
    have:((0:Int) == v.me)=false:=by rw [beq_eq_false_iff_ne];exact hme
    rw [this];rfl
  rw [hb1] at IH
  have HX:Hid (∀ y,Below w.heap.size w y→OutsChg w B v v [] (.returned (.slice none 0 0)) y):=fun y hy=>OutsChg.nil (Chg.same h hy)
  generalize OutsChg w B v v []=Q at *
  have HV:=hid h
  clear h hk hv hla hme hb1
  obtain ⟨lc,lt,ls⟩:=l
  dsimp only at *
  go_enter Tryz.func81,Tryz.ntmps81
  go_wp2_with fail
  refine (IH.out _ ((Below.refl _ _).alloc (Nat.le_refl _) _)).mono ?_
  rintro e X0 ⟨rfl,hb0⟩
  rw [World.size_alloc] at hb0
  have HB0:Hid (Below w.heap.size w X0):=((Below.refl _ _).alloc (Nat.le_refl _) _).trans (hb0.mono (by omega))
  clear hb0 IH
  go_wp2
  exact HX.out _ HB0.out
theorem hearSayTold (hk:v.kp=3∨v.kp=5) (hv:v.m.view=0) (hla:v.m.last=0) (hme:v.me=0) (h20:v.m.ls.length≤20) (hag:v.ag≤v.m.ls.length) (hok:linesOk v.m.ls=true) (l:Ln) (ht:l.t≤turnOf v.m.ls l.c) :
    Calls Tryz.prog 81 #[.pointer (some ⟨B,0,none⟩),.agg #[.int .i64 l.c,.int .i64 l.t,.string ⟨l.s.toArray⟩]] w (OutsChg w B v v (tellsN v.m l v.ag)):=by
  have IH:=hid (fun z (hz:Below w.heap.size w z)=>isHeadV v B z (h.below hz) (by rw [hv];decide) hk)
  have hb1:((v.m.last == v.m.view) && (v.m.view % v.kp == v.me))=true:=by
    rw [hv,hla,Int.zero_emod]
    rw [hme];rfl
  rw [hb1] at IH
  have LV:Hid (∀ z,Below w.heap.size w z→Calls Tryz.prog 83 #[.pointer (some ⟨B,0,none⟩)] z fun e w'=>e=.returned (sl v.gl v.m.ls.length v.cl)∧Below z.heap.size z w'):=fun z hz=>linesV v B z (h.below hz)
  have GV:Hid (∀ z,Below w.heap.size w z→Calls Tryz.prog 121 #[.slice (v.gl.map fun k=>⟨k,0,none⟩) v.m.ls.length v.cl,.int .i64 l.c] z fun e w'=>e=.returned (.int .i64 (turnOf v.m.ls l.c))∧Below z.heap.size z w'):=fun z hz=>greatest_any _ _ v.m.ls l.c z (h.below hz).lb (by omega)
  have TV:Hid (∀ z,Below w.heap.size w z→Calls Tryz.prog 122 #[.pointer (some ⟨B,0,none⟩),.agg #[.int .i64 l.c,.int .i64 l.t,.string ⟨l.s.toArray⟩]] z fun e y=>(∃ a n q,e=.returned (.slice a n q))∧OutsChg w B v v (tellsN v.m l v.ag) e y):=fun z hz=>(tellAgainV v B z (h.below hz) hag h20 hok l).mono (fun e y hh=>⟨(OutsRet.chg hh (h.below hz)).form,OutsChg.of (Chg.same h hz) (hh.chg (h.below hz))⟩)
  generalize OutsChg w B v v (tellsN v.m l v.ag)=Q at *
  have HV:=hid h
  clear h hk hv hla hme hb1 hok
  obtain ⟨lc,lt,ls⟩:=l
  dsimp only at *
  generalize hT:turnOf v.m.ls lc=T at *
  clear hT
  go_enter Tryz.func81,Tryz.ntmps81
  go_wp2_with fail
  refine (IH.out _ ((Below.refl _ _).alloc (Nat.le_refl _) _)).mono ?_
  rintro e X0 ⟨rfl,hb0⟩
  rw [World.size_alloc] at hb0
  have HB0:Hid (Below w.heap.size w X0):=((Below.refl _ _).alloc (Nat.le_refl _) _).trans (hb0.mono (by omega))
  have HL0:Hid (X0.heap[w.heap.size]?=some (.cells #[.int .i64 lc,.int .i64 lt,.string ⟨ls.toArray⟩] 27 (0,0))):=by show _=_;rw [hb0.block _ (by omega)];exact heap_alloc_new w _
  clear hb0 IH
  go_wp2
  refine wp_region_held_drew (S:=fun z:World=>z.heap[w.heap.size]?=some (.cells #[.int .i64 lc,.int .i64 lt,.string ⟨ls.toArray⟩] 27 (0,0))) (by kernel_rfl) HL0.out (fun hS=>?_)
  refine tH 0 hS ?_
  try simp only [lA,lB,lC,Act.put,lD,lE,lF]
  refine tH 2 hS ?_
  try simp only [lA,lB,lC,Act.put,lD,lE,lF]
  refine tH 4 hS ?_
  try simp only [lA,lB,lC,Act.put,lD,lE,lF]
  refine tH 1 hS ?_ (hy:=by (intro w hw;have s0:=cell_of_heap hw 0;have s1:=cell_of_heap hw 1;have s2:=cell_of_heap hw 2;simp only [List.getElem?_toArray,List.getElem?_cons_zero,List.getElem?_cons_succ] at s0 s1 s2;clear hw;go_simp;try with_reducible rfl))
  try simp only [lA,lB,lC,Act.put,lD,lE,lF]
  refine tH 5 hS ?_ (hy:=by (intro w hw;have s0:=cell_of_heap hw 0;have s1:=cell_of_heap hw 1;have s2:=cell_of_heap hw 2;simp only [List.getElem?_toArray,List.getElem?_cons_zero,List.getElem?_cons_succ] at s0 s1 s2;clear hw;go_simp;try with_reducible rfl))
  try simp only [lA,lB,lC,Act.put,lD,lE,lF]
  refine wpAnyH_ready (rs:=[3]) (by kernel_rfl) (by simp) ?_
  refine AllReadyH.cons rfl (fun K hK=>?_) AllReadyH.nil
  go_simp
  refine (LV.out _ HB0.out.drew).mono ?_
  rintro e X1 ⟨rfl,hbf⟩
  have HB1:=hid (HB0.out.drew.trans (hbf.mono HB0.out.size))
  have HL1:=hid ((hbf.block _ (heap_lt HL0.out)).trans HL0.out)
  clear hbf
  refine hK.out _ _ HL1.out (fun hS=>?_)
  clear hK K
  unfold sl
  refine wpAnyH_ready (rs:=[6]) (by kernel_rfl) (by simp) ?_
  refine AllReadyH.cons rfl (fun K hK=>?_) AllReadyH.nil
  go_simp
  refine (GV.out _ HB1.out).mono ?_
  rintro e X2 ⟨rfl,hbf⟩
  have HB2:=hid (HB1.out.trans (hbf.mono HB1.out.size))
  have HL2:=hid ((hbf.block _ (heap_lt HL1.out)).trans HL1.out)
  clear hbf
  refine hK.out _ _ HL2.out (fun hS=>?_)
  clear hK K
  refine tH 7 hS ?_
  try simp only [lA,lB,lC,Act.put,lD,lE,lF]
  refine tH 8 hS ?_
  try simp only [lA,lB,lC,Act.put,lD,lE,lF]
  refine wpAnyH_done (by kernel_rfl) ?_ _
  clear hS
  have s0:=cell_of_heap HL2.out 0
  have s1:=cell_of_heap HL2.out 1
  have s2:=cell_of_heap HL2.out 2
  simp only [List.getElem?_toArray,List.getElem?_cons_zero,List.getElem?_cons_succ] at s0 s1 s2
  go_wp2_with fail
  refine (TV.out _ HB2.out).mono ?_
  rintro e y ⟨⟨a9,n9,q9,rfl⟩,hq⟩
  have HQ:=hid hq
  clear hq
  go_wp2
  exact HQ.out
theorem hearSayFull (hk:v.kp=3∨v.kp=5) (hv:v.m.view=0) (hla:v.m.last=0) (hme:v.me=0) (h20:v.m.ls.length=20) (l:Ln) (ht:turnOf v.m.ls l.c < l.t) :
    Calls Tryz.prog 81 #[.pointer (some ⟨B,0,none⟩),.agg #[.int .i64 l.c,.int .i64 l.t,.string ⟨l.s.toArray⟩]] w (OutsChg w B v v []):=by
  have IH:=hid (fun z (hz:Below w.heap.size w z)=>isHeadV v B z (h.below hz) (by rw [hv];decide) hk)
  have hb1:((v.m.last == v.m.view) && (v.m.view % v.kp == v.me))=true:=by
    rw [hv,hla,Int.zero_emod]
    rw [hme];rfl
  rw [hb1] at IH
  have LV:Hid (∀ z,Below w.heap.size w z→Calls Tryz.prog 83 #[.pointer (some ⟨B,0,none⟩)] z fun e w'=>e=.returned (sl v.gl v.m.ls.length v.cl)∧Below z.heap.size z w'):=fun z hz=>linesV v B z (h.below hz)
  have GV:Hid (∀ z,Below w.heap.size w z→Calls Tryz.prog 121 #[.slice (v.gl.map fun k=>⟨k,0,none⟩) v.m.ls.length v.cl,.int .i64 l.c] z fun e w'=>e=.returned (.int .i64 (turnOf v.m.ls l.c))∧Below z.heap.size z w'):=fun z hz=>greatest_any _ _ v.m.ls l.c z (h.below hz).lb (by omega)
  have HX:Hid (∀ y,Below w.heap.size w y→OutsChg w B v v [] (.returned (.slice none 0 0)) y):=fun y hy=>OutsChg.nil (Chg.same h hy)
  generalize OutsChg w B v v []=Q at *
  have hlt:¬ (l.t≤turnOf v.m.ls l.c):=by omega
  rw [h20] at LV GV
  have HV:=hid h
  clear h hk hv hla hme hb1 h20 ht
  obtain ⟨lc,lt,ls⟩:=l
  dsimp only at *
  generalize hT:turnOf v.m.ls lc=T at *
  clear hT
  go_enter Tryz.func81,Tryz.ntmps81
  go_wp2_with fail
  refine (IH.out _ ((Below.refl _ _).alloc (Nat.le_refl _) _)).mono ?_
  rintro e X0 ⟨rfl,hb0⟩
  rw [World.size_alloc] at hb0
  have HB0:Hid (Below w.heap.size w X0):=((Below.refl _ _).alloc (Nat.le_refl _) _).trans (hb0.mono (by omega))
  have HL0:Hid (X0.heap[w.heap.size]?=some (.cells #[.int .i64 lc,.int .i64 lt,.string ⟨ls.toArray⟩] 27 (0,0))):=by show _=_;rw [hb0.block _ (by omega)];exact heap_alloc_new w _
  clear hb0 IH
  go_wp2
  refine wp_region_held_drew (S:=fun z:World=>z.heap[w.heap.size]?=some (.cells #[.int .i64 lc,.int .i64 lt,.string ⟨ls.toArray⟩] 27 (0,0))) (by kernel_rfl) HL0.out (fun hS=>?_)
  refine tH 0 hS ?_
  try simp only [lA,lB,lC,Act.put,lD,lE,lF]
  refine tH 2 hS ?_
  try simp only [lA,lB,lC,Act.put,lD,lE,lF]
  refine tH 4 hS ?_
  try simp only [lA,lB,lC,Act.put,lD,lE,lF]
  refine tH 1 hS ?_ (hy:=by (intro w hw;have s0:=cell_of_heap hw 0;have s1:=cell_of_heap hw 1;have s2:=cell_of_heap hw 2;simp only [List.getElem?_toArray,List.getElem?_cons_zero,List.getElem?_cons_succ] at s0 s1 s2;clear hw;go_simp;try with_reducible rfl))
  try simp only [lA,lB,lC,Act.put,lD,lE,lF]
  refine tH 5 hS ?_ (hy:=by (intro w hw;have s0:=cell_of_heap hw 0;have s1:=cell_of_heap hw 1;have s2:=cell_of_heap hw 2;simp only [List.getElem?_toArray,List.getElem?_cons_zero,List.getElem?_cons_succ] at s0 s1 s2;clear hw;go_simp;try with_reducible rfl))
  try simp only [lA,lB,lC,Act.put,lD,lE,lF]
  refine wpAnyH_ready (rs:=[3]) (by kernel_rfl) (by simp) ?_
  refine AllReadyH.cons rfl (fun K hK=>?_) AllReadyH.nil
  go_simp
  refine (LV.out _ HB0.out.drew).mono ?_
  rintro e X1 ⟨rfl,hbf⟩
  have HB1:=hid (HB0.out.drew.trans (hbf.mono HB0.out.size))
  have HL1:=hid ((hbf.block _ (heap_lt HL0.out)).trans HL0.out)
  clear hbf
  refine hK.out _ _ HL1.out (fun hS=>?_)
  clear hK K
  unfold sl
  refine wpAnyH_ready (rs:=[6]) (by kernel_rfl) (by simp) ?_
  refine AllReadyH.cons rfl (fun K hK=>?_) AllReadyH.nil
  go_simp
  refine (GV.out _ HB1.out).mono ?_
  rintro e X2 ⟨rfl,hbf⟩
  have HB2:=hid (HB1.out.trans (hbf.mono HB1.out.size))
  have HL2:=hid ((hbf.block _ (heap_lt HL1.out)).trans HL1.out)
  clear hbf
  refine hK.out _ _ HL2.out (fun hS=>?_)
  clear hK K
  refine tH 7 hS ?_
  try simp only [lA,lB,lC,Act.put,lD,lE,lF]
  refine tH 8 hS ?_
  try simp only [lA,lB,lC,Act.put,lD,lE,lF]
  refine wpAnyH_done (by kernel_rfl) ?_ _
  clear hS
  go_wp2_with fail
  refine (LV.out _ HB2.out).mono ?_
  rintro e X3 ⟨rfl,hbf⟩
  have HB3:=hid (HB2.out.trans (hbf.mono HB2.out.size))
  have HL3:=hid ((hbf.block _ (heap_lt HL2.out)).trans HL2.out)
  clear hbf LV
  unfold sl
  go_wp2
  exact HX.out _ HB3.out
theorem hearSayFail (hk:v.kp=3∨v.kp=5) (hv:v.m.view=0) (hla:v.m.last=0) (hme:v.me=0) (h20:v.m.ls.length < 20) (hl:v.lost=[]) (harm:v.arm=1) (l:Ln) (hf:l.fits) (ht:turnOf v.m.ls l.c < l.t) :
    Calls Tryz.prog 81 #[.pointer (some ⟨B,0,none⟩),.agg #[.int .i64 l.c,.int .i64 l.t,.string ⟨l.s.toArray⟩]] w fun e y=>∃ gf cf,OutsChg w B v (v.crash (1 :: lineBytes l) gf cf) [] e y:=by
  have IH:=hid (fun z (hz:Below w.heap.size w z)=>isHeadV v B z (h.below hz) (by rw [hv];decide) hk)
  have hb1:((v.m.last == v.m.view) && (v.m.view % v.kp == v.me))=true:=by
    rw [hv,hla,Int.zero_emod]
    rw [hme];rfl
  rw [hb1] at IH
  have LV:Hid (∀ z,Below w.heap.size w z→Calls Tryz.prog 83 #[.pointer (some ⟨B,0,none⟩)] z fun e w'=>e=.returned (sl v.gl v.m.ls.length v.cl)∧Below z.heap.size z w'):=fun z hz=>linesV v B z (h.below hz)
  have GV:Hid (∀ z,Below w.heap.size w z→Calls Tryz.prog 121 #[.slice (v.gl.map fun k=>⟨k,0,none⟩) v.m.ls.length v.cl,.int .i64 l.c] z fun e w'=>e=.returned (.int .i64 (turnOf v.m.ls l.c))∧Below z.heap.size z w'):=fun z hz=>greatest_any _ _ v.m.ls l.c z (h.below hz).lb (by omega)
  have MV:Hid (∀ z,Below w.heap.size w z→Calls Tryz.prog 123 #[.pointer (some ⟨B,3,none⟩),.agg #[.int .i64 l.c,.int .i64 l.t,.string ⟨l.s.toArray⟩]] z fun e w'=>∃ gf cf,e=.returned (.bool false)∧Chg w w' B v (v.crash (1 :: lineBytes l) gf cf)):=fun z hz=>(lineMoreFailV v B z (h.below hz) hl harm l hf).mono (fun e y ⟨gf,cf,he,hc⟩=>⟨gf,cf,he,Chg.of hz h hc⟩)
  have hlt:¬ (l.t≤turnOf v.m.ls l.c):=by omega
  have h2z:((v.m.ls.length:Int) == 20)=false:=beq_eq_false_iff_ne.2 (by omega)
  have HV:=hid h
  clear h hk hv hla hme hb1 hl harm hf ht
  obtain ⟨lc,lt,ls⟩:=l
  dsimp only at *
  generalize hT:turnOf v.m.ls lc=T at *
  clear hT
  go_enter Tryz.func81,Tryz.ntmps81
  go_wp2_with fail
  refine (IH.out _ ((Below.refl _ _).alloc (Nat.le_refl _) _)).mono ?_
  rintro e X0 ⟨rfl,hb0⟩
  rw [World.size_alloc] at hb0
  have HB0:Hid (Below w.heap.size w X0):=((Below.refl _ _).alloc (Nat.le_refl _) _).trans (hb0.mono (by omega))
  have HL0:Hid (X0.heap[w.heap.size]?=some (.cells #[.int .i64 lc,.int .i64 lt,.string ⟨ls.toArray⟩] 27 (0,0))):=by show _=_;rw [hb0.block _ (by omega)];exact heap_alloc_new w _
  clear hb0 IH
  go_wp2
  refine wp_region_held_drew (S:=fun z:World=>z.heap[w.heap.size]?=some (.cells #[.int .i64 lc,.int .i64 lt,.string ⟨ls.toArray⟩] 27 (0,0))) (by kernel_rfl) HL0.out (fun hS=>?_)
  refine tH 0 hS ?_
  try simp only [lA,lB,lC,Act.put,lD,lE,lF]
  refine tH 2 hS ?_
  try simp only [lA,lB,lC,Act.put,lD,lE,lF]
  refine tH 4 hS ?_
  try simp only [lA,lB,lC,Act.put,lD,lE,lF]
  refine tH 1 hS ?_ (hy:=by (intro w hw;have s0:=cell_of_heap hw 0;have s1:=cell_of_heap hw 1;have s2:=cell_of_heap hw 2;simp only [List.getElem?_toArray,List.getElem?_cons_zero,List.getElem?_cons_succ] at s0 s1 s2;clear hw;go_simp;try with_reducible rfl))
  try simp only [lA,lB,lC,Act.put,lD,lE,lF]
  refine tH 5 hS ?_ (hy:=by (intro w hw;have s0:=cell_of_heap hw 0;have s1:=cell_of_heap hw 1;have s2:=cell_of_heap hw 2;simp only [List.getElem?_toArray,List.getElem?_cons_zero,List.getElem?_cons_succ] at s0 s1 s2;clear hw;go_simp;try with_reducible rfl))
  try simp only [lA,lB,lC,Act.put,lD,lE,lF]
  refine wpAnyH_ready (rs:=[3]) (by kernel_rfl) (by simp) ?_
  refine AllReadyH.cons rfl (fun K hK=>?_) AllReadyH.nil
  go_simp
  refine (LV.out _ HB0.out.drew).mono ?_
  rintro e X1 ⟨rfl,hbf⟩
  have HB1:=hid (HB0.out.drew.trans (hbf.mono HB0.out.size))
  have HL1:=hid ((hbf.block _ (heap_lt HL0.out)).trans HL0.out)
  clear hbf
  refine hK.out _ _ HL1.out (fun hS=>?_)
  clear hK K
  unfold sl
  refine wpAnyH_ready (rs:=[6]) (by kernel_rfl) (by simp) ?_
  refine AllReadyH.cons rfl (fun K hK=>?_) AllReadyH.nil
  go_simp
  refine (GV.out _ HB1.out).mono ?_
  rintro e X2 ⟨rfl,hbf⟩
  have HB2:=hid (HB1.out.trans (hbf.mono HB1.out.size))
  have HL2:=hid ((hbf.block _ (heap_lt HL1.out)).trans HL1.out)
  clear hbf
  refine hK.out _ _ HL2.out (fun hS=>?_)
  clear hK K
  refine tH 7 hS ?_
  try simp only [lA,lB,lC,Act.put,lD,lE,lF]
  refine tH 8 hS ?_
  try simp only [lA,lB,lC,Act.put,lD,lE,lF]
  refine wpAnyH_done (by kernel_rfl) ?_ _
  clear hS
  go_wp2_with fail
  refine (LV.out _ HB2.out).mono ?_
  rintro e X3 ⟨rfl,hbf⟩
  have HB3:=hid (HB2.out.trans (hbf.mono HB2.out.size))
  have HL3:=hid ((hbf.block _ (heap_lt HL2.out)).trans HL2.out)
  clear hbf LV
  unfold sl
  have s0:=cell_of_heap HL3.out 0
  have s1:=cell_of_heap HL3.out 1
  have s2:=cell_of_heap HL3.out 2
  simp only [List.getElem?_toArray,List.getElem?_cons_zero,List.getElem?_cons_succ] at s0 s1 s2
  go_wp2
  go_still_tail 4,(by kernel_rfl)
  go_wp2_with fail
  refine (MV.out _ HB3.out.drew).mono ?_
  rintro e X4 ⟨gf,cf,rfl,hc⟩
  have HC:=hid hc
  clear hc
  go_wp2
  go_ret
  exact ⟨gf,cf,OutsChg.nil HC.out⟩
end
end
end Go.Proofs.YtolififimldmlaaGreat
