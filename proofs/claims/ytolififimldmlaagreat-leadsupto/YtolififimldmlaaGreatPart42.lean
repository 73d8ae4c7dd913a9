import Derived.Test.YtolififimldmlaaGreatPart39
import Derived.Test.YtolififimldmlaaGreatPart32
set_option linter.unusedVariables false
set_option linter.unusedSimpArgs false
set_option maxRecDepth 100000
set_option maxHeartbeats 16000000
namespace Go.Proofs.YtolififimldmlaaGreat
section
open Go.RowKit
attribute [local go_sem ↓] Go.wp_at_zero Go.wp_at_succ
section
variable (v:PV) (B:Nat) (w:World) (h:v.At w B)
include h
theorem addLineV (Q:Bool→World→Prop) (hl:v.lost=[]) (h20:v.m.ls.length < 20) (hdl:v.d.length≤9900000) (harm:0≤v.arm∧v.arm≤9223372036854775807) (l:Ln) (hf:l.fits)
    (H1:l.t≤turnOf v.m.ls l.c→∀ y,Chg w y B v v→Q false y)
    (H2:turnOf v.m.ls l.c < l.t→v.arm=1→∀ y gf cf,Chg w y B v (v.crash (1 :: lineBytes l) gf cf)→Q false y)
    (H3:turnOf v.m.ls l.c < l.t→v.arm≠1→∀ y gd cd gl cl,Chg w y B v (v.more l (armNext v.arm) gd cd gl cl)→Q true y) :
    Calls Tryz.prog 196 #[.pointer (some ⟨B,0,none⟩),.agg #[.int .i64 l.c,.int .i64 l.t,.string ⟨l.s.toArray⟩]] w fun e y=>∃ b,e=.returned (.bool b)∧Q b y:=by
  have LV:Hid (∀ z,Below w.heap.size w z→Calls Tryz.prog 83 #[.pointer (some ⟨B,0,none⟩)] z fun e w'=>e=.returned (.slice (v.gl.map fun k=>⟨k,0,none⟩) v.m.ls.length v.cl)∧Below z.heap.size z w'):=fun z hz=>linesV v B z (h.below hz)
  have GV:Hid (∀ z,Below w.heap.size w z→Calls Tryz.prog 121 #[.slice (v.gl.map fun k=>⟨k,0,none⟩) v.m.ls.length v.cl,.int .i64 l.c] z fun e w'=>e=.returned (.int .i64 (turnOf v.m.ls l.c))∧Below z.heap.size z w'):=fun z hz=>greatest_any _ _ v.m.ls l.c z (h.below hz).lb (by omega)
  have MF:Hid (v.arm=1→∀ z,Below w.heap.size w z→Calls Tryz.prog 123 #[.pointer (some ⟨B,3,none⟩),.agg #[.int .i64 l.c,.int .i64 l.t,.string ⟨l.s.toArray⟩]] z fun e w'=>∃ gf cf,e=.returned (.bool false)∧Chg z w' B v (v.crash (1 :: lineBytes l) gf cf)):=fun ha z hz=>lineMoreFailV v B z (h.below hz) hl ha l hf
  have MO:Hid (v.arm≠1→∀ z,Below w.heap.size w z→Calls Tryz.prog 123 #[.pointer (some ⟨B,3,none⟩),.agg #[.int .i64 l.c,.int .i64 l.t,.string ⟨l.s.toArray⟩]] z fun e w'=>∃ gd' cd' gl' cl',e=.returned (.bool true)∧Chg z w' B v (v.more l (armNext v.arm) gd' cd' gl' cl')):=fun ha z hz=>lineMoreOkV v B z (h.below hz) hl (armNext v.arm) (by unfold armNext;split <;> omega) l hf (by omega) hdl
  have HV:=hid h
  have G1:=hid H1
  have G2:=hid H2
  have G3:=hid H3
  clear h hl h20 hdl hf H1 H2 H3 harm
  obtain ⟨lc,lt,ls⟩:=l
  dsimp only at *
  generalize hT:turnOf v.m.ls lc=T at *
  clear hT
  go_enter Tryz.func196,Tryz.ntmps196
  go_wp2
  have HB0:=hid ((Below.refl _ w).alloc (Nat.le_refl _) (.cells #[.int .i64 lc,.int .i64 lt,.string ⟨ls.toArray⟩] 27))
  have HL0:=hid (heap_alloc_new w (.cells #[.int .i64 lc,.int .i64 lt,.string ⟨ls.toArray⟩] 27))
  generalize w.alloc (.cells #[.int .i64 lc,.int .i64 lt,.string ⟨ls.toArray⟩] 27)=X0 at *
  refine wp_region_held_drew (S:=fun z:World=>z.heap[w.heap.size]?=some (.cells #[.int .i64 lc,.int .i64 lt,.string ⟨ls.toArray⟩] 27 (0,0))) (by kernel_rfl) HL0.out (fun hS=>?_)
  refine tH 0 hS ?_
  try simp only [lA,lB,lC,Act.put,lD,lE,lF]
  refine tH 2 hS ?_
  try simp only [lA,lB,lC,Act.put,lD,lE,lF]
  refine tH 4 hS ?_
  try simp only [lA,lB,lC,Act.put,lD,lE,lF]
  refine tH 1 hS ?_ (hy:=by (intro w hw;have s0:=cell_of_heap hw 0;have s1:=cell_of_heap hw 1;have s2:=cell_of_heap hw 2;simp only [List.getElem?_toArray,List.getElem?_cons_zero,List.getElem?_cons_succ] at s0 s1 s2;clear hw;go_simp;try with_reducible rfl))
  try simp only [lA,lB,lC,Act.put,lD,lE,lF]
  refine tH 5 hS ?_ (hy:=by (intro w hw;have s0:=cell_of_heap hw 0;have s1:=cell_of_heap hw 1;have s2:=cell_of_heap hw 2;simp only [List.getElem?_toArray,List.getElem?_cons_zero,List.getElem?_cons_succ] at s0 s1 s2;clear hw;go_simp;try with_reducible rfl))
  try simp only [lA,lB,lC,Act.put,lD,lE,lF]
  refine wpAnyH_ready (rs:=[3]) (by kernel_rfl) (by simp) ?_
  refine AllReadyH.cons rfl (fun K hK=>?_) AllReadyH.nil
  go_simp
  refine (LV.out _ HB0.out.drew).mono ?_
  rintro e X1 ⟨rfl,hbf⟩
  have HB1:=hid (HB0.out.drew.trans (hbf.mono HB0.out.size))
  have HL1:=hid ((hbf.block _ (heap_lt HL0.out)).trans HL0.out)
  clear hbf
  refine hK.out _ _ HL1.out (fun hS=>?_)
  clear hK K
  refine wpAnyH_ready (rs:=[6]) (by kernel_rfl) (by simp) ?_
  refine AllReadyH.cons rfl (fun K hK=>?_) AllReadyH.nil
  go_simp
  refine (GV.out _ HB1.out).mono ?_
  rintro e X2 ⟨rfl,hbf⟩
  have HB2:=hid (HB1.out.trans (hbf.mono HB1.out.size))
  have HL2:=hid ((hbf.block _ (heap_lt HL1.out)).trans HL1.out)
  clear hbf
  refine hK.out _ _ HL2.out (fun hS=>?_)
  clear hK K
  rcases Int.lt_or_le T lt with h1 | h1
  · have hd:decide (T < lt)=true:=decide_eq_true h1
    have HH1:=hid h1
    clear h1
    refine tH 7 hS ?_
    try simp only [lA,lB,lC,Act.put,lD,lE,lF]
    try rw [hd]
    clear hd
    refine tH 8 hS ?_
    try simp only [lA,lB,lC,Act.put,lD,lE,lF]
    refine tH 9 hS ?_
    try simp only [lA,lB,lC,Act.put,lD,lE,lF]
    refine tH 10 hS ?_
    try simp only [lA,lB,lC,Act.put,lD,lE,lF]
    refine tH 11 hS ?_
    try simp only [lA,lB,lC,Act.put,lD,lE,lF]
    refine tH 12 hS ?_ (hy:=by (intro w hw;have s0:=cell_of_heap hw 0;have s1:=cell_of_heap hw 1;have s2:=cell_of_heap hw 2;simp only [List.getElem?_toArray,List.getElem?_cons_zero,List.getElem?_cons_succ] at s0 s1 s2;clear hw;go_simp;try with_reducible rfl))
    try simp only [lA,lB,lC,Act.put,lD,lE,lF]
    by_cases ha:v.arm=1
    · have HMF:=hid (MF.out ha)
      have HA:=hid ha
      clear ha
      refine wpAnyH_ready (rs:=[13]) (by kernel_rfl) (by simp) ?_
      refine AllReadyH.cons rfl (fun K hK=>?_) AllReadyH.nil
      go_simp
      refine (HMF.out _ HB2.out).mono ?_
      rintro e X3 ⟨gf,cf,rfl,hch⟩
      have HL3:=hid (hch.tch.heapAt HL2.out (fun e=>by have:=HV.out.ownlt e;omega))
      have HC3:=hid (Chg.of HB2.out HV.out hch)
      clear hch
      refine hK.out _ _ HL3.out (fun hS=>?_)
      clear hK K
      refine tH 14 hS ?_
      try simp only [lA,lB,lC,Act.put,lD,lE,lF]
      refine tH 15 hS ?_
      try simp only [lA,lB,lC,Act.put,lD,lE,lF]
      refine wpAnyH_done (by kernel_rfl) ?_ _
      clear hS
      go_wp2
      go_ret
      exact ⟨false,rfl,G2.out HH1.out HA.out _ gf cf HC3.out⟩
    · have HMO:=hid (MO.out ha)
      have HA:=hid ha
      clear ha
      refine wpAnyH_ready (rs:=[13]) (by kernel_rfl) (by simp) ?_
      refine AllReadyH.cons rfl (fun K hK=>?_) AllReadyH.nil
      go_simp
      refine (HMO.out _ HB2.out).mono ?_
      rintro e X3 ⟨gd',cd',gl',cl',rfl,hch⟩
      have HL3:=hid (hch.tch.heapAt HL2.out (fun e=>by have:=HV.out.ownlt e;omega))
      have HC3:=hid (Chg.of HB2.out HV.out hch)
      clear hch
      refine hK.out _ _ HL3.out (fun hS=>?_)
      clear hK K
      refine tH 14 hS ?_
      try simp only [lA,lB,lC,Act.put,lD,lE,lF]
      refine tH 15 hS ?_
      try simp only [lA,lB,lC,Act.put,lD,lE,lF]
      refine wpAnyH_done (by kernel_rfl) ?_ _
      clear hS
      go_wp2
      go_ret
      exact ⟨true,rfl,G3.out HH1.out HA.out _ gd' cd' gl' cl' HC3.out⟩
  · have hd:decide (T < lt)=false:=decide_eq_false (by omega)
    have HH1:=hid h1
    clear h1
    refine tH 7 hS ?_
    try simp only [lA,lB,lC,Act.put,lD,lE,lF]
    try rw [hd]
    clear hd
    refine tH 8 hS ?_
    try simp only [lA,lB,lC,Act.put,lD,lE,lF]
    refine sH 9 hS ?_
    try simp only [lA,lB,lC,Act.put,lD,lE,lF]
    refine sH 10 hS ?_
    try simp only [lA,lB,lC,Act.put,lD,lE,lF]
    refine sH 11 hS ?_
    try simp only [lA,lB,lC,Act.put,lD,lE,lF]
    refine sH 12 hS ?_
    try simp only [lA,lB,lC,Act.put,lD,lE,lF]
    refine sH 13 hS ?_
    try simp only [lA,lB,lC,Act.put,lD,lE,lF]
    refine tH 14 hS ?_
    try simp only [lA,lB,lC,Act.put,lD,lE,lF]
    refine tH 15 hS ?_
    try simp only [lA,lB,lC,Act.put,lD,lE,lF]
    refine wpAnyH_done (by kernel_rfl) ?_ _
    clear hS
    go_wp2
    go_ret
    exact ⟨false,rfl,G1.out HH1.out _ (Chg.same HV.out HB2.out)⟩
end
section
variable (v:PV) (B:Nat) (w:World) (h:v.At w B)
include h
theorem hearSayNot (hk:v.kp=3∨v.kp=5) (hv:v.m.view=0) (hla:v.m.last=0) (hme:(0:Int)≠v.me) (l:Ln) :
    Calls Tryz.prog 81 #[.pointer (some ⟨B,0,none⟩),.agg #[.int .i64 l.c,.int .i64 l.t,.string ⟨l.s.toArray⟩]] w (OutsChg w B v v []):=by
  have IH:=hid (fun z (hz:Below w.heap.size w z)=>isHeadV v B z (h.below hz) (by rw [hv];decide) hk)
  have hb1:((v.m.last == v.m.view) && (v.m.view % v.kp == v.me))=false:=by
    rw [hv,hla,Int.zero_emod]
    have:((0:Int) == v.me)=false:=by rw [beq_eq_false_iff_ne];exact hme
    rw [this];rfl
  rw [hb1] at IH
  have HX:Hid (∀ y,Below w.heap.size w y→OutsChg w B v v [] (.returned (.slice none 0 0)) y):=fun y hy=>OutsChg.nil (Chg.same h hy)
  generalize OutsChg w B v v []=Q at *
  have HV:=hid h
  clear h hk hv hla hme hb1
  obtain ⟨lc,lt,ls⟩:=l
  dsimp only at *
  go_enter Tryz.func81,Tryz.ntmps81
  go_wp2_with fail
  refine (IH.out _ ((Below.refl _ _).alloc (Nat.le_refl _) _)).mono ?_
  rintro e X0 ⟨rfl,hb0⟩
  rw [World.size_alloc] at hb0
  have HB0:Hid (Below w.heap.size w X0):=((Below.refl _ _).alloc (Nat.le_refl _) _).trans (hb0.mono (by omega))
  clear hb0 IH
  go_wp2
  exact HX.out _ HB0.out
theorem hearSayTold (hk:v.kp=3∨v.kp=5) (hv:v.m.view=0) (hla:v.m.last=0) (hme:v.me=0) (h20:v.m.ls.length≤20) (hag:v.ag≤v.m.ls.length) (hok:linesOk v.m.ls=true) (l:Ln) (ht:l.t≤turnOf v.m.ls l.c) :
    Calls Tryz.prog 81 #[.pointer (some ⟨B,0,none⟩),.agg #[.int .i64 l.c,.int .i64 l.t,.string ⟨l.s.toArray⟩]] w (OutsChg w B v v (tellsN v.m l v.ag)):=by
  have IH:=hid (fun z (hz:Below w.heap.size w z)=>isHeadV v B z (h.below hz) (by rw [hv];decide) hk)
  have hb1:((v.m.last == v.m.view) && (v.m.view % v.kp == v.me))=true:=by
    rw [hv,hla,Int.zero_emod]
    rw [hme];rfl
  rw [hb1] at IH
  have LV:Hid (∀ z,Below w.heap.size w z→Calls Tryz.prog 83 #[.pointer (some ⟨B,0,none⟩)] z fun e w'=>e=.returned (sl v.gl v.m.ls.length v.cl)∧Below z.heap.size z w'):=fun z hz=>linesV v B z (h.below hz)
  have GV:Hid (∀ z,Below w.heap.size w z→Calls Tryz.prog 121 #[.slice (v.gl.map fun k=>⟨k,0,none⟩) v.m.ls.length v.cl,.int .i64 l.c] z fun e w'=>e=.returned (.int .i64 (turnOf v.m.ls l.c))∧Below z.heap.size z w'):=fun z hz=>greatest_any _ _ v.m.ls l.c z (h.below hz).lb (by omega)
  have TV:Hid (∀ z,Below w.heap.size w z→Calls Tryz.prog 122 #[.pointer (some ⟨B,0,none⟩),.agg #[.int .i64 l.c,.int .i64 l.t,.string ⟨l.s.toArray⟩]] z fun e y=>(∃ a n q,e=.returned (.slice a n q))∧OutsChg w B v v (tellsN v.m l v.ag) e y):=fun z hz=>(tellAgainV v B z (h.below hz) hag h20 hok l).mono (fun e y hh=>⟨(OutsRet.chg hh (h.below hz)).form,OutsChg.of (Chg.same h hz) (hh.chg (h.below hz))⟩)
  generalize OutsChg w B v v (tellsN v.m l v.ag)=Q at *
  have HV:=hid h
  clear h hk hv hla hme hb1 hok
  obtain ⟨lc,lt,ls⟩:=l
  dsimp only at *
  generalize hT:turnOf v.m.ls lc=T at *
  clear hT
  go_enter Tryz.func81,Tryz.ntmps81
  go_wp2_with fail
  refine (IH.out _ ((Below.refl _ _).alloc (Nat.le_refl _) _)).mono ?_
  rintro e X0 ⟨rfl,hb0⟩
  rw [World.size_alloc] at hb0
  have HB0:Hid (Below w.heap.size w X0):=((Below.refl _ _).alloc (Nat.le_refl _) _).trans (hb0.mono (by omega))
  have HL0:Hid (X0.heap[w.heap.size]?=some (.cells #[.int .i64 lc,.int .i64 lt,.string ⟨ls.toArray⟩] 27 (0,0))):=by show _=_;rw [hb0.block _ (by omega)];exact heap_alloc_new w _
  clear hb0 IH
  go_wp2
  refine wp_region_held_drew (S:=fun z:World=>z.heap[w.heap.size]?=some (.cells #[.int .i64 lc,.int .i64 lt,.string ⟨ls.toArray⟩] 27 (0,0))) (by kernel_rfl) HL0.out (fun hS=>?_)
  refine tH 0 hS ?_
  try simp only [lA,lB,lC,Act.put,lD,lE,lF]
  refine tH 2 hS ?_
  try simp only [lA,lB,lC,Act.put,lD,lE,lF]
  refine tH 4 hS ?_
  try simp only [lA,lB,lC,Act.put,lD,lE,lF]
  refine tH 1 hS ?_ (hy:=by (intro w hw;have s0:=cell_of_heap hw 0;have s1:=cell_of_heap hw 1;have s2:=cell_of_heap hw 2;simp only [List.getElem?_toArray,List.getElem?_cons_zero,List.getElem?_cons_succ] at s0 s1 s2;clear hw;go_simp;try with_reducible rfl))
  try simp only [lA,lB,lC,Act.put,lD,lE,lF]
  refine tH 5 hS ?_ (hy:=by (intro w hw;have s0:=cell_of_heap hw 0;have s1:=cell_of_heap hw 1;have s2:=cell_of_heap hw 2;simp only [List.getElem?_toArray,List.getElem?_cons_zero,List.getElem?_cons_succ] at s0 s1 s2;clear hw;go_simp;try with_reducible rfl))
  try simp only [lA,lB,lC,Act.put,lD,lE,lF]
  refine wpAnyH_ready (rs:=[3]) (by kernel_rfl) (by simp) ?_
  refine AllReadyH.cons rfl (fun K hK=>?_) AllReadyH.nil
  go_simp
  refine (LV.out _ HB0.out.drew).mono ?_
  rintro e X1 ⟨rfl,hbf⟩
  have HB1:=hid (HB0.out.drew.trans (hbf.mono HB0.out.size))
  have HL1:=hid ((hbf.block _ (heap_lt HL0.out)).trans HL0.out)
  clear hbf
  refine hK.out _ _ HL1.out (fun hS=>?_)
  clear hK K
  unfold sl
  refine wpAnyH_ready (rs:=[6]) (by kernel_rfl) (by simp) ?_
  refine AllReadyH.cons rfl (fun K hK=>?_) AllReadyH.nil
  go_simp
  refine (GV.out _ HB1.out).mono ?_
  rintro e X2 ⟨rfl,hbf⟩
  have HB2:=hid (HB1.out.trans (hbf.mono HB1.out.size))
  have HL2:=hid ((hbf.block _ (heap_lt HL1.out)).trans HL1.out)
  clear hbf
  refine hK.out _ _ HL2.out (fun hS=>?_)
  clear hK K
  refine tH 7 hS ?_
  try simp only [lA,lB,lC,Act.put,lD,lE,lF]
  refine tH 8 hS ?_
  try simp only [lA,lB,lC,Act.put,lD,lE,lF]
  refine wpAnyH_done (by kernel_rfl) ?_ _
  clear hS
  have s0:=cell_of_heap HL2.out 0
  have s1:=cell_of_heap HL2.out 1
  have s2:=cell_of_heap HL2.out 2
  simp only [List.getElem?_toArray,List.getElem?_cons_zero,List.getElem?_cons_succ] at s0 s1 s2
  go_wp2_with fail
  refine (TV.out _ HB2.out).mono ?_
  rintro e y ⟨⟨a9,n9,q9,rfl⟩,hq⟩
  have HQ:=hid hq
  clear hq
  go_wp2
  exact HQ.out
theorem hearSayFull (hk:v.kp=3∨v.kp=5) (hv:v.m.view=0) (hla:v.m.last=0) (hme:v.me=0) (h20:v.m.ls.length=20) (l:Ln) (ht:turnOf v.m.ls l.c < l.t) :
    Calls Tryz.prog 81 #[.pointer (some ⟨B,0,none⟩),.agg #[.int .i64 l.c,.int .i64 l.t,.string ⟨l.s.toArray⟩]] w (OutsChg w B v v []):=by
  have IH:=hid (fun z (hz:Below w.heap.size w z)=>isHeadV v B z (h.below hz) (by rw [hv];decide) hk)
  have hb1:((v.m.last == v.m.view) && (v.m.view % v.kp == v.me))=true:=by
    rw [hv,hla,Int.zero_emod]
    rw [hme];rfl
  rw [hb1] at IH
  have LV:Hid (∀ z,Below w.heap.size w z→Calls Tryz.prog 83 #[.pointer (some ⟨B,0,none⟩)] z fun e w'=>e=.returned (sl v.gl v.m.ls.length v.cl)∧Below z.heap.size z w'):=fun z hz=>linesV v B z (h.below hz)
  have GV:Hid (∀ z,Below w.heap.size w z→Calls Tryz.prog 121 #[.slice (v.gl.map fun k=>⟨k,0,none⟩) v.m.ls.length v.cl,.int .i64 l.c] z fun e w'=>e=.returned (.int .i64 (turnOf v.m.ls l.c))∧Below z.heap.size z w'):=fun z hz=>greatest_any _ _ v.m.ls l.c z (h.below hz).lb (by omega)
  have HX:Hid (∀ y,Below w.heap.size w y→OutsChg w B v v [] (.returned (.slice none 0 0)) y):=fun y hy=>OutsChg.nil (Chg.same h hy)
  generalize OutsChg w B v v []=Q at *
  have hlt:¬ (l.t≤turnOf v.m.ls l.c):=by omega
  rw [h20] at LV GV
  have HV:=hid h
  clear h hk hv hla hme hb1 h20 ht
  obtain ⟨lc,lt,ls⟩:=l
  dsimp only at *
  generalize hT:turnOf v.m.ls lc=T at *
  clear hT
  go_enter Tryz.func81,Tryz.ntmps81
  go_wp2_with fail
  refine (IH.out _ ((Below.refl _ _).alloc (Nat.le_refl _) _)).mono ?_
  rintro e X0 ⟨rfl,hb0⟩
  rw [World.size_alloc] at hb0
  have HB0:Hid (Below w.heap.size w X0):=((Below.refl _ _).alloc (Nat.le_refl _) _).trans (hb0.mono (by omega))
  have HL0:Hid (X0.heap[w.heap.size]?=some (.cells #[.int .i64 lc,.int .i64 lt,.string ⟨ls.toArray⟩] 27 (0,0))):=by show _=_;rw [hb0.block _ (by omega)];exact heap_alloc_new w _
  clear hb0 IH
  go_wp2
  refine wp_region_held_drew (S:=fun z:World=>z.heap[w.heap.size]?=some (.cells #[.int .i64 lc,.int .i64 lt,.string ⟨ls.toArray⟩] 27 (0,0))) (by kernel_rfl) HL0.out (fun hS=>?_)
  refine tH 0 hS ?_
  try simp only [lA,lB,lC,Act.put,lD,lE,lF]
  refine tH 2 hS ?_
  try simp only [lA,lB,lC,Act.put,lD,lE,lF]
  refine tH 4 hS ?_
  try simp only [lA,lB,lC,Act.put,lD,lE,lF]
  refine tH 1 hS ?_ (hy:=by (intro w hw;have s0:=cell_of_heap hw 0;have s1:=cell_of_heap hw 1;have s2:=cell_of_heap hw 2;simp only [List.getElem?_toArray,List.getElem?_cons_zero,List.getElem?_cons_succ] at s0 s1 s2;clear hw;go_simp;try with_reducible rfl))
  try simp only [lA,lB,lC,Act.put,lD,lE,lF]
  refine tH 5 hS ?_ (hy:=by (intro w hw;have s0:=cell_of_heap hw 0;have s1:=cell_of_heap hw 1;have s2:=cell_of_heap hw 2;simp only [List.getElem?_toArray,List.getElem?_cons_zero,List.getElem?_cons_succ] at s0 s1 s2;clear hw;go_simp;try with_reducible rfl))
  try simp only [lA,lB,lC,Act.put,lD,lE,lF]
  refine wpAnyH_ready (rs:=[3]) (by kernel_rfl) (by simp) ?_
  refine AllReadyH.cons rfl (fun K hK=>?_) AllReadyH.nil
  go_simp
  refine (LV.out _ HB0.out.drew).mono ?_
  rintro e X1 ⟨rfl,hbf⟩
  have HB1:=hid (HB0.out.drew.trans (hbf.mono HB0.out.size))
  have HL1:=hid ((hbf.block _ (heap_lt HL0.out)).trans HL0.out)
  clear hbf
  refine hK.out _ _ HL1.out (fun hS=>?_)
  clear hK K
  unfold sl
  refine wpAnyH_ready (rs:=[6]) (by kernel_rfl) (by simp) ?_
  refine AllReadyH.cons rfl (fun K hK=>?_) AllReadyH.nil
  go_simp
  refine (GV.out _ HB1.out).mono ?_
  rintro e X2 ⟨rfl,hbf⟩
  have HB2:=hid (HB1.out.trans (hbf.mono HB1.out.size))
  have HL2:=hid ((hbf.block _ (heap_lt HL1.out)).trans HL1.out)
  clear hbf
  refine hK.out _ _ HL2.out (fun hS=>?_)
  clear hK K
  refine tH 7 hS ?_
  try simp only [lA,lB,lC,Act.put,lD,lE,lF]
  refine tH 8 hS ?_
  try simp only [lA,lB,lC,Act.put,lD,lE,lF]
  refine wpAnyH_done (by kernel_rfl) ?_ _
  clear hS
  go_wp2_with fail
  refine (LV.out _ HB2.out).mono ?_
  rintro e X3 ⟨rfl,hbf⟩
  have HB3:=hid (HB2.out.trans (hbf.mono HB2.out.size))
  have HL3:=hid ((hbf.block _ (heap_lt HL2.out)).trans HL2.out)
  clear hbf LV
  unfold sl
  go_wp2
  exact HX.out _ HB3.out
theorem hearSayFail (hk:v.kp=3∨v.kp=5) (hv:v.m.view=0) (hla:v.m.last=0) (hme:v.me=0) (h20:v.m.ls.length < 20) (hl:v.lost=[]) (harm:v.arm=1) (l:Ln) (hf:l.fits) (ht:turnOf v.m.ls l.c < l.t) :
    Calls Tryz.prog 81 #[.pointer (some ⟨B,0,none⟩),.agg #[.int .i64 l.c,.int .i64 l.t,.string ⟨l.s.toArray⟩]] w fun e y=>∃ gf cf,OutsChg w B v (v.crash (1 :: lineBytes l) gf cf) [] e y:=by
  have IH:=hid (fun z (hz:Below w.heap.size w z)=>isHeadV v B z (h.below hz) (by rw [hv];decide) hk)
  have hb1:((v.m.last == v.m.view) && (v.m.view % v.kp == v.me))=true:=by
    rw [hv,hla,Int.zero_emod]
    rw [hme];rfl
  rw [hb1] at IH
  have LV:Hid (∀ z,Below w.heap.size w z→Calls Tryz.prog 83 #[.pointer (some ⟨B,0,none⟩)] z fun e w'=>e=.returned (sl v.gl v.m.ls.length v.cl)∧Below z.heap.size z w'):=fun z hz=>linesV v B z (h.below hz)
  have GV:Hid (∀ z,Below w.heap.size w z→Calls Tryz.prog 121 #[.slice (v.gl.map fun k=>⟨k,0,none⟩) v.m.ls.length v.cl,.int .i64 l.c] z fun e w'=>e=.returned (.int .i64 (turnOf v.m.ls l.c))∧Below z.heap.size z w'):=fun z hz=>greatest_any _ _ v.m.ls l.c z (h.below hz).lb (by omega)
  have MV:Hid (∀ z,Below w.heap.size w z→Calls Tryz.prog 123 #[.pointer (some ⟨B,3,none⟩),.agg #[.int .i64 l.c,.int .i64 l.t,.string ⟨l.s.toArray⟩]] z fun e w'=>∃ gf cf,e=.returned (.bool false)∧Chg w w' B v (v.crash (1 :: lineBytes l) gf cf)):=fun z hz=>(lineMoreFailV v B z (h.below hz) hl harm l hf).mono (fun e y ⟨gf,cf,he,hc⟩=>⟨gf,cf,he,Chg.of hz h hc⟩)
  have hlt:¬ (l.t≤turnOf v.m.ls l.c):=by omega
  have h2z:((v.m.ls.length:Int) == 20)=false:=beq_eq_false_iff_ne.2 (by omega)
  have HV:=hid h
  clear h hk hv hla hme hb1 hl harm hf ht
  obtain ⟨lc,lt,ls⟩:=l
  dsimp only at *
  generalize hT:turnOf v.m.ls lc=T at *
  clear hT
  go_enter Tryz.func81,Tryz.ntmps81
  go_wp2_with fail
  refine (IH.out _ ((Below.refl _ _).alloc (Nat.le_refl _) _)).mono ?_
  rintro e X0 ⟨rfl,hb0⟩
  rw [World.size_alloc] at hb0
  have HB0:Hid (Below w.heap.size w X0):=((Below.refl _ _).alloc (Nat.le_refl _) _).trans (hb0.mono (by omega))
  have HL0:Hid (X0.heap[w.heap.size]?=some (.cells #[.int .i64 lc,.int .i64 lt,.string ⟨ls.toArray⟩] 27 (0,0))):=by show _=_;rw [hb0.block _ (by omega)];exact heap_alloc_new w _
  clear hb0 IH
  go_wp2
  refine wp_region_held_drew (S:=fun z:World=>z.heap[w.heap.size]?=some (.cells #[.int .i64 lc,.int .i64 lt,.string ⟨ls.toArray⟩] 27 (0,0))) (by kernel_rfl) HL0.out (fun hS=>?_)
  refine tH 0 hS ?_
  try simp only [lA,lB,lC,Act.put,lD,lE,lF]
  refine tH 2 hS ?_
  try simp only [lA,lB,lC,Act.put,lD,lE,lF]
  refine tH 4 hS ?_
  try simp only [lA,lB,lC,Act.put,lD,lE,lF]
  refine tH 1 hS ?_ (hy:=by (intro w hw;have s0:=cell_of_heap hw 0;have s1:=cell_of_heap hw 1;have s2:=cell_of_heap hw 2;simp only [List.getElem?_toArray,List.getElem?_cons_zero,List.getElem?_cons_succ] at s0 s1 s2;clear hw;go_simp;try with_reducible rfl))
  try simp only [lA,lB,lC,Act.put,lD,lE,lF]
  refine tH 5 hS ?_ (hy:=by (intro w hw;have s0:=cell_of_heap hw 0;have s1:=cell_of_heap hw 1;have s2:=cell_of_heap hw 2;simp only [List.getElem?_toArray,List.getElem?_cons_zero,List.getElem?_cons_succ] at s0 s1 s2;clear hw;go_simp;try with_reducible rfl))
  try simp only [lA,lB,lC,Act.put,lD,lE,lF]
  refine wpAnyH_ready (rs:=[3]) (by kernel_rfl) (by simp) ?_
  refine AllReadyH.cons rfl (fun K hK=>?_) AllReadyH.nil
  go_simp
  refine (LV.out _ HB0.out.drew).mono ?_
  rintro e X1 ⟨rfl,hbf⟩
  have HB1:=hid (HB0.out.drew.trans (hbf.mono HB0.out.size))
  have HL1:=hid ((hbf.block _ (heap_lt HL0.out)).trans HL0.out)
  clear hbf
  refine hK.out _ _ HL1.out (fun hS=>?_)
  clear hK K
  unfold sl
  refine wpAnyH_ready (rs:=[6]) (by kernel_rfl) (by simp) ?_
  refine AllReadyH.cons rfl (fun K hK=>?_) AllReadyH.nil
  go_simp
  refine (GV.out _ HB1.out).mono ?_
  rintro e X2 ⟨rfl,hbf⟩
  have HB2:=hid (HB1.out.trans (hbf.mono HB1.out.size))
  have HL2:=hid ((hbf.block _ (heap_lt HL1.out)).trans HL1.out)
  clear hbf
  refine hK.out _ _ HL2.out (fun hS=>?_)
  clear hK K
  refine tH 7 hS ?_
  try simp only [lA,lB,lC,Act.put,lD,lE,lF]
  refine tH 8 hS ?_
  try simp only [lA,lB,lC,Act.put,lD,lE,lF]
  refine wpAnyH_done (by kernel_rfl) ?_ _
  clear hS
  go_wp2_with fail
  refine (LV.out _ HB2.out).mono ?_
  rintro e X3 ⟨rfl,hbf⟩
  have HB3:=hid (HB2.out.trans (hbf.mono HB2.out.size))
  have HL3:=hid ((hbf.block _ (heap_lt HL2.out)).trans HL2.out)
  clear hbf LV
  unfold sl
  have s0:=cell_of_heap HL3.out 0
  have s1:=cell_of_heap HL3.out 1
  have s2:=cell_of_heap HL3.out 2
  simp only [List.getElem?_toArray,List.getElem?_cons_zero,List.getElem?_cons_succ] at s0 s1 s2
  go_wp2
  go_still_tail 4,(by kernel_rfl)
  go_wp2_with fail
  refine (MV.out _ HB3.out.drew).mono ?_
  rintro e X4 ⟨gf,cf,rfl,hc⟩
  have HC:=hid hc
  clear hc
  go_wp2
  go_ret
  exact ⟨gf,cf,OutsChg.nil HC.out⟩
end
end
end Go.Proofs.YtolififimldmlaaGreat
