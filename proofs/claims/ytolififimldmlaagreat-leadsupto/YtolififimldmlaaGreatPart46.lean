import Derived.Test.YtolififimldmlaaGreatPart45
import Derived.Test.YtolififimldmlaaGreatPart37
set_option linter.unusedVariables false
set_option linter.unusedSimpArgs false
set_option maxRecDepth 100000
set_option maxHeartbeats 16000000
namespace Go.Proofs.YtolififimldmlaaGreat
section
open Go.RowKit
attribute [local go_sem ↓] Go.wp_at_zero Go.wp_at_succ
section
variable (v:PV) (B:Nat) (w:World) (h:v.At w B)
include h
theorem heardDeadV (hl:0 < v.lost.length) (x:Value):Calls Tryz.prog 21 #[.pointer (some ⟨B,0,none⟩),x] w (TupRet w B v v [] 5):=by
  have FV:=hid (failedV v B w h)
  rw [decide_eq_true hl] at FV
  have HX:Hid (∀ y,Below w.heap.size w y→TupRet w B v v [] 5 (.returned (.tuple #[.slice none 0 0,.int .i64 5])) y):=fun y hy=>TupRet.nil (Chg.same h hy)
  generalize TupRet w B v v [] 5=Q at *
  clear h hl
  go_enter Tryz.func21,Tryz.ntmps21
  go_wp2_with fail
  refine FV.out.mono ?_
  rintro e X ⟨rfl,hb⟩
  have HB:=hid hb
  clear hb FV
  go_wp2
  exact HX.out _ HB.out
theorem heardNoV (hl:v.lost=[]) (gb o cap:Nat) (b:List UInt8) (hb:BytesIn w (some ⟨gb,o,none⟩) b) (hbn:b.length≤10000000) (hcap:b.length≤cap) (hR:unpackR b=none):Calls Tryz.prog 21 #[.pointer (some ⟨B,0,none⟩),.slice (some ⟨gb,o,none⟩) b.length cap] w (TupRet w B v v [] 3):=by
  have FV:=hid (failedV v B w h)
  rw [hl] at FV
  have RV:Hid (∀ z,Below w.heap.size w z→Calls Tryz.prog 40 #[.slice (some ⟨gb,o,none⟩) b.length cap] z (ReadRet z b)):=fun z hz=>readF_go gb o cap b z (hb.below hz) hbn hcap
  have HV:=hid h
  have HL0:=hid hl
  have HR:=hid hR
  have HX:Hid (∀ y,Below w.heap.size w y→TupRet w B v v [] 3 (.returned (.tuple #[.slice none 0 0,.int .i64 3])) y):=fun y hy=>TupRet.nil (Chg.same h hy)
  generalize TupRet w B v v [] 3=Q at *
  clear h hl hb hbn hcap hR
  go_enter Tryz.func21,Tryz.ntmps21
  go_wp2_with fail
  refine FV.out.mono ?_
  rintro e X0 ⟨rfl,hb0⟩
  have HB0:=hid hb0
  clear hb0 FV
  simp only [List.length_nil,Nat.lt_irrefl,decide_false]
  go_wp2_with fail
  refine (RV.out _ HB0.out).mono ?_
  rintro e X1 ⟨hb1,h1⟩
  have HB1:=hid (HB0.out.trans (hb1.mono HB0.out.size))
  rcases h1 with ⟨_,rfl⟩ | ⟨f',g1,c1,hf',_⟩
  · clear hb1 RV HR
    go_wp2
    exact HX.out _ HB1.out
  · rw [HR.out] at hf';cases hf'
theorem heardRejV (hl:v.lost=[]) (gb o cap:Nat) (b:List UInt8) (hb:BytesIn w (some ⟨gb,o,none⟩) b) (hbn:b.length≤10000000) (hcap:b.length≤cap) (f:Fr) (hR:unpackR b=some f) (AV:∀ z a cp,Below w.heap.size w z→Calls Tryz.prog 41 #[.pointer (some ⟨B,0,none⟩),f.typed a cp] z fun e w'=>e=.returned (.bool false)∧Below z.heap.size z w'):Calls Tryz.prog 21 #[.pointer (some ⟨B,0,none⟩),.slice (some ⟨gb,o,none⟩) b.length cap] w (TupRet w B v v [] 3):=by
  have FV:=hid (failedV v B w h)
  rw [hl] at FV
  have RV:Hid (∀ z,Below w.heap.size w z→Calls Tryz.prog 40 #[.slice (some ⟨gb,o,none⟩) b.length cap] z (ReadRet z b)):=fun z hz=>readF_go gb o cap b z (hb.below hz) hbn hcap
  have HV:=hid h
  have HL0:=hid hl
  have HR:=hid hR
  have HAV:=hid AV
  have HX:Hid (∀ y,Below w.heap.size w y→TupRet w B v v [] 3 (.returned (.tuple #[.slice none 0 0,.int .i64 3])) y):=fun y hy=>TupRet.nil (Chg.same h hy)
  generalize TupRet w B v v [] 3=Q at *
  clear h hl hb hbn hcap hR AV
  go_enter Tryz.func21,Tryz.ntmps21
  go_wp2_with fail
  refine FV.out.mono ?_
  rintro e X0 ⟨rfl,hb0⟩
  have HB0:=hid hb0
  clear hb0 FV
  simp only [List.length_nil,Nat.lt_irrefl,decide_false]
  go_wp2_with fail
  refine (RV.out _ HB0.out).mono ?_
  rintro e X1 ⟨hb1,h1⟩
  have HB1:=hid (HB0.out.trans (hb1.mono HB0.out.size))
  rcases h1 with ⟨hn,_⟩ | ⟨f',g1,c1,hf',rfl,hol⟩
  · rw [HR.out] at hn;cases hn
  rw [HR.out] at hf'
  cases hf'
  have HOL:=hid (hol.base (u:=w) HB0.out.size)
  clear hb1 hol RV HR
  go_wp2_with fail
  refine (HAV.out X1 _ _ HB1.out).mono ?_
  rintro e X2 ⟨rfl,hb2⟩
  have HB2:=hid (HB1.out.trans (hb2.mono HB1.out.size))
  clear hb2 HAV
  go_wp2
  exact HX.out _ HB2.out
theorem heardOkV (R:PV→Prop) (hR0:∀ u,R u→u.lost=[]) (os:List OutG) (hl:v.lost=[]) (gb o cap:Nat) (b:List UInt8) (hb:BytesIn w (some ⟨gb,o,none⟩) b) (hbn:b.length≤10000000) (hcap:b.length≤cap) (f:Fr) (hR:unpackR b=some f) (AV:∀ z a cp,Below w.heap.size w z→Calls Tryz.prog 41 #[.pointer (some ⟨B,0,none⟩),f.typed a cp] z fun e w'=>e=.returned (.bool true)∧Below z.heap.size z w')
    (HH:∀ z g c,Below w.heap.size w z→OwnLines w z g c f.lines→Calls Tryz.prog 43 #[.pointer (some ⟨B,0,none⟩),f.typed (g.map fun k=>(⟨k,0,none⟩:Addr)) c] z fun e y=>∃ v',R v'∧OutsChg w B v v' os e y) :
    Calls Tryz.prog 21 #[.pointer (some ⟨B,0,none⟩),.slice (some ⟨gb,o,none⟩) b.length cap] w fun e y=>∃ v',R v'∧TupRet w B v v' os 0 e y:=by
  have FV:=hid (failedV v B w h)
  rw [hl] at FV
  have RV:Hid (∀ z,Below w.heap.size w z→Calls Tryz.prog 40 #[.slice (some ⟨gb,o,none⟩) b.length cap] z (ReadRet z b)):=fun z hz=>readF_go gb o cap b z (hb.below hz) hbn hcap
  have HV:=hid h
  have HL0:=hid hl
  have HR:=hid hR
  have HAV:=hid AV
  have HHE:=hid HH
  have HR0:=hid hR0
  clear h hl hb hbn hcap hR AV HH hR0
  go_enter Tryz.func21,Tryz.ntmps21
  go_wp2_with fail
  refine FV.out.mono ?_
  rintro e X0 ⟨rfl,hb0⟩
  have HB0:=hid hb0
  clear hb0 FV
  simp only [List.length_nil,Nat.lt_irrefl,decide_false]
  go_wp2_with fail
  refine (RV.out _ HB0.out).mono ?_
  rintro e X1 ⟨hb1,h1⟩
  have HB1:=hid (HB0.out.trans (hb1.mono HB0.out.size))
  rcases h1 with ⟨hn,_⟩ | ⟨f',g1,c1,hf',rfl,hol⟩
  · rw [HR.out] at hn;cases hn
  rw [HR.out] at hf'
  cases hf'
  have HOL:=hid (hol.base (u:=w) HB0.out.size)
  clear hb1 hol RV HR
  go_wp2_with fail
  refine (HAV.out X1 _ _ HB1.out).mono ?_
  rintro e X2 ⟨rfl,hb2⟩
  have HB2:=hid (HB1.out.trans (hb2.mono HB1.out.size))
  have HOL2:=hid (HOL.out.below hb2)
  clear hb2 HAV HOL
  go_wp2_with fail
  refine (HHE.out X2 g1 c1 HB2.out HOL2.out).mono ?_
  rintro e X3 ⟨v',hr,hh⟩
  have HH3:=hid hh
  have HRV:=hid hr
  have hat:v'.At X3 B:=by obtain ⟨g,c,gs,cs,_,_,h3,_⟩:=hh;exact h3.at_
  obtain ⟨a3,n3,q3,rfl⟩:=hh.form
  have HUA:=hid (unlessAliveV v' B X3 hat (HR0.out v' hr) a3 n3 q3)
  clear hh hr hat HHE
  go_wp2_with fail
  refine HUA.out.mono ?_
  rintro e X4 ⟨rfl,hb4⟩
  have HF:=hid (HH3.out.tup hb4 0)
  clear hb4 HUA
  go_wp2
  go_ret2
  exact ⟨v',HRV.out,HF.out⟩
theorem heardCrashV (R:PV→Prop) (hR0:∀ u,R u→0 < u.lost.length) (hl:v.lost=[]) (gb o cap:Nat) (b:List UInt8) (hb:BytesIn w (some ⟨gb,o,none⟩) b) (hbn:b.length≤10000000) (hcap:b.length≤cap) (f:Fr) (hR:unpackR b=some f) (AV:∀ z a cp,Below w.heap.size w z→Calls Tryz.prog 41 #[.pointer (some ⟨B,0,none⟩),f.typed a cp] z fun e w'=>e=.returned (.bool true)∧Below z.heap.size z w')
    (HH:∀ z g c,Below w.heap.size w z→OwnLines w z g c f.lines→Calls Tryz.prog 43 #[.pointer (some ⟨B,0,none⟩),f.typed (g.map fun k=>(⟨k,0,none⟩:Addr)) c] z fun e y=>∃ v',R v'∧OutsChg w B v v' [] e y) :
    Calls Tryz.prog 21 #[.pointer (some ⟨B,0,none⟩),.slice (some ⟨gb,o,none⟩) b.length cap] w fun e y=>∃ v',R v'∧TupRet w B v v'.gone [] 4 e y:=by
  have FV:=hid (failedV v B w h)
  rw [hl] at FV
  have RV:Hid (∀ z,Below w.heap.size w z→Calls Tryz.prog 40 #[.slice (some ⟨gb,o,none⟩) b.length cap] z (ReadRet z b)):=fun z hz=>readF_go gb o cap b z (hb.below hz) hbn hcap
  have HV:=hid h
  have HL0:=hid hl
  have HR:=hid hR
  have HAV:=hid AV
  have HHE:=hid HH
  have HR0:=hid hR0
  clear h hl hb hbn hcap hR AV HH hR0
  go_enter Tryz.func21,Tryz.ntmps21
  go_wp2_with fail
  refine FV.out.mono ?_
  rintro e X0 ⟨rfl,hb0⟩
  have HB0:=hid hb0
  clear hb0 FV
  simp only [List.length_nil,Nat.lt_irrefl,decide_false]
  go_wp2_with fail
  refine (RV.out _ HB0.out).mono ?_
  rintro e X1 ⟨hb1,h1⟩
  have HB1:=hid (HB0.out.trans (hb1.mono HB0.out.size))
  rcases h1 with ⟨hn,_⟩ | ⟨f',g1,c1,hf',rfl,hol⟩
  · rw [HR.out] at hn;cases hn
  rw [HR.out] at hf'
  cases hf'
  have HOL:=hid (hol.base (u:=w) HB0.out.size)
  clear hb1 hol RV HR
  go_wp2_with fail
  refine (HAV.out X1 _ _ HB1.out).mono ?_
  rintro e X2 ⟨rfl,hb2⟩
  have HB2:=hid (HB1.out.trans (hb2.mono HB1.out.size))
  have HOL2:=hid (HOL.out.below hb2)
  clear hb2 HAV HOL
  go_wp2_with fail
  refine (HHE.out X2 g1 c1 HB2.out HOL2.out).mono ?_
  rintro e X3 ⟨v',hr,hh⟩
  have HH3:=hid hh
  have HRV:=hid hr
  have hat:v'.At X3 B:=by obtain ⟨g,c,gs,cs,_,_,h3,_⟩:=hh;exact h3.at_
  obtain ⟨a3,n3,q3,rfl⟩:=hh.form
  have HC3:Hid (Chg w X3 B v v'):=by obtain ⟨g,c,gs,cs,_,_,h3,_⟩:=hh;exact h3
  have HUA:=hid (unlessCrashedV v' B X3 hat (HR0.out v' hr) a3 n3 q3)
  clear hh hr hat HHE
  go_wp2_with fail
  refine HUA.out.mono ?_
  rintro e X4 ⟨rfl,hc4⟩
  have HF:Hid (TupRet w B v v'.gone [] 4 (.returned (.tuple #[.slice none 0 0,.int .i64 4])) X4):=TupRet.nil (HC3.out.trans hc4)
  clear hc4 HUA
  go_wp2
  go_ret2
  exact ⟨v',HRV.out,HF.out⟩
end
theorem isOfItsHeadV (v:PV) (B:Nat) (w:World) (h:v.At w B) (hk:v.kp=3∨v.kp=5) (fr:Int) (b:Bool) (hb:(decide (0≤fr) && decide (fr < v.kp) && (fr != v.me))=b):Calls Tryz.prog 79 #[.pointer (some ⟨B,0,none⟩),.agg #[.int .i64 fr,.int .i64 0]] w fun e w'=>e=.returned (.bool (b && (fr == 0)))∧Below w.heap.size w w':=by
  have IO:Hid (∀ z,Below w.heap.size w z→Calls Tryz.prog 80 #[.pointer (some ⟨B,0,none⟩),.int .i64 fr] z fun e w'=>e=.returned (.bool b)∧Below z.heap.size z w'):=fun z hz=>by have:=isOtherV v B z (h.below hz) fr;rw [hb] at this;exact this
  have HO:Hid (∀ z,Below w.heap.size w z→Calls Tryz.prog 120 #[.pointer (some ⟨B,0,none⟩),.int .i64 0] z fun e w'=>e=.returned (.int .i64 0)∧Below z.heap.size z w'):=fun z hz=>by have:=headOfV v B z (h.below hz) 0 (Int.le_refl _) hk;rw [Int.zero_emod] at this;exact this
  have HB:=hid ((Below.refl _ w).alloc (Nat.le_refl _) (.cells #[.int .i64 fr,.int .i64 0] 151))
  have HP:=hid (heap_alloc_new w (.cells #[.int .i64 fr,.int .i64 0] 151))
  clear h hk hb
  go_enter Tryz.func79,Tryz.ntmps79
  go_wp2
  generalize w.alloc (.cells #[.int .i64 fr,.int .i64 0] 151)=X at *
  have hS0:(fun z:World=>Below w.heap.size w z∧z.heap[w.heap.size]?=some (.cells #[.int .i64 fr,.int .i64 0] 151 (0,0))) X.drew:=⟨HB.out.drew,HP.out⟩
  refine wp_region_held_drew (S:=fun z:World=>Below w.heap.size w z∧z.heap[w.heap.size]?=some (.cells #[.int .i64 fr,.int .i64 0] 151 (0,0))) (by kernel_rfl) hS0 (fun hS=>?_)
  clear hS0 HB HP
  refine tH 0 hS ?_
  try simp only [lA,lB,lC,Act.put,lD,lE,lF]
  refine tH 1 hS ?_
  try simp only [lA,lB,lC,Act.put,lD,lE,lF]
  refine tH 2 hS ?_ (hy:=by (intro w hw;have hw:=hw.2;have s0:=cell_of_heap hw 0;have s1:=cell_of_heap hw 1;simp only [List.getElem?_toArray,List.getElem?_cons_zero,List.getElem?_cons_succ] at s0 s1;clear hw;go_simp;try with_reducible rfl))
  try simp only [lA,lB,lC,Act.put,lD,lE,lF]
  refine wpAnyH_ready (rs:=[3]) (by kernel_rfl) (by simp) ?_
  refine AllReadyH.cons rfl (fun K hK=>?_) AllReadyH.nil
  go_simp
  refine (IO.out _ hS.1).mono ?_
  rintro e X1 ⟨rfl,hb⟩
  refine hK.out _ _ ⟨hS.1.trans (hb.mono hS.1.size),(hb.block _ (heap_lt hS.2)).trans hS.2⟩ (fun hS=>?_)
  clear hK K hb IO
  cases b
  · skip
    refine tH 4 hS ?_
    try simp only [lA,lB,lC,Act.put,lD,lE,lF]
    refine sH 5 hS ?_
    try simp only [lA,lB,lC,Act.put,lD,lE,lF]
    refine sH 6 hS ?_
    try simp only [lA,lB,lC,Act.put,lD,lE,lF]
    refine sH 7 hS ?_
    try simp only [lA,lB,lC,Act.put,lD,lE,lF]
    refine sH 8 hS ?_
    try simp only [lA,lB,lC,Act.put,lD,lE,lF]
    refine sH 9 hS ?_
    try simp only [lA,lB,lC,Act.put,lD,lE,lF]
    refine sH 10 hS ?_
    try simp only [lA,lB,lC,Act.put,lD,lE,lF]
    refine sH 11 hS ?_
    try simp only [lA,lB,lC,Act.put,lD,lE,lF]
    refine tH 12 hS ?_
    try simp only [lA,lB,lC,Act.put,lD,lE,lF]
    refine tH 13 hS ?_
    try simp only [lA,lB,lC,Act.put,lD,lE,lF]
    refine wpAnyH_done (by kernel_rfl) ?_ _
    have HB3:=hid hS.1
    clear hS
    go_wp2
    go_ret
    exact ⟨rfl,HB3.out⟩
  · skip
    refine tH 4 hS ?_
    try simp only [lA,lB,lC,Act.put,lD,lE,lF]
    refine tH 5 hS ?_
    try simp only [lA,lB,lC,Act.put,lD,lE,lF]
    refine tH 7 hS ?_
    try simp only [lA,lB,lC,Act.put,lD,lE,lF]
    refine tH 8 hS ?_
    try simp only [lA,lB,lC,Act.put,lD,lE,lF]
    refine tH 6 hS ?_ (hy:=by (intro w hw;have hw:=hw.2;have s0:=cell_of_heap hw 0;have s1:=cell_of_heap hw 1;simp only [List.getElem?_toArray,List.getElem?_cons_zero,List.getElem?_cons_succ] at s0 s1;clear hw;go_simp;try with_reducible rfl))
    try simp only [lA,lB,lC,Act.put,lD,lE,lF]
    refine tH 9 hS ?_ (hy:=by (intro w hw;have hw:=hw.2;have s0:=cell_of_heap hw 0;have s1:=cell_of_heap hw 1;simp only [List.getElem?_toArray,List.getElem?_cons_zero,List.getElem?_cons_succ] at s0 s1;clear hw;go_simp;try with_reducible rfl))
    try simp only [lA,lB,lC,Act.put,lD,lE,lF]
    refine wpAnyH_ready (rs:=[10]) (by kernel_rfl) (by simp) ?_
    refine AllReadyH.cons rfl (fun K hK=>?_) AllReadyH.nil
    go_simp
    refine (HO.out _ hS.1).mono ?_
    rintro e X2 ⟨rfl,hb⟩
    refine hK.out _ _ ⟨hS.1.trans (hb.mono hS.1.size),(hb.block _ (heap_lt hS.2)).trans hS.2⟩ (fun hS=>?_)
    clear hK K hb HO
    refine tH 11 hS ?_
    try simp only [lA,lB,lC,Act.put,lD,lE,lF]
    refine tH 12 hS ?_
    try simp only [lA,lB,lC,Act.put,lD,lE,lF]
    refine tH 13 hS ?_
    try simp only [lA,lB,lC,Act.put,lD,lE,lF]
    refine wpAnyH_done (by kernel_rfl) ?_ _
    have HB3:=hid hS.1
    clear hS
    go_wp2
    go_ret
    exact ⟨by simp,HB3.out⟩
section
attribute [local go_sem] taPrepareSayFrame taPreparePrepareFrame
theorem acceptsPrepare (v:PV) (B:Nat) (w:World) (h:v.At w B) (hk:v.kp=3∨v.kp=5) (fr x2 x3 x4 x5:Int) (s:List UInt8) (b:Bool) (hb:(decide (0≤fr) && decide (fr < v.kp) && (fr != v.me))=b):Calls Tryz.prog 41 #[.pointer (some ⟨B,0,none⟩),.iface 153 (.agg #[.int .i64 fr,.int .i64 0,.int .i64 x2,.int .i64 x3,.int .i64 x4,.int .i64 x5,.string ⟨s.toArray⟩])] w fun e w'=>e=.returned (.bool (b && (fr == 0)))∧Below w.heap.size w w':=by
  have IO:Hid (∀ z,Below w.heap.size w z→Calls Tryz.prog 79 #[.pointer (some ⟨B,0,none⟩),.agg #[.int .i64 fr,.int .i64 0]] z fun e w'=>e=.returned (.bool (b && (fr == 0)))∧Below z.heap.size z w'):=fun z hz=>isOfItsHeadV v B z (h.below hz) hk fr b hb
  clear h hb hk
  generalize (b && (fr == 0))=bb at *
  go_enter Tryz.func41,Tryz.ntmps41
  go_wp2_with fail
  refine (IO.out _ ((Below.refl _ _).alloc (Nat.le_refl _) _)).mono ?_
  rintro e X1 ⟨rfl,hb1⟩
  have HB1:Hid (Below w.heap.size w X1):=((Below.refl _ w).alloc (Nat.le_refl _) _).trans (hb1.mono (by simp))
  clear hb1 IO
  go_wp2
  go_ret
  exact ⟨rfl,HB1.out⟩
end
section
attribute [local go_sem] taBeatSayFrame taBeatPrepareFrame taBeatBeatFrame
theorem acceptsBeat (v:PV) (B:Nat) (w:World) (h:v.At w B) (hk:v.kp=3∨v.kp=5) (fr x2:Int) (b:Bool) (hb:(decide (0≤fr) && decide (fr < v.kp) && (fr != v.me))=b):Calls Tryz.prog 41 #[.pointer (some ⟨B,0,none⟩),.iface 156 (.agg #[.int .i64 fr,.int .i64 0,.int .i64 x2])] w fun e w'=>e=.returned (.bool (b && (fr == 0)))∧Below w.heap.size w w':=by
  have IO:Hid (∀ z,Below w.heap.size w z→Calls Tryz.prog 79 #[.pointer (some ⟨B,0,none⟩),.agg #[.int .i64 fr,.int .i64 0]] z fun e w'=>e=.returned (.bool (b && (fr == 0)))∧Below z.heap.size z w'):=fun z hz=>isOfItsHeadV v B z (h.below hz) hk fr b hb
  clear h hb hk
  generalize (b && (fr == 0))=bb at *
  go_enter Tryz.func41,Tryz.ntmps41
  go_wp2_with fail
  refine (IO.out _ ((Below.refl _ _).alloc (Nat.le_refl _) _)).mono ?_
  rintro e X1 ⟨rfl,hb1⟩
  have HB1:Hid (Below w.heap.size w X1):=((Below.refl _ w).alloc (Nat.le_refl _) _).trans (hb1.mono (by simp))
  clear hb1 IO
  go_wp2
  go_ret
  exact ⟨rfl,HB1.out⟩
end
section
attribute [local go_sem] taBeginSayFrame taBeginPrepareFrame taBeginBeatFrame taBeginBeginFrame
theorem acceptsBegin (v:PV) (B:Nat) (w:World) (h:v.At w B) (hk:v.kp=3∨v.kp=5) (fr x2:Int) (a0:Option Addr) (n0 c0:Nat) (b:Bool) (hb:(decide (0≤fr) && decide (fr < v.kp) && (fr != v.me))=b):Calls Tryz.prog 41 #[.pointer (some ⟨B,0,none⟩),.iface 158 (.agg #[.int .i64 fr,.int .i64 0,.int .i64 x2,.slice a0 n0 c0])] w fun e w'=>e=.returned (.bool (b && (fr == 0)))∧Below w.heap.size w w':=by
  have IO:Hid (∀ z,Below w.heap.size w z→Calls Tryz.prog 79 #[.pointer (some ⟨B,0,none⟩),.agg #[.int .i64 fr,.int .i64 0]] z fun e w'=>e=.returned (.bool (b && (fr == 0)))∧Below z.heap.size z w'):=fun z hz=>isOfItsHeadV v B z (h.below hz) hk fr b hb
  clear h hb hk
  generalize (b && (fr == 0))=bb at *
  go_enter Tryz.func41,Tryz.ntmps41
  go_wp2_with fail
  refine (IO.out _ ((Below.refl _ _).alloc (Nat.le_refl _) _)).mono ?_
  rintro e X1 ⟨rfl,hb1⟩
  have HB1:Hid (Below w.heap.size w X1):=((Below.refl _ w).alloc (Nat.le_refl _) _).trans (hb1.mono (by simp))
  clear hb1 IO
  go_wp2
  go_ret
  exact ⟨rfl,HB1.out⟩
end
end
section
open Go.RowKit
attribute [local go_sem ↓] Go.wp_at_zero Go.wp_at_succ
theorem zeroOf:Tryz.t160.zero=some .nilIface:=by kernel_rfl
theorem taToldOf (v:Value) (w:World):(Instr.typeAssert (.iface 211 v) 105 160 true).run Tryz.prog w=.ok (.tuple #[.nilIface,.bool false]) w:=by
  simp [Instr.typeAssert]
  split
  · rename_i h
    exfalso
    revert h
    simp [Instr.missingMethod]
    decide +kernel
  · simp [zeroValue,zeroOf]
attribute [local go_sem] taToldSayFrame taToldPrepareFrame taToldBeatFrame taToldBeginFrame taToldOf
theorem acceptsTold (B:Nat) (w:World) (x:Value):Calls Tryz.prog 41 #[.pointer (some ⟨B,0,none⟩),.iface 211 x] w fun e w'=>e=.returned (.bool false)∧Below w.heap.size w w':=by
  go_enter Tryz.func41,Tryz.ntmps41
  go_wp2
  go_ret
  exact ⟨rfl,Below.refl _ _⟩
section
attribute [local go_sem] taLagHoldOfKeeper taLagChangeOfKeeper taLagYieldOfKeeper taLagLagOfKeeper stampedLag
theorem hearAsHeadLag (v:PV) (B:Nat) (w:World) (h:v.At w B) (fr:Int) (h20:v.m.ls.length≤20):Calls Tryz.prog 170 #[.pointer (some ⟨B,0,none⟩),.iface 209 (.agg #[.int .i64 fr,.int .i64 0])] w (SlRet (OutsChg w B v v [⟨false,fr,packS ⟨7,v.me,v.m.view,0,v.ag,0,Ln.zero,v.m.ls⟩⟩])):=by
  have BG:Hid (∀ z,Below w.heap.size w z→Calls Tryz.prog 166 #[.pointer (some ⟨B,0,none⟩)] z fun e w'=>e=.returned (.agg #[.int .i64 v.me,.int .i64 v.m.view,.int .i64 v.ag,.slice (v.gl.map fun k=>⟨k,0,none⟩) v.m.ls.length v.cl])∧Below z.heap.size z w'):=fun z hz=>beginV v B z (h.below hz)
  have AN:Hid (∀ z,Below w.heap.size w z→Calls Tryz.prog 165 #[.agg #[.int .i64 fr,.int .i64 0],.iface 158 (.agg #[.int .i64 v.me,.int .i64 v.m.view,.int .i64 v.ag,.slice (v.gl.map fun k=>⟨k,0,none⟩) v.m.ls.length v.cl])] z fun e y=>(∃ a n q,e=.returned (.slice a n q))∧OutsChg w B v v [⟨false,fr,packS ⟨7,v.me,v.m.view,0,v.ag,0,Ln.zero,v.m.ls⟩⟩] e y):=fun z hz=>by
    have hle:v.m.ls.length≤v.cl:=by
      rcases h.low with ⟨_,h1,h2⟩ | ⟨g,cur,_,_,_,h1,_⟩
      · omega
      · exact h1
    refine (answer_of _ ⟨7,v.me,v.m.view,0,v.ag,0,Ln.zero,v.m.ls⟩ fr 0 z (fun y hy=>bytesBegin v.me v.m.view v.ag v.m.ls _ v.cl y ((h.below hz).below hy).lb (by omega) hle)).mono ?_
    intro e y hh
    exact ⟨(hh.chg (h.below hz)).form,OutsChg.of (Chg.same h hz) (hh.chg (h.below hz))⟩
  generalize OutsChg w B v v [⟨false,fr,packS ⟨7,v.me,v.m.view,0,v.ag,0,Ln.zero,v.m.ls⟩⟩]=R at *
  clear h
  go_enter Tryz.func170,Tryz.ntmps170
  go_wp2_with fail
  refine (stamped_go fr 0 w).mono ?_
  rintro e X0 ⟨rfl,hb0⟩
  have HB0:=hid hb0
  clear hb0
  go_wp2_with fail
  refine (BG.out _ HB0.out).mono ?_
  rintro e X1 ⟨rfl,hb1⟩
  have HB1:=hid (HB0.out.trans (hb1.mono HB0.out.size))
  clear hb1
  go_wp2_with fail
  refine (AN.out _ HB1.out).mono ?_
  rintro e y ⟨⟨a,n,q,rfl⟩,hr⟩
  have HR:=hid hr
  clear hr AN BG
  go_wp2
  go_ret
  exact ⟨⟨a,n,q,rfl⟩,HR.out⟩
end
end
section
open Go.RowKit
def LK.pv (s:LK) (gd:Option Nat) (cd:Nat) (gl:Option Nat) (cl:Nat) (gf:Option Nat) (cf:Nat):PV:=⟨s.kp,s.me,s.pa,s.d,s.m,s.arm,s.lost,s.agreed,s.hs,gd,cd,gl,cl,gf,cf⟩
theorem LK.alive {s:LK} (hl:s.lost=[]):s.dead=false:=by unfold LK.dead;rw [hl];rfl
theorem kis_alive {w:World} {K:Nat} {F:Nat→Prop} {s:LK} (h:KIs_ w K F s) (hl:s.lost=[]):∃ gd cd gl cl gf cf,(s.pv gd cd gl cl gf cf).At w K∧∀ k,F k↔(s.pv gd cd gl cl gf cf).own K k:=by
  obtain ⟨gd,cd,gl,cl,gf,cf,h1,h2⟩:=h
  have hd:=LK.alive hl
  simp only [hd,LK.mv,LK.av,Bool.false_eq_true,if_false] at h1
  exact ⟨gd,cd,gl,cl,gf,cf,h1,h2⟩
theorem kis_of {w:World} {K:Nat} {s:LK} {gd:Option Nat} {cd:Nat} {gl:Option Nat} {cl:Nat} {gf:Option Nat} {cf:Nat} (h:(s.pv gd cd gl cl gf cf).At w K) (hl:s.lost=[]):KIs_ w K (fun k=>(s.pv gd cd gl cl gf cf).own K k) s:=by
  refine ⟨gd,cd,gl,cl,gf,cf,?_,fun k=>Iff.rfl⟩
  have hd:=LK.alive hl
  simp only [hd,LK.mv,LK.av,Bool.false_eq_true,if_false]
  exact h
theorem recBytes_ne (inner:List UInt8):(recBytes inner).isEmpty=false:=by
  have:=recBytes_len inner
  cases h:recBytes inner with
  | nil=>rw [h] at this;simp at this
  | cons x xs=>rfl
theorem kis_gone {w:World} {K:Nat} {s:LK} {gd:Option Nat} {cd:Nat} {gl:Option Nat} {cl:Nat} {gf:Option Nat} {cf:Nat} {inner:List UInt8} {g c:Nat} (h:((s.pv gd cd gl cl gf cf).crash inner g c).gone.At w K):KIs_ w K (fun k=>((s.pv gd cd gl cl gf cf).crash inner g c).gone.own K k) (s.crash inner):=by
  refine ⟨gd,cd,none,0,some g,c,?_,fun k=>Iff.rfl⟩
  have hd:(s.crash inner).dead=true:=by unfold LK.dead LK.crash;dsimp only;rw [recBytes_ne];rfl
  simp only [hd,LK.mv,LK.av,if_true]
  exact h
def PDid (w:World) (K:Nat) (F:Nat→Prop) (d:Did) (e:Ending) (w':World):Prop :=
  ∃ g c gs cs F',e=.returned (.tuple #[sl g d.os.length c,.int .i64 d.er])∧OwnOuts w w' g c d.os gs cs∧KIs_ w' K F' d.st∧Touch F w w'∧(∀ k,F' k→F k∨w.heap.size≤k)∧∀ k,(g=some k∨∃ j,j < d.os.length∧gs j=some k)→¬ F' k
theorem TupRet.did {w w':World} {K:Nat} {F:Nat→Prop} {v v':PV} {d:Did} {e:Ending} (h:TupRet w K v v' d.os d.er e w') (hF:∀ k,F k↔v.own K k) (hk:v'.At w' K→KIs_ w' K (fun k=>v'.own K k) d.st):PDid w K F d e w':=by
  obtain ⟨g,c,gs,cs,h1,h2,h3,h4⟩:=h
  exact ⟨g,c,gs,cs,fun k=>v'.own K k,h1,h2,hk h3.at_,h3.tch.mono (fun i _ e=>(hF i).2 e),fun k e=>by
    rcases h3.new k e with e | e
    · exact .inl ((hF k).2 e)
    · exact .inr e,h4⟩
theorem Ln.ok_fits {l:Ln} (h:l.ok=true):l.fits:=by
  unfold Ln.ok at h
  simp only [Bool.and_eq_true,decide_eq_true_eq] at h
  exact ⟨by omega,by omega,by omega,by omega,h.2⟩
def otherB (b:List UInt8):Prop:=∃ f,unpackR b=some f∧(f.kind=5∨f.kind=6∨(f.kind≠1∧f.view≠0))
theorem Fr.typed9 {f:Fr} (h:f.kind=9) (a:Option Addr) (cap:Nat):∃ x,f.typed a cap=.iface 211 x:=by
  unfold Fr.typed
  rw [if_neg (by omega),if_neg (by omega),if_neg (by omega),if_neg (by omega),if_neg (by omega),if_neg (by omega),if_neg (by omega),if_neg (by omega)]
  exact ⟨_,rfl⟩
end
section
open Go.RowKit
attribute [local go_sem ↓] Go.wp_at_zero Go.wp_at_succ
theorem hearHoldFar (v:PV) (B:Nat) (w:World) (h:v.At w B) (n:Nat) (hkn:v.kp=n) (h35:n=3∨n=5) (hme:0≤v.me∧v.me < n) (h20:v.ag≤20) (fr vw pl:Int) (hpl:v.m.ls.length < pl)
    (hf:Int) (hhf:heldFew v.hs v.me n=hf) (hag:hf≤v.ag) :
    Calls Tryz.prog 188 #[.pointer (some ⟨B,0,none⟩),.agg #[.int .i64 fr,.int .i64 vw,.int .i64 pl]] w (OutsChg w B v v []):=by
  have LV:Hid (∀ z,Below w.heap.size w z→Calls Tryz.prog 83 #[.pointer (some ⟨B,0,none⟩)] z fun e w'=>e=.returned (sl v.gl v.m.ls.length v.cl)∧Below z.heap.size z w'):=fun z hz=>linesV v B z (h.below hz)
  have HV:=hid h
  have HX:Hid (∀ y,Chg w y B v v→OutsChg w B v v [] (.returned (.slice none 0 0)) y):=fun y hc=>OutsChg.nil hc
  generalize OutsChg w B v v []=Q at *
  clear h
  go_enter Tryz.func188,Tryz.ntmps188
  go_wp2
  obtain ⟨Y,hY⟩:∃ Y,Y=w.alloc (.cells #[.int .i64 fr,.int .i64 vw,.int .i64 pl] 204):=⟨_,rfl⟩
  rw [← hY]
  have HBY:Hid (Below w.heap.size w Y):=by show Below _ _ _;rw [hY];exact (Below.refl _ _).alloc (Nat.le_refl _) _
  have HL:Hid (Y.heap[w.heap.size]?=some (.cells #[.int .i64 fr,.int .i64 vw,.int .i64 pl] 204 (0,0))):=by show _=_;rw [hY];exact heap_alloc_new w _
  clear hY
  refine wp_region_held_drew (S:=fun z:World=>z.heap[w.heap.size]?=some (.cells #[.int .i64 fr,.int .i64 vw,.int .i64 pl] 204 (0,0))) (by kernel_rfl) HL.out (fun hS=>?_)
  refine tH 0 hS ?_
  try simp only [lA,lB,lC,Act.put,lD,lE,lF]
  refine tH 2 hS ?_
  try simp only [lA,lB,lC,Act.put,lD,lE,lF]
  refine tH 1 hS ?_ (hy:=by (intro w hw;have s0:=cell_of_heap hw 0;have s1:=cell_of_heap hw 1;have s2:=cell_of_heap hw 2;simp only [List.getElem?_toArray,List.getElem?_cons_zero,List.getElem?_cons_succ] at s0 s1 s2;clear hw;go_simp;try with_reducible rfl))
  try simp only [lA,lB,lC,Act.put,lD,lE,lF]
  refine wpAnyH_ready (rs:=[3]) (by kernel_rfl) (by simp) ?_
  refine AllReadyH.cons rfl (fun K hK=>?_) AllReadyH.nil
  go_simp
  refine (LV.out _ HBY.out.drew).mono ?_
  rintro e X1 ⟨rfl,hbf⟩
  have HB1:=hid (HBY.out.drew.trans (hbf.mono HBY.out.size))
  have HL1:=hid ((hbf.block _ (heap_lt HL.out)).trans HL.out)
  clear hbf
  refine hK.out _ _ HL1.out (fun hS=>?_)
  clear hK K LV
  unfold sl
  have hpd:decide (pl≤(v.m.ls.length:Int))=false:=decide_eq_false (by omega)
  refine tH 4 hS ?_
  try simp only [lA,lB,lC,Act.put,lD,lE,lF]
  refine tH 5 hS ?_
  try simp only [lA,lB,lC,Act.put,lD,lE,lF]
  refine wpAnyH_done (by kernel_rfl) ?_ _
  clear hS
  have HC3:=hid (Chg.same HV.out HB1.out)
  have q9:X1.cell? ⟨B,9,none⟩=some (.int .i64 v.ag):=cell_of_heap HC3.out.at_.blk 9
  have HF:=hid (heldByFewV v B X1 HC3.out.at_ n hkn h35 hme)
  rw [hhf] at HF
  have HW:=hid h20
  clear hhf hpd hpl HB1 HBY HL HL1 HV h20
  go_wp2_with fail
  refine HF.out.mono ?_
  rintro e X3 ⟨rfl,hb3⟩
  have HC4:=hid (HC3.out.below hb3)
  clear hb3 HF HC3 q9
  have r9:X3.cell? ⟨B,9,none⟩=some (.int .i64 v.ag):=cell_of_heap HC4.out.at_.blk 9
  have f3:∀ j,X3.frozen? ⟨B,j,none⟩=false:=fun j=>frozen_of_heap HC4.out.at_.blk j
  have HC5:Hid (Chg w (X3.setCell ⟨B,9,none⟩ (.int .i64 (v.ag:Nat))) B v v):=HC4.out.trans (HC4.out.at_.setAg v.ag)
  have c1:¬ ((v.ag:Int) < hf):=by omega
  go_wp2
  clear r9 f3 c1 HC4
  generalize X3.setCell ⟨B,9,none⟩ (.int .i64 (v.ag:Nat))=Z2 at *
  have HW1:Hid (IntKind.i64.wrap ((v.ag:Int)+1)=((v.ag+1:Nat):Int)):=by show _=_;rw [IntWalk.i64_left,IntWalk.wrap64_in _ (by have:=HW.out;omega)];omega
  go_loopw [6,7] (fun r p wr=>r=.slice none 0 0∧p=.int .i64 (v.ag+1:Nat)∧Hid (Chg w wr B v v)) (fun _ _ _=>1)
  case atStart=>exact ⟨rfl,by rw [← HW1.out,IntWalk.i64_left],HC5⟩
  case round =>
    obtain ⟨rfl,rfl,HC⟩:=hrel
    have y9:wr.cell? ⟨B,9,none⟩=some (.int .i64 v.ag):=cell_of_heap HC.out.at_.blk 9
    have b1:¬ (((v.ag+1:Nat):Int)≤(v.ag:Int)):=by omega
    have HF:=hid (HX.out wr HC.out)
    clear HX HW1
    generalize hJ:((v.ag+1:Nat):Int)=J at *
    clear hJ
    go_wp2
    exact HF.out
end
section
open Go.RowKit
theorem fitsB_in {b:Bool} {n lo hi:Int} (h:fitsB b n lo hi=true) (h0:0≤lo) (h1:0≤hi):0≤n∧n≤hi:=by
  unfold fitsB at h
  split at h
  · simp only [Bool.and_eq_true,decide_eq_true_eq] at h
    omega
  · simp only [beq_iff_eq] at h
    omega
theorem Fr.okP {f:Fr} (h:f.ok=true):(0≤f.frm∧f.frm≤4)∧(0≤f.place∧f.place≤20)∧(0≤f.agreed∧f.agreed≤20):=by
  unfold Fr.ok at h
  simp only [Bool.and_eq_true,decide_eq_true_eq] at h
  obtain ⟨⟨⟨⟨⟨⟨⟨⟨⟨_,_⟩,f1⟩,f2⟩,f3⟩,f4⟩,f5⟩,_⟩,_⟩,_⟩:=h
  exact ⟨fitsB_in f1 (by omega) (by omega),fitsB_in f3 (by split <;> omega) (by omega),fitsB_in f4 (by omega) (by omega)⟩
theorem OutsChg.base {w x y:World} {B:Nat} {v u:PV} {os:List OutG} {e:Ending} (h:OutsChg x B v u os e y) (hv:v.At w B) (hb:Below w.heap.size w x):OutsChg w B v u os e y:=OutsChg.of (Chg.same hv hb) h
def HearDid (w:World) (B:Nat) (s:LK) (v:PV) (d:Did) (e:Ending) (y:World):Prop :=
  (d.er=0∧d.st.lost=[]∧∃ gd cd gl cl gf cf,OutsChg w B v (d.st.pv gd cd gl cl gf cf) d.os e y)∨(∃ inner gf cf,d=⟨[],4,s.crash inner⟩∧OutsChg w B v (v.crash inner gf cf) [] e y)
theorem HearDid.form {w:World} {B:Nat} {s:LK} {v:PV} {d:Did} {e:Ending} {y:World} (h:HearDid w B s v d e y):SlRet (HearDid w B s v d) e y:=by
  refine ⟨?_,h⟩
  rcases h with ⟨_,_,_,_,_,_,_,_,h⟩ | ⟨_,_,_,_,h⟩
  · exact h.form
  · exact h.form
section
variable (s:LK) (gd:Option Nat) (cd:Nat) (gl:Option Nat) (cl:Nat) (gf:Option Nat) (cf:Nat) (B:Nat) (w:World) (h:(s.pv gd cd gl cl gf cf).At w B) (hl:s.lost=[])
include h hl
theorem heardDid (F:Nat→Prop) (hF:∀ k,F k↔(s.pv gd cd gl cl gf cf).own B k) (gb o cap:Nat) (b:List UInt8) (hb:BytesIn w (some ⟨gb,o,none⟩) b) (hbn:b.length≤10000000) (hcap:b.length≤cap) (f:Fr) (hR:unpackR b=some f) (AV:∀ z a cp,Below w.heap.size w z→Calls Tryz.prog 41 #[.pointer (some ⟨B,0,none⟩),f.typed a cp] z fun e w'=>e=.returned (.bool true)∧Below z.heap.size z w')
    (d:Did) (HH:∀ z g c,Below w.heap.size w z→OwnLines w z g c f.lines→Calls Tryz.prog 43 #[.pointer (some ⟨B,0,none⟩),f.typed (g.map fun k=>(⟨k,0,none⟩:Addr)) c] z (HearDid w B s (s.pv gd cd gl cl gf cf) d)) :
    Calls Tryz.prog 21 #[.pointer (some ⟨B,0,none⟩),.slice (some ⟨gb,o,none⟩) b.length cap] w (PDid w B F d):=by
  by_cases he:d.er=0
  · refine (heardOkV _ B w h (fun u=>d.st.lost=[]∧∃ gd cd gl cl gf cf,u=d.st.pv gd cd gl cl gf cf) (fun u hu=>?_) d.os hl gb o cap b hb hbn hcap f hR AV (fun z g c hz ho=>(HH z g c hz ho).mono ?_)).mono ?_
    · obtain ⟨h1,_,_,_,_,_,_,rfl⟩:=hu;exact h1
    · intro e y hd
      rcases hd with ⟨_,h2,gd',cd',gl',cl',gf',cf',h3⟩ | ⟨inner,gf',cf',h1,_⟩
      · exact ⟨_,⟨h2,gd',cd',gl',cl',gf',cf',rfl⟩,h3⟩
      · rw [h1] at he;cases he
    · rintro e y ⟨v',⟨h2,gd',cd',gl',cl',gf',cf',rfl⟩,h3⟩
      rw [← he] at h3
      exact h3.did hF (fun ha=>kis_of ha h2)
  · refine (heardCrashV _ B w h (fun u=>∃ inner gf' cf',d=⟨[],4,s.crash inner⟩∧u=(s.pv gd cd gl cl gf cf).crash inner gf' cf') (fun u hu=>?_) hl gb o cap b hb hbn hcap f hR AV (fun z g c hz ho=>(HH z g c hz ho).mono ?_)).mono ?_
    · obtain ⟨inner,gf',cf',_,rfl⟩:=hu
      show 0 < (recBytes inner).length
      rw [recBytes_len];omega
    · intro e y hd
      rcases hd with ⟨h1,_⟩ | ⟨inner,gf',cf',h1,h2⟩
      · exact absurd h1 he
      · exact ⟨_,⟨inner,gf',cf',h1,rfl⟩,h2⟩
    · rintro e y ⟨v',⟨inner,gf',cf',rfl,rfl⟩,h3⟩
      exact TupRet.did (d:=⟨[],4,s.crash inner⟩) h3 hF (fun ha=>kis_gone ha)
theorem hearSayD (hi:IvL s) (l:Ln) (hf:l.fits) (z:World) (hz:Below w.heap.size w z):Calls Tryz.prog 81 #[.pointer (some ⟨B,0,none⟩),.agg #[.int .i64 l.c,.int .i64 l.t,.string ⟨l.s.toArray⟩]] z (HearDid w B s (s.pv gd cd gl cl gf cf) (s.say l)):=by
  have hk:=hi.conf.1
  have h0:=hi.v0
  have hz':=h.below hz
  have h20:=hi.l20
  have hkn:=hi.conf.nat
  unfold LK.say
  by_cases hm:s.me=0
  · rw [if_neg (by simpa using hm)]
    by_cases ht:l.t≤turnOf s.m.ls l.c
    · rw [if_pos ht]
      refine (hearSayTold _ B z hz' hk h0.1 h0.2 hm h20 hi.ag hi.lok l ht).mono ?_
      exact fun e y hh=>.inl ⟨rfl,hl,gd,cd,gl,cl,gf,cf,hh.base h hz⟩
    · rw [if_neg ht]
      by_cases h2:20≤s.m.ls.length
      · rw [if_pos h2]
        refine (hearSayFull _ B z hz' hk h0.1 h0.2 hm (Nat.le_antisymm h20 h2) l (by show turnOf s.m.ls l.c < l.t;omega)).mono ?_
        exact fun e y hh=>.inl ⟨rfl,hl,gd,cd,gl,cl,gf,cf,hh.base h hz⟩
      · rw [if_neg h2]
        by_cases ha:s.arm=1
        · rw [if_pos ha]
          refine (hearSayFail _ B z hz' hk h0.1 h0.2 hm (by show s.m.ls.length < 20;omega) hl ha l hf (by show turnOf s.m.ls l.c < l.t;omega)).mono ?_
          rintro e y ⟨gf',cf',hh⟩
          exact .inr ⟨_,gf',cf',rfl,hh.base h hz⟩
        · rw [if_neg ha]
          have hd:=hi.len
          have hA:=hi.arm
          refine (hearSayOkV _ B z hz' s.kp.toNat hkn.2.symm hk (by show 0≤s.m.view;omega) (by show s.m.last=s.m.view;omega) (by show s.m.view % s.kp=s.me;rw [h0.1,hm];rfl) hl (armNext s.arm) (by
            show (s.arm=0∧armNext s.arm=0)∨(2≤s.arm∧s.arm≤9223372036854775807∧armNext s.arm=s.arm - 1)
            unfold armNext
            split <;> omega) l hf (by show turnOf s.m.ls l.c < l.t;omega) (by show s.m.ls.length < 20;omega) (by show s.d.length≤9900000;omega)).mono ?_
          rintro e y ⟨g,c,gs,cs,gd',cd',gl',cl',h1,h2,h3,h4⟩
          refine .inl ⟨rfl,hl,gd',cd',gl',cl',gf,cf,OutsChg.base (x:=z) ⟨g,c,gs,cs,?_,h2,h3,?_⟩ h hz⟩
          · rw [h1];unfold LK.toAll;rw [List.length_map];rfl
          · have hlen:0 < (othersL s.me s.kp.toNat).length:=by
              have:=othersL_len1 (me:=s.me) s.kp.toNat hi.conf.2.1
              rw [this]
              split <;> omega
            intro k e
            rcases e with e | ⟨j,hj,e⟩
            · exact h4 0 hlen k (.inl e)
            · exact h4 j (by unfold LK.toAll at hj;rwa [List.length_map] at hj) k (.inr e)
  · rw [if_pos (by simpa using hm)]
    refine (hearSayNot _ B z hz' hk h0.1 h0.2 (fun e=>hm e.symm) l).mono ?_
    exact fun e y hh=>.inl ⟨rfl,hl,gd,cd,gl,cl,gf,cf,hh.base h hz⟩
end
end
end Go.Proofs.YtolififimldmlaaGreat
