import Derived.Test.YtolififimldmlaaGreatPart27
set_option linter.unusedVariables false
set_option linter.unusedSimpArgs false
set_option maxRecDepth 100000
set_option maxHeartbeats 16000000
namespace Go.Proofs.YtolififimldmlaaGreat
section
open Go.RowKit
attribute [local go_sem ↓] Go.wp_at_zero Go.wp_at_succ
def emptyW (w:World):World:={ w with heap:=#[] }
theorem recBytes_len (l:List UInt8):(recBytes l).length=l.length+3:=by
  unfold recBytes withChk
  simp
theorem writeOkV (v:PV) (B:Nat) (w:World) (h:v.At w B) (hl:v.lost=[]) (narm:Int) (harm:(v.arm=0∧narm=0)∨(2≤v.arm∧v.arm≤9223372036854775807∧narm=v.arm - 1)) (a:Option Addr) (n c:Nat) (inner:List UInt8) (hb:BytesIn w a inner) (hna:∀ p,a=some p→¬ v.own B p.block) (hil:inner.length=n) (hin:inner.length≤1000) (hcap:inner.length≤c)
    (m':Mm) (hcd:candM v.m inner=some m') (h20:v.m.ls.length≤20) (hdl:v.d.length≤9900000) :
    Calls Tryz.prog 163 #[.pointer (some ⟨B,3,none⟩),.slice a n c] w fun e w'=>∃ gd' cd' gl' cl',e=.returned (.bool true)∧Chg w w' B v { v with arm:=narm,d:=v.d++recBytes inner,gd:=gd',cd:=cd',m:=m',gl:=gl',cl:=cl' }:=by
  have FV:=hid (failedV v B w h)
  rw [hl] at FV
  have hBT:∀ z,Touch (fun k=>v.own B k) w z→BytesIn z a inner:=fun z hz=>by
    cases a with
    | none=>exact fun j hj=>by obtain ⟨_,_,e,_⟩:=hb j hj;cases e
    | some p =>
      intro j hj
      obtain ⟨g,o,e,hc⟩:=hb j hj
      exact ⟨g,o,e,hz.cell hc (by cases e;exact hna ⟨g,o,none⟩ rfl)⟩
  have HBT:=hid hBT
  have HAF:Hid (∀ (X4:World) {gd':Option Nat} {cd':Nat},Chg w X4 B v { v with arm:=narm,d:=v.d++recBytes inner,gd:=gd',cd:=cd' }→Calls Tryz.prog 130 #[.agg #[.int .i64 v.m.view,.int .i64 v.m.last,.slice (v.gl.map fun k=>⟨k,0,none⟩) v.m.ls.length v.cl],.slice a n c] X4 (AfterRet (emptyW w) X4 v.m v.gl v.cl (candM v.m inner))):=fun X4 gd' cd' hc =>
    after_go v.m v.gl v.cl a n c inner (emptyW w) X4 X4 ⟨hc.at_.lb,hc.at_.low,fun k _=>Nat.zero_le _⟩ h20 (Nat.zero_le _) (hBT X4 hc.tch) (Below.refl _ _) hil (by omega) hcap
  have HCD:=hid hcd
  have HV:=hid h
  have hB:=h.lt
  have HRL:=hid (recBytes_len inner)
  have C7:Hid (w.cell? ⟨B,7,none⟩=some (.int .i64 v.arm)):=cell_of_heap h.blk 7
  clear h hb hcd hl hBT
  have h3:Hid (v.arm=0∧narm=0∨2≤v.arm∧v.arm≤9223372036854775807∧narm=v.arm - 1):=harm
  go_enter Tryz.func163,Tryz.ntmps163
  go_wp2_with fail
  refine FV.out.mono ?_
  rintro e X0 ⟨rfl,hb0⟩
  have HB0:=hid hb0
  have c7:=(hb0.cell (World.block_lt_of_cell? _ _ C7.out)).trans C7.out
  have f7:∀ j,X0.frozen? ⟨B,j,none⟩=false:=fun j=>frozen_of_heap (HV.out.below hb0).blk j
  clear hb0 FV
  simp only [List.length_nil,Nat.lt_irrefl,decide_false]
  have C1:Hid (Chg w (X0.setCell ⟨B,7,none⟩ (.int .i64 narm)) B v { v with arm:=narm }):=Chg.of HB0.out HV.out ((HV.out.below HB0.out).arm narm)
  rcases harm with ⟨ha0,hn0⟩ | ⟨ha2,ha3,ha4⟩
  · have HW1:Hid (X0.setCell ⟨B,7,none⟩ (.int .i64 0)=X0.setCell ⟨B,7,none⟩ (.int .i64 narm)):=by show _=_;rw [hn0]
    rw [ha0] at c7
    clear ha0 hn0
    go_wp2
    rw [HW1.out]
    clear c7 f7 HW1
    generalize X0.setCell ⟨B,7,none⟩ (.int .i64 narm)=X1 at *
    have HV1:=hid C1.out.at_
    have HWH:Hid (∀ z,Below X1.heap.size X1 z→Calls Tryz.prog 184 #[.slice a n c] z fun e w'=>∃ g cq,e=.returned (.slice (some ⟨g,0,none⟩) (recBytes inner).length cq)∧OwnBytes z w' (some g) cq (recBytes inner)∧Below z.heap.size z w'):=fun z hz=>whole_go a n c inner z ((HBT.out X1 C1.out.tch).below hz) hil hin
    have p3:=cell_of_heap HV1.out.blk 3
    unfold progCells at p3
    simp only [List.getElem?_toArray,List.getElem?_cons_zero,List.getElem?_cons_succ] at p3
    unfold sl at p3
    refine wp_region_any (by kernel_rfl) ?_
    try (change wpAny _ _ _ _ _ _ _ (World.drew _))
    refine tA 0 ?_
    try simp only [lA,lB,lC,Act.put,lD,lE,lF]
    refine tA 1 ?_
    try simp only [lA,lB,lC,Act.put,lD,lE,lF]
    refine tA 2 ?_
    try simp only [lA,lB,lC,Act.put,lD,lE,lF]
    refine tA 3 ?_
    try simp only [lA,lB,lC,Act.put,lD,lE,lF]
    refine tA 5 ?_
    try simp only [lA,lB,lC,Act.put,lD,lE,lF]
    refine wpAny_ready (rs:=[4,6]) (by kernel_rfl) (by simp) ?_
    refine AllReady.cons rfl (fun K hK=>?_) (AllReady.cons rfl (fun K hK=>?_) AllReady.nil)
    · go_simp
      refine hK _ _ ?_
      clear hK K
      refine wpAny_ready (rs:=[6]) (by kernel_rfl) (by simp) ?_
      refine AllReady.cons rfl (fun K hK=>?_) AllReady.nil
      go_simp
      refine (HWH.out _ ((Below.refl _ _).drew)).mono ?_
      rintro e X2 ⟨gw,cw,rfl,ho,hbf⟩
      have hb2a:Below X1.heap.size X1 X2:=(Below.refl _ X1).drew.trans hbf
      clear hbf p3
      refine hK _ _ ?_
      clear hK K
      try simp only [Act.put,List.setIfInBounds_toArray,List.set_cons_zero,List.set_cons_succ]
      have HX2:=hid (hb2a)
      have HV2:=hid (HV1.out.below HX2.out)
      have HOB:=hid (ho.base (u:=X1) (Nat.le_refl _))
      obtain ⟨gd',cd',X3,hr,ha3,ho3,ht3,hn3⟩:=run_appR (w:=X2) (b:=v.gd) (c:=v.cd) (l:=v.d) (l2:=recBytes inner) 31 31 (.slice (some ⟨gw,0,none⟩) (recBytes inner).length cw) HV2.out.db HV2.out.dow (bytes_src (some ⟨gw,0,none⟩) _ cw (recBytes inner) X2 HOB.out.at_.in_ rfl) (by have:=HRL.out;omega)
      have HC4:Hid (Chg w (X3.setCell ⟨B,3,none⟩ (.slice (gd'.map fun k=>⟨k,0,none⟩) (v.d.length+(recBytes inner).length) cd')) B v { v with arm:=narm,d:=v.d++recBytes inner,gd:=gd',cd:=cd' }) :=
        C1.out.trans (Chg.of HX2.out HV1.out (diskChg (v:={ v with arm:=narm }) HV2.out ha3 ho3 ht3 hn3 (by rw [List.length_append])))
      have HB3:Hid (X3.heap[B]?=some (.cells (progCells v.kp v.me v.pa v.gd v.d.length v.cd v.m v.gl v.cl narm v.gf v.lost.length v.cf v.ag v.hs) 103 (0,0))):=ht3.heapAt HV2.out.blk (fun e=>HV.out.ne1.1 e)
      have HR:=hid hr
      unfold sl at HR
      clear hr ha3 ho3 ht3 hn3 ho hb2a
      refine wpAny_ready (rs:=[7]) (by kernel_rfl) (by simp) ?_
      refine AllReady.cons rfl (fun KK hKK=>?_) AllReady.nil
      refine step_appRun rfl (.tmp 34) (.tmp 36) 31 31 rfl _ _ _ _ rfl rfl HR.out ?_
      refine hKK _ _ ?_
      clear hKK KK HR
      try simp only [Act.put,List.setIfInBounds_toArray,List.set_cons_zero,List.set_cons_succ]
      refine tA 8 ?_
      try simp only [lA,lB,lC,Act.put,lD,lE,lF]
      refine tA 9 ?_
      try simp only [lA,lB,lC,Act.put,lD,lE,lF]
      have q3:=cell_of_heap HB3.out 3
      unfold progCells at q3
      simp only [List.getElem?_toArray,List.getElem?_cons_zero,List.getElem?_cons_succ] at q3
      have f3:∀ j,X3.frozen? ⟨B,j,none⟩=false:=fun j=>frozen_of_heap HB3.out j
      unfold sl at q3
      refine wpAny_ready (rs:=[10]) (by kernel_rfl) (by simp) ?_
      refine AllReady.cons rfl (fun KK hKK=>?_) AllReady.nil
      go_simp
      refine hKK _ _ ?_
      clear hKK KK
      refine wpAny_done (by kernel_rfl) ?_ _
      have C4:Hid (Chg w (X3.setCell ⟨B,3,none⟩ (.slice (gd'.map fun k=>⟨k,0,none⟩) (v.d.length+(recBytes inner).length) cd')) B v { v with arm:=narm,d:=v.d++recBytes inner,gd:=gd',cd:=cd' }):=HC4.out
      have HV4:=hid C4.out.at_
      clear q3 f3 HC4
      generalize X3.setCell ⟨B,3,none⟩ (.slice (gd'.map fun k=>⟨k,0,none⟩) (v.d.length+(recBytes inner).length) cd')=X4 at *
      have q4:=cell_of_heap HV4.out.blk 4
      have q5:=cell_of_heap HV4.out.blk 5
      have q6:=cell_of_heap HV4.out.blk 6
      unfold progCells at q4 q5 q6
      simp only [List.getElem?_toArray,List.getElem?_cons_zero,List.getElem?_cons_succ] at q4 q5 q6
      unfold sl at q6
      have f4:∀ j,X4.frozen? ⟨B,j,none⟩=false:=fun j=>frozen_of_heap HV4.out.blk j
      go_wp2_with fail
      refine (HAF.out X4 C4.out).mono ?_
      rintro e X5 ⟨h1,h2,h3⟩
      rcases h3 with ⟨hcd,_⟩ | ⟨nn,gl',cl',hcd,rfl,ho,hfr⟩
      · rw [HCD.out] at hcd;cases hcd
      rw [HCD.out] at hcd
      cases hcd
      have HO5:=hid ho
      have HT5:=hid h2
      have HFR:=hid hfr
      clear h1 h2 ho hfr
      have hnB:∀ k,v.gl=some k→¬ (k=B):=fun k e e2=>HV.out.ne1.2.1 (by rw [e,e2])
      have hb5:X5.heap[B]?=_:=HT5.out.heapAt HV4.out.blk (fun e=>HV.out.ne1.2.1 e)
      have r4:=cell_of_heap hb5 4
      have r5:=cell_of_heap hb5 5
      have r6:=cell_of_heap hb5 6
      have HB5:=hid hb5
      unfold progCells at r4 r5 r6
      simp only [List.getElem?_toArray,List.getElem?_cons_zero,List.getElem?_cons_succ] at r4 r5 r6
      unfold sl at r6
      have f5:∀ j,X5.frozen? ⟨B,j,none⟩=false:=fun j=>frozen_of_heap hb5 j
      clear q4 q5 q6 f4 hb5
      have HMV:Hid (m'.val (gl'.map fun x=>(⟨x,0,none⟩:Addr)) cl'=.agg #[.int .i64 m'.view,.int .i64 m'.last,.slice (gl'.map fun x=>⟨x,0,none⟩) m'.ls.length cl']):=rfl
      rw [HMV.out]
      have FIN:Hid (Chg w (((X5.setCell ⟨B,4,none⟩ (.int .i64 m'.view)).setCell ⟨B,5,none⟩ (.int .i64 m'.last)).setCell ⟨B,6,none⟩ (.slice (gl'.map fun x=>⟨x,0,none⟩) m'.ls.length cl')) B v { v with arm:=narm,d:=v.d++recBytes inner,gd:=gd',cd:=cd',m:=m',gl:=gl',cl:=cl' }):=saidChg (u:={ v with arm:=narm,d:=v.d++recBytes inner,gd:=gd',cd:=cd' }) C4.out HB5.out HT5.out HO5.out HFR.out
      clear HO5 HT5 HFR HB5 C4 HV4
      go_wp2
      go_ret
      exact ⟨gd',cd',gl',cl',rfl,FIN.out⟩
    · go_simp
      refine (HWH.out _ ((Below.refl _ _).drew)).mono ?_
      rintro e X2 ⟨gw,cw,rfl,ho,hbf⟩
      have hb2a:Below X1.heap.size X1 X2:=(Below.refl _ X1).drew.trans hbf
      have p32:=(hb2a.cell (World.block_lt_of_cell? _ _ p3)).trans p3
      clear hbf p3
      refine hK _ _ ?_
      clear hK K
      try simp only [Act.put,List.setIfInBounds_toArray,List.set_cons_zero,List.set_cons_succ]
      refine wpAny_ready (rs:=[4]) (by kernel_rfl) (by simp) ?_
      refine AllReady.cons rfl (fun K hK=>?_) AllReady.nil
      go_simp
      refine hK _ _ ?_
      clear hK K p32
      have HX2:=hid (hb2a)
      have HV2:=hid (HV1.out.below HX2.out)
      have HOB:=hid (ho.base (u:=X1) (Nat.le_refl _))
      obtain ⟨gd',cd',X3,hr,ha3,ho3,ht3,hn3⟩:=run_appR (w:=X2) (b:=v.gd) (c:=v.cd) (l:=v.d) (l2:=recBytes inner) 31 31 (.slice (some ⟨gw,0,none⟩) (recBytes inner).length cw) HV2.out.db HV2.out.dow (bytes_src (some ⟨gw,0,none⟩) _ cw (recBytes inner) X2 HOB.out.at_.in_ rfl) (by have:=HRL.out;omega)
      have HC4:Hid (Chg w (X3.setCell ⟨B,3,none⟩ (.slice (gd'.map fun k=>⟨k,0,none⟩) (v.d.length+(recBytes inner).length) cd')) B v { v with arm:=narm,d:=v.d++recBytes inner,gd:=gd',cd:=cd' }) :=
        C1.out.trans (Chg.of HX2.out HV1.out (diskChg (v:={ v with arm:=narm }) HV2.out ha3 ho3 ht3 hn3 (by rw [List.length_append])))
      have HB3:Hid (X3.heap[B]?=some (.cells (progCells v.kp v.me v.pa v.gd v.d.length v.cd v.m v.gl v.cl narm v.gf v.lost.length v.cf v.ag v.hs) 103 (0,0))):=ht3.heapAt HV2.out.blk (fun e=>HV.out.ne1.1 e)
      have HR:=hid hr
      unfold sl at HR
      clear hr ha3 ho3 ht3 hn3 ho hb2a
      refine wpAny_ready (rs:=[7]) (by kernel_rfl) (by simp) ?_
      refine AllReady.cons rfl (fun KK hKK=>?_) AllReady.nil
      refine step_appRun rfl (.tmp 34) (.tmp 36) 31 31 rfl _ _ _ _ rfl rfl HR.out ?_
      refine hKK _ _ ?_
      clear hKK KK HR
      try simp only [Act.put,List.setIfInBounds_toArray,List.set_cons_zero,List.set_cons_succ]
      refine tA 8 ?_
      try simp only [lA,lB,lC,Act.put,lD,lE,lF]
      refine tA 9 ?_
      try simp only [lA,lB,lC,Act.put,lD,lE,lF]
      have q3:=cell_of_heap HB3.out 3
      unfold progCells at q3
      simp only [List.getElem?_toArray,List.getElem?_cons_zero,List.getElem?_cons_succ] at q3
      have f3:∀ j,X3.frozen? ⟨B,j,none⟩=false:=fun j=>frozen_of_heap HB3.out j
      unfold sl at q3
      refine wpAny_ready (rs:=[10]) (by kernel_rfl) (by simp) ?_
      refine AllReady.cons rfl (fun KK hKK=>?_) AllReady.nil
      go_simp
      refine hKK _ _ ?_
      clear hKK KK
      refine wpAny_done (by kernel_rfl) ?_ _
      have C4:Hid (Chg w (X3.setCell ⟨B,3,none⟩ (.slice (gd'.map fun k=>⟨k,0,none⟩) (v.d.length+(recBytes inner).length) cd')) B v { v with arm:=narm,d:=v.d++recBytes inner,gd:=gd',cd:=cd' }):=HC4.out
      have HV4:=hid C4.out.at_
      clear q3 f3 HC4
      generalize X3.setCell ⟨B,3,none⟩ (.slice (gd'.map fun k=>⟨k,0,none⟩) (v.d.length+(recBytes inner).length) cd')=X4 at *
      have q4:=cell_of_heap HV4.out.blk 4
      have q5:=cell_of_heap HV4.out.blk 5
      have q6:=cell_of_heap HV4.out.blk 6
      unfold progCells at q4 q5 q6
      simp only [List.getElem?_toArray,List.getElem?_cons_zero,List.getElem?_cons_succ] at q4 q5 q6
      unfold sl at q6
      have f4:∀ j,X4.frozen? ⟨B,j,none⟩=false:=fun j=>frozen_of_heap HV4.out.blk j
      go_wp2_with fail
      refine (HAF.out X4 C4.out).mono ?_
      rintro e X5 ⟨h1,h2,h3⟩
      rcases h3 with ⟨hcd,_⟩ | ⟨nn,gl',cl',hcd,rfl,ho,hfr⟩
      · rw [HCD.out] at hcd;cases hcd
      rw [HCD.out] at hcd
      cases hcd
      have HO5:=hid ho
      have HT5:=hid h2
      have HFR:=hid hfr
      clear h1 h2 ho hfr
      have hnB:∀ k,v.gl=some k→¬ (k=B):=fun k e e2=>HV.out.ne1.2.1 (by rw [e,e2])
      have hb5:X5.heap[B]?=_:=HT5.out.heapAt HV4.out.blk (fun e=>HV.out.ne1.2.1 e)
      have r4:=cell_of_heap hb5 4
      have r5:=cell_of_heap hb5 5
      have r6:=cell_of_heap hb5 6
      have HB5:=hid hb5
      unfold progCells at r4 r5 r6
      simp only [List.getElem?_toArray,List.getElem?_cons_zero,List.getElem?_cons_succ] at r4 r5 r6
      unfold sl at r6
      have f5:∀ j,X5.frozen? ⟨B,j,none⟩=false:=fun j=>frozen_of_heap hb5 j
      clear q4 q5 q6 f4 hb5
      have HMV:Hid (m'.val (gl'.map fun x=>(⟨x,0,none⟩:Addr)) cl'=.agg #[.int .i64 m'.view,.int .i64 m'.last,.slice (gl'.map fun x=>⟨x,0,none⟩) m'.ls.length cl']):=rfl
      rw [HMV.out]
      have FIN:Hid (Chg w (((X5.setCell ⟨B,4,none⟩ (.int .i64 m'.view)).setCell ⟨B,5,none⟩ (.int .i64 m'.last)).setCell ⟨B,6,none⟩ (.slice (gl'.map fun x=>⟨x,0,none⟩) m'.ls.length cl')) B v { v with arm:=narm,d:=v.d++recBytes inner,gd:=gd',cd:=cd',m:=m',gl:=gl',cl:=cl' }):=saidChg (u:={ v with arm:=narm,d:=v.d++recBytes inner,gd:=gd',cd:=cd' }) C4.out HB5.out HT5.out HO5.out HFR.out
      clear HO5 HT5 HFR HB5 C4 HV4
      go_wp2
      go_ret
      exact ⟨gd',cd',gl',cl',rfl,FIN.out⟩
  · have wa:IntKind.i64.wrap (v.arm - 1)=v.arm - 1:=by rw [IntWalk.i64_left,IntWalk.wrap64_in _ (by omega)]
    have n1:(v.arm == 1)=false:=beq_eq_false_iff_ne.2 (by omega)
    have n2:¬ (v.arm - 1 < 0):=by omega
    have HW1:Hid (X0.setCell ⟨B,7,none⟩ (.int .i64 (v.arm - 1))=X0.setCell ⟨B,7,none⟩ (.int .i64 narm)):=by show _=_;rw [ha4]
    clear ha4
    go_wp2
    rw [HW1.out]
    clear c7 f7 HW1
    generalize X0.setCell ⟨B,7,none⟩ (.int .i64 narm)=X1 at *
    have HV1:=hid C1.out.at_
    have HWH:Hid (∀ z,Below X1.heap.size X1 z→Calls Tryz.prog 184 #[.slice a n c] z fun e w'=>∃ g cq,e=.returned (.slice (some ⟨g,0,none⟩) (recBytes inner).length cq)∧OwnBytes z w' (some g) cq (recBytes inner)∧Below z.heap.size z w'):=fun z hz=>whole_go a n c inner z ((HBT.out X1 C1.out.tch).below hz) hil hin
    have p3:=cell_of_heap HV1.out.blk 3
    unfold progCells at p3
    simp only [List.getElem?_toArray,List.getElem?_cons_zero,List.getElem?_cons_succ] at p3
    unfold sl at p3
    refine wp_region_any (by kernel_rfl) ?_
    try (change wpAny _ _ _ _ _ _ _ (World.drew _))
    refine tA 0 ?_
    try simp only [lA,lB,lC,Act.put,lD,lE,lF]
    refine tA 1 ?_
    try simp only [lA,lB,lC,Act.put,lD,lE,lF]
    refine tA 2 ?_
    try simp only [lA,lB,lC,Act.put,lD,lE,lF]
    refine tA 3 ?_
    try simp only [lA,lB,lC,Act.put,lD,lE,lF]
    refine tA 5 ?_
    try simp only [lA,lB,lC,Act.put,lD,lE,lF]
    refine wpAny_ready (rs:=[4,6]) (by kernel_rfl) (by simp) ?_
    refine AllReady.cons rfl (fun K hK=>?_) (AllReady.cons rfl (fun K hK=>?_) AllReady.nil)
    · go_simp
      refine hK _ _ ?_
      clear hK K
      refine wpAny_ready (rs:=[6]) (by kernel_rfl) (by simp) ?_
      refine AllReady.cons rfl (fun K hK=>?_) AllReady.nil
      go_simp
      refine (HWH.out _ ((Below.refl _ _).drew)).mono ?_
      rintro e X2 ⟨gw,cw,rfl,ho,hbf⟩
      have hb2a:Below X1.heap.size X1 X2:=(Below.refl _ X1).drew.trans hbf
      clear hbf p3
      refine hK _ _ ?_
      clear hK K
      try simp only [Act.put,List.setIfInBounds_toArray,List.set_cons_zero,List.set_cons_succ]
      have HX2:=hid (hb2a)
      have HV2:=hid (HV1.out.below HX2.out)
      have HOB:=hid (ho.base (u:=X1) (Nat.le_refl _))
      obtain ⟨gd',cd',X3,hr,ha3,ho3,ht3,hn3⟩:=run_appR (w:=X2) (b:=v.gd) (c:=v.cd) (l:=v.d) (l2:=recBytes inner) 31 31 (.slice (some ⟨gw,0,none⟩) (recBytes inner).length cw) HV2.out.db HV2.out.dow (bytes_src (some ⟨gw,0,none⟩) _ cw (recBytes inner) X2 HOB.out.at_.in_ rfl) (by have:=HRL.out;omega)
      have HC4:Hid (Chg w (X3.setCell ⟨B,3,none⟩ (.slice (gd'.map fun k=>⟨k,0,none⟩) (v.d.length+(recBytes inner).length) cd')) B v { v with arm:=narm,d:=v.d++recBytes inner,gd:=gd',cd:=cd' }) :=
        C1.out.trans (Chg.of HX2.out HV1.out (diskChg (v:={ v with arm:=narm }) HV2.out ha3 ho3 ht3 hn3 (by rw [List.length_append])))
      have HB3:Hid (X3.heap[B]?=some (.cells (progCells v.kp v.me v.pa v.gd v.d.length v.cd v.m v.gl v.cl narm v.gf v.lost.length v.cf v.ag v.hs) 103 (0,0))):=ht3.heapAt HV2.out.blk (fun e=>HV.out.ne1.1 e)
      have HR:=hid hr
      unfold sl at HR
      clear hr ha3 ho3 ht3 hn3 ho hb2a
      refine wpAny_ready (rs:=[7]) (by kernel_rfl) (by simp) ?_
      refine AllReady.cons rfl (fun KK hKK=>?_) AllReady.nil
      refine step_appRun rfl (.tmp 34) (.tmp 36) 31 31 rfl _ _ _ _ rfl rfl HR.out ?_
      refine hKK _ _ ?_
      clear hKK KK HR
      try simp only [Act.put,List.setIfInBounds_toArray,List.set_cons_zero,List.set_cons_succ]
      refine tA 8 ?_
      try simp only [lA,lB,lC,Act.put,lD,lE,lF]
      refine tA 9 ?_
      try simp only [lA,lB,lC,Act.put,lD,lE,lF]
      have q3:=cell_of_heap HB3.out 3
      unfold progCells at q3
      simp only [List.getElem?_toArray,List.getElem?_cons_zero,List.getElem?_cons_succ] at q3
      have f3:∀ j,X3.frozen? ⟨B,j,none⟩=false:=fun j=>frozen_of_heap HB3.out j
      unfold sl at q3
      refine wpAny_ready (rs:=[10]) (by kernel_rfl) (by simp) ?_
      refine AllReady.cons rfl (fun KK hKK=>?_) AllReady.nil
      go_simp
      refine hKK _ _ ?_
      clear hKK KK
      refine wpAny_done (by kernel_rfl) ?_ _
      have C4:Hid (Chg w (X3.setCell ⟨B,3,none⟩ (.slice (gd'.map fun k=>⟨k,0,none⟩) (v.d.length+(recBytes inner).length) cd')) B v { v with arm:=narm,d:=v.d++recBytes inner,gd:=gd',cd:=cd' }):=HC4.out
      have HV4:=hid C4.out.at_
      clear q3 f3 HC4
      generalize X3.setCell ⟨B,3,none⟩ (.slice (gd'.map fun k=>⟨k,0,none⟩) (v.d.length+(recBytes inner).length) cd')=X4 at *
      have q4:=cell_of_heap HV4.out.blk 4
      have q5:=cell_of_heap HV4.out.blk 5
      have q6:=cell_of_heap HV4.out.blk 6
      unfold progCells at q4 q5 q6
      simp only [List.getElem?_toArray,List.getElem?_cons_zero,List.getElem?_cons_succ] at q4 q5 q6
      unfold sl at q6
      have f4:∀ j,X4.frozen? ⟨B,j,none⟩=false:=fun j=>frozen_of_heap HV4.out.blk j
      go_wp2_with fail
      refine (HAF.out X4 C4.out).mono ?_
      rintro e X5 ⟨h1,h2,h3⟩
      rcases h3 with ⟨hcd,_⟩ | ⟨nn,gl',cl',hcd,rfl,ho,hfr⟩
      · rw [HCD.out] at hcd;cases hcd
      rw [HCD.out] at hcd
      cases hcd
      have HO5:=hid ho
      have HT5:=hid h2
      have HFR:=hid hfr
      clear h1 h2 ho hfr
      have hnB:∀ k,v.gl=some k→¬ (k=B):=fun k e e2=>HV.out.ne1.2.1 (by rw [e,e2])
      have hb5:X5.heap[B]?=_:=HT5.out.heapAt HV4.out.blk (fun e=>HV.out.ne1.2.1 e)
      have r4:=cell_of_heap hb5 4
      have r5:=cell_of_heap hb5 5
      have r6:=cell_of_heap hb5 6
      have HB5:=hid hb5
      unfold progCells at r4 r5 r6
      simp only [List.getElem?_toArray,List.getElem?_cons_zero,List.getElem?_cons_succ] at r4 r5 r6
      unfold sl at r6
      have f5:∀ j,X5.frozen? ⟨B,j,none⟩=false:=fun j=>frozen_of_heap hb5 j
      clear q4 q5 q6 f4 hb5
      have HMV:Hid (m'.val (gl'.map fun x=>(⟨x,0,none⟩:Addr)) cl'=.agg #[.int .i64 m'.view,.int .i64 m'.last,.slice (gl'.map fun x=>⟨x,0,none⟩) m'.ls.length cl']):=rfl
      rw [HMV.out]
      have FIN:Hid (Chg w (((X5.setCell ⟨B,4,none⟩ (.int .i64 m'.view)).setCell ⟨B,5,none⟩ (.int .i64 m'.last)).setCell ⟨B,6,none⟩ (.slice (gl'.map fun x=>⟨x,0,none⟩) m'.ls.length cl')) B v { v with arm:=narm,d:=v.d++recBytes inner,gd:=gd',cd:=cd',m:=m',gl:=gl',cl:=cl' }):=saidChg (u:={ v with arm:=narm,d:=v.d++recBytes inner,gd:=gd',cd:=cd' }) C4.out HB5.out HT5.out HO5.out HFR.out
      clear HO5 HT5 HFR HB5 C4 HV4
      go_wp2
      go_ret
      exact ⟨gd',cd',gl',cl',rfl,FIN.out⟩
    · go_simp
      refine (HWH.out _ ((Below.refl _ _).drew)).mono ?_
      rintro e X2 ⟨gw,cw,rfl,ho,hbf⟩
      have hb2a:Below X1.heap.size X1 X2:=(Below.refl _ X1).drew.trans hbf
      have p32:=(hb2a.cell (World.block_lt_of_cell? _ _ p3)).trans p3
      clear hbf p3
      refine hK _ _ ?_
      clear hK K
      try simp only [Act.put,List.setIfInBounds_toArray,List.set_cons_zero,List.set_cons_succ]
      refine wpAny_ready (rs:=[4]) (by kernel_rfl) (by simp) ?_
      refine AllReady.cons rfl (fun K hK=>?_) AllReady.nil
      go_simp
      refine hK _ _ ?_
      clear hK K p32
      have HX2:=hid (hb2a)
      have HV2:=hid (HV1.out.below HX2.out)
      have HOB:=hid (ho.base (u:=X1) (Nat.le_refl _))
      obtain ⟨gd',cd',X3,hr,ha3,ho3,ht3,hn3⟩:=run_appR (w:=X2) (b:=v.gd) (c:=v.cd) (l:=v.d) (l2:=recBytes inner) 31 31 (.slice (some ⟨gw,0,none⟩) (recBytes inner).length cw) HV2.out.db HV2.out.dow (bytes_src (some ⟨gw,0,none⟩) _ cw (recBytes inner) X2 HOB.out.at_.in_ rfl) (by have:=HRL.out;omega)
      have HC4:Hid (Chg w (X3.setCell ⟨B,3,none⟩ (.slice (gd'.map fun k=>⟨k,0,none⟩) (v.d.length+(recBytes inner).length) cd')) B v { v with arm:=narm,d:=v.d++recBytes inner,gd:=gd',cd:=cd' }) :=
        C1.out.trans (Chg.of HX2.out HV1.out (diskChg (v:={ v with arm:=narm }) HV2.out ha3 ho3 ht3 hn3 (by rw [List.length_append])))
      have HB3:Hid (X3.heap[B]?=some (.cells (progCells v.kp v.me v.pa v.gd v.d.length v.cd v.m v.gl v.cl narm v.gf v.lost.length v.cf v.ag v.hs) 103 (0,0))):=ht3.heapAt HV2.out.blk (fun e=>HV.out.ne1.1 e)
      have HR:=hid hr
      unfold sl at HR
      clear hr ha3 ho3 ht3 hn3 ho hb2a
      refine wpAny_ready (rs:=[7]) (by kernel_rfl) (by simp) ?_
      refine AllReady.cons rfl (fun KK hKK=>?_) AllReady.nil
      refine step_appRun rfl (.tmp 34) (.tmp 36) 31 31 rfl _ _ _ _ rfl rfl HR.out ?_
      refine hKK _ _ ?_
      clear hKK KK HR
      try simp only [Act.put,List.setIfInBounds_toArray,List.set_cons_zero,List.set_cons_succ]
      refine tA 8 ?_
      try simp only [lA,lB,lC,Act.put,lD,lE,lF]
      refine tA 9 ?_
      try simp only [lA,lB,lC,Act.put,lD,lE,lF]
      have q3:=cell_of_heap HB3.out 3
      unfold progCells at q3
      simp only [List.getElem?_toArray,List.getElem?_cons_zero,List.getElem?_cons_succ] at q3
      have f3:∀ j,X3.frozen? ⟨B,j,none⟩=false:=fun j=>frozen_of_heap HB3.out j
      unfold sl at q3
      refine wpAny_ready (rs:=[10]) (by kernel_rfl) (by simp) ?_
      refine AllReady.cons rfl (fun KK hKK=>?_) AllReady.nil
      go_simp
      refine hKK _ _ ?_
      clear hKK KK
      refine wpAny_done (by kernel_rfl) ?_ _
      have C4:Hid (Chg w (X3.setCell ⟨B,3,none⟩ (.slice (gd'.map fun k=>⟨k,0,none⟩) (v.d.length+(recBytes inner).length) cd')) B v { v with arm:=narm,d:=v.d++recBytes inner,gd:=gd',cd:=cd' }):=HC4.out
      have HV4:=hid C4.out.at_
      clear q3 f3 HC4
      generalize X3.setCell ⟨B,3,none⟩ (.slice (gd'.map fun k=>⟨k,0,none⟩) (v.d.length+(recBytes inner).length) cd')=X4 at *
      have q4:=cell_of_heap HV4.out.blk 4
      have q5:=cell_of_heap HV4.out.blk 5
      have q6:=cell_of_heap HV4.out.blk 6
      unfold progCells at q4 q5 q6
      simp only [List.getElem?_toArray,List.getElem?_cons_zero,List.getElem?_cons_succ] at q4 q5 q6
      unfold sl at q6
      have f4:∀ j,X4.frozen? ⟨B,j,none⟩=false:=fun j=>frozen_of_heap HV4.out.blk j
      go_wp2_with fail
      refine (HAF.out X4 C4.out).mono ?_
      rintro e X5 ⟨h1,h2,h3⟩
      rcases h3 with ⟨hcd,_⟩ | ⟨nn,gl',cl',hcd,rfl,ho,hfr⟩
      · rw [HCD.out] at hcd;cases hcd
      rw [HCD.out] at hcd
      cases hcd
      have HO5:=hid ho
      have HT5:=hid h2
      have HFR:=hid hfr
      clear h1 h2 ho hfr
      have hnB:∀ k,v.gl=some k→¬ (k=B):=fun k e e2=>HV.out.ne1.2.1 (by rw [e,e2])
      have hb5:X5.heap[B]?=_:=HT5.out.heapAt HV4.out.blk (fun e=>HV.out.ne1.2.1 e)
      have r4:=cell_of_heap hb5 4
      have r5:=cell_of_heap hb5 5
      have r6:=cell_of_heap hb5 6
      have HB5:=hid hb5
      unfold progCells at r4 r5 r6
      simp only [List.getElem?_toArray,List.getElem?_cons_zero,List.getElem?_cons_succ] at r4 r5 r6
      unfold sl at r6
      have f5:∀ j,X5.frozen? ⟨B,j,none⟩=false:=fun j=>frozen_of_heap hb5 j
      clear q4 q5 q6 f4 hb5
      have HMV:Hid (m'.val (gl'.map fun x=>(⟨x,0,none⟩:Addr)) cl'=.agg #[.int .i64 m'.view,.int .i64 m'.last,.slice (gl'.map fun x=>⟨x,0,none⟩) m'.ls.length cl']):=rfl
      rw [HMV.out]
      have FIN:Hid (Chg w (((X5.setCell ⟨B,4,none⟩ (.int .i64 m'.view)).setCell ⟨B,5,none⟩ (.int .i64 m'.last)).setCell ⟨B,6,none⟩ (.slice (gl'.map fun x=>⟨x,0,none⟩) m'.ls.length cl')) B v { v with arm:=narm,d:=v.d++recBytes inner,gd:=gd',cd:=cd',m:=m',gl:=gl',cl:=cl' }):=saidChg (u:={ v with arm:=narm,d:=v.d++recBytes inner,gd:=gd',cd:=cd' }) C4.out HB5.out HT5.out HO5.out HFR.out
      clear HO5 HT5 HFR HB5 C4 HV4
      go_wp2
      go_ret
      exact ⟨gd',cd',gl',cl',rfl,FIN.out⟩
def Ln.fits (l:Ln):Prop:=0≤l.c∧l.c < 256∧0≤l.t∧l.t < 256∧l.s.length≤8
theorem byteOf_val {n:Int} (h0:0≤n) (h1:n < 256):((byteOf n).toNat:Int)=n:=by
  rw [byteOf_cell];omega
theorem takeLine_of (l:Ln) (h:l.fits):tlOk (lineBytes l)=true∧tlRest (lineBytes l)=[]∧tlLine (lineBytes l)=l:=by
  obtain ⟨c,t,s⟩:=l
  obtain ⟨h1,h2,h3,h4,h5⟩:=h
  dsimp only at *
  have e2:((lineBytes ⟨c,t,s⟩).getD 2 0).toNat=s.length:=by
    have:=byteOf_val (n:=(s.length:Int)) (by omega) (by omega)
    show (byteOf s.length).toNat=s.length
    omega
  have e0:(((lineBytes ⟨c,t,s⟩).getD 0 0).toNat:Int)=c:=byteOf_val h1 h2
  have e1:(((lineBytes ⟨c,t,s⟩).getD 1 0).toNat:Int)=t:=byteOf_val h3 h4
  have hl:(lineBytes ⟨c,t,s⟩).length=s.length+3:=by simp [lineBytes]
  obtain ⟨q1,q2,q3⟩:=tl_yes (lineBytes ⟨c,t,s⟩) (by omega) (by rw [e2,hl];omega)
  refine ⟨q3,?_,?_⟩
  · rw [q2,e2];exact List.drop_eq_nil_of_le (by rw [hl];omega)
  · rw [q1,e2]
    have hd:((lineBytes ⟨c,t,s⟩).drop 3).take s.length=s:=by
      show (s).take s.length=s
      exact List.take_of_length_le (Nat.le_refl _)
    rw [hd,e0,e1]
theorem candM_line (m:Mm) (l:Ln) (h:l.fits):candM m (1 :: lineBytes l)=some ⟨m.view,m.last,m.ls++[l]⟩:=by
  obtain ⟨q1,q2,q3⟩:=takeLine_of l h
  unfold candM
  rw [if_neg (by simp)]
  have:((1 :: lineBytes l:List UInt8).getD 0 0).toNat=1:=rfl
  rw [if_pos this]
  have hd:(1 :: lineBytes l:List UInt8).drop 1=lineBytes l:=rfl
  rw [hd,q1,q2,q3]
  rfl
theorem lineMoreV (R:Bool→World→Prop) (v:PV) (B:Nat) (w:World) (h:v.At w B) (l:Ln) (hl:l.fits)
    (HW:∀ (z:World) (g c:Nat),Below w.heap.size w z→OwnBytes w z (some g) c (1 :: lineBytes l)→Calls Tryz.prog 163 #[.pointer (some ⟨B,3,none⟩),.slice (some ⟨g,0,none⟩) (1 :: lineBytes l).length c] z fun e w'=>∃ b,e=.returned (.bool b)∧R b w') :
    Calls Tryz.prog 123 #[.pointer (some ⟨B,3,none⟩),.agg #[.int .i64 l.c,.int .i64 l.t,.string ⟨l.s.toArray⟩]] w fun e w'=>∃ b,e=.returned (.bool b)∧R b w':=by
  have HWH:=hid HW
  obtain ⟨lc,lt,ls⟩:=l
  have h8:ls.length≤8:=hl.2.2.2.2
  have AL:Hid (∀ (z:World) (g:Nat),Grew z z (some g) g 1 [1]→Calls Tryz.prog 70 #[.slice (some ⟨g,0,none⟩) 1 1,.agg #[.int .i64 lc,.int .i64 lt,.string ⟨ls.toArray⟩]] z fun e w'=>∃ g' c',e=.returned (.slice (some ⟨g',0,none⟩) (1 :: lineBytes ⟨lc,lt,ls⟩).length c')∧Grew z w' (some g) g' c' (1 :: lineBytes ⟨lc,lt,ls⟩)):=fun z g hg =>
    appendLine_at g 1 1 [1] ⟨lc,lt,ls⟩ z z (some g) hg rfl (by simp) (by dsimp only;omega)
  clear HW h hl
  dsimp only at *
  generalize (1 :: lineBytes ⟨lc,lt,ls⟩)=inner at *
  go_enter Tryz.func123,Tryz.ntmps123
  go_wp2_with fail
  obtain ⟨Y,hY⟩:∃ Y,Y=(w.alloc (.cells #[.int .i64 lc,.int .i64 lt,.string ⟨ls.toArray⟩] 27)).alloc (.cells #[.int .u8 1] 5):=⟨_,rfl⟩
  rw [← hY]
  have hh:Y.heap[w.heap.size+1]?=some (.cells #[.int .u8 1] 5 (0,0)):=by rw [hY];exact heap_alloc2 w _ _ _
  have HBY:Hid (Below w.heap.size w Y):=by show Below _ _ _;rw [hY];exact ((Below.refl _ _).alloc (Nat.le_refl _) _).alloc (by rw [World.size_alloc];omega) _
  have hG:Grew Y Y (some (w.heap.size+1)) (w.heap.size+1) 1 [1]:=Grew.refl (fun j hj=>⟨w.heap.size+1,rfl,by
    have:j=0:=by simpa using hj
    subst this
    rw [cell_of_heap hh];rfl⟩) (.inr ⟨_,_,rfl,hh,rfl,Nat.le_refl _,by simp only [maxLen];omega⟩)
  have HG:=hid hG
  clear hY hh hG
  refine (AL.out Y _ HG.out).mono ?_
  rintro e X1 ⟨g',c',rfl,G⟩
  have hXb:Below w.heap.size w X1:=HBY.out.trans (G.touch.below HBY.out.size (fun k _ e=>by have:=Option.some.inj e;omega))
  have hXo:OwnBytes w X1 (some g') c' inner:=⟨G.at_,G.own,fun k e=>by
    have e:=Option.some.inj e
    subst e
    rcases G.lies with q | q
    · have:=Option.some.inj q;omega
    · exact Nat.le_trans HBY.out.size q⟩
  have HC:=hid (HWH.out X1 g' c' hXb hXo)
  clear G hXb hXo AL HWH
  go_wp2_with fail
  refine HC.out.mono ?_
  rintro e X2 ⟨b,rfl,hr⟩
  go_wp2
  go_ret
  exact ⟨b,rfl,hr⟩
def PV.more (v:PV) (l:Ln) (narm:Int) (gd':Option Nat) (cd':Nat) (gl':Option Nat) (cl':Nat):PV :=
  { v with arm:=narm,d:=v.d++recBytes (1 :: lineBytes l),gd:=gd',cd:=cd',m:=⟨v.m.view,v.m.last,v.m.ls++[l]⟩,gl:=gl',cl:=cl' }
theorem lineMoreOkV (v:PV) (B:Nat) (w:World) (h:v.At w B) (hl:v.lost=[]) (narm:Int) (harm:(v.arm=0∧narm=0)∨(2≤v.arm∧v.arm≤9223372036854775807∧narm=v.arm - 1)) (l:Ln) (hf:l.fits) (h20:v.m.ls.length≤20) (hdl:v.d.length≤9900000) :
    Calls Tryz.prog 123 #[.pointer (some ⟨B,3,none⟩),.agg #[.int .i64 l.c,.int .i64 l.t,.string ⟨l.s.toArray⟩]] w fun e w'=>∃ gd' cd' gl' cl',e=.returned (.bool true)∧Chg w w' B v (v.more l narm gd' cd' gl' cl'):=by
  have h8:l.s.length≤8:=hf.2.2.2.2
  have hil:(1 :: lineBytes l).length≤1000:=by simp [lineBytes];omega
  refine (lineMoreV (fun b w'=>b=true∧∃ gd' cd' gl' cl',Chg w w' B v (v.more l narm gd' cd' gl' cl')) v B w h l hf (fun z g c hz ho=>?_)).mono ?_
  · refine (writeOkV v B z (h.below hz) hl narm harm (some ⟨g,0,none⟩) _ c (1 :: lineBytes l) ho.at_.in_ (fun p e=>?_) rfl hil ?_ ⟨v.m.view,v.m.last,v.m.ls++[l]⟩ (candM_line v.m l hf) h20 hdl).mono ?_
    · cases e
      intro e
      have:=h.ownlt e
      have:=ho.new g rfl
      dsimp only at *
      omega
    · rcases ho.own with ⟨e,_⟩ | ⟨_,_,_,_,_,e,_⟩
      · cases e
      · exact e
    · rintro e w' ⟨gd',cd',gl',cl',rfl,hc⟩
      exact ⟨true,rfl,rfl,gd',cd',gl',cl',Chg.of hz h hc⟩
  · rintro e w' ⟨b,rfl,rfl,gd',cd',gl',cl',hc⟩
    exact ⟨gd',cd',gl',cl',rfl,hc⟩
def PV.crash (v:PV) (inner:List UInt8) (gf cf:Nat):PV:={ v with m:=Mm.zero,arm:=0,lost:=recBytes inner,gl:=none,cl:=0,gf:=some gf,cf:=cf }
theorem lineMoreFailV (v:PV) (B:Nat) (w:World) (h:v.At w B) (hl:v.lost=[]) (harm:v.arm=1) (l:Ln) (hf:l.fits) :
    Calls Tryz.prog 123 #[.pointer (some ⟨B,3,none⟩),.agg #[.int .i64 l.c,.int .i64 l.t,.string ⟨l.s.toArray⟩]] w fun e w'=>∃ gf cf,e=.returned (.bool false)∧Chg w w' B v (v.crash (1 :: lineBytes l) gf cf):=by
  have h8:l.s.length≤8:=hf.2.2.2.2
  have hil:(1 :: lineBytes l).length≤1000:=by simp [lineBytes];omega
  refine (lineMoreV (fun b w'=>b=false∧∃ gf cf,Chg w w' B v (v.crash (1 :: lineBytes l) gf cf)) v B w h l hf (fun z g c hz ho=>?_)).mono ?_
  · refine (writeFailV v B z (h.below hz) hl harm (some ⟨g,0,none⟩) _ c (1 :: lineBytes l) ho.at_.in_ rfl hil).mono ?_
    rintro e w' ⟨gf,cf,rfl,hc⟩
    exact ⟨false,rfl,rfl,gf,cf,Chg.of hz h hc⟩
  · rintro e w' ⟨b,rfl,rfl,gf,cf,hc⟩
    exact ⟨gf,cf,rfl,hc⟩
end
end Go.Proofs.YtolififimldmlaaGreat
