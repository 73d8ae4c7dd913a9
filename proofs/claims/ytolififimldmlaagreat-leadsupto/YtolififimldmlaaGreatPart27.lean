import Derived.Test.YtolififimldmlaaGreatPart26
set_option linter.unusedVariables false
set_option linter.unusedSimpArgs false
set_option maxRecDepth 100000
set_option maxHeartbeats 16000000
namespace Go.Proofs.YtolififimldmlaaGreat
section
open Go.RowKit
attribute [local go_sem ↓] Go.wp_at_zero Go.wp_at_succ
theorem step_appRun {P:Program} {w:World} {ops:Array Oper} {o:Oper} {a:Act} {K:Act→World→Prop} {Q:Exit→Act→World→Prop} {E:Prop} (hgd:o.guard=none) (s y:Operand) (t tx:TypeId)
    (ho:o.op=.call { callee:=.builtin .append,args:=#[s,y],argTypes:=#[t,tx] }) (x1 x2 v:Value) (w':World) (hq:a.eval s=x1) (hx:a.eval y=x2) (hr:(Builtin.append_ #[t,tx] o.type #[x1,x2]).run P w=.ok v w')
    (h:K (a.put o.dst v) w'):if Region.wanted o (yielded ops a.tmps)=true then Oper.wp P o a w K Q else E:=by
  have hw:Region.wanted o (yielded ops a.tmps)=true:=by simp [Region.wanted,hgd]
  rw [if_pos hw]
  unfold Oper.wp execOp
  simp only [ho,resolve,invoke,builtin,Sem.run_bind,Sem.run_pure,Result.andThen_ok,List.map_toArray,List.map_cons,List.map_nil,hq,hx,hr]
  exact h
theorem PV.At.arm {v:PV} {w:World} {B:Nat} (h:v.At w B) (n:Int):Chg w (w.setCell ⟨B,7,none⟩ (.int .i64 n)) B v { v with arm:=n }:=by
  have t:Touch (fun k=>k=B) w (w.setCell ⟨B,7,none⟩ (.int .i64 n)):=(Touch.refl (fun k=>k=B) w).setCell (p:=⟨B,7,none⟩) (fun _=>rfl) _
  have hb:=heap_setCell h.blk 7 (.int .i64 n)
  have nd:∀ k,v.gd=some k→¬ (k=B):=fun k e e2=>h.ne1.1 (by rw [e,e2])
  have nl:∀ k,v.gl=some k→¬ (k=B):=fun k e e2=>h.ne1.2.1 (by rw [e,e2])
  have nf:∀ k,v.gf=some k→¬ (k=B):=fun k e e2=>h.ne1.2.2 (by rw [e,e2])
  refine ⟨⟨?_,h.db.touch t nd,h.dow.touch t nd,h.lb.touch t (fun q e=>?_),h.low.touch t nl,h.fb.touch t nf,h.fow.touch t nf,h.ne1,h.ne2⟩,t.mono (fun i _ e=>.inl e),fun k e=>.inl e⟩
  · unfold progCells at hb ⊢
    simp only [List.setIfInBounds_toArray,List.set_cons_zero,List.set_cons_succ] at hb
    exact hb
  · cases hg:v.gl with
    | none=>rw [hg] at e;cases e
    | some g0=>rw [hg] at e;cases e;exact nl g0 hg
theorem diskChg {v:PV} {w X:World} {B:Nat} {l2:List UInt8} {gd':Option Nat} {cd' n:Nat} (hv:v.At w B) (ha:BytesAt X gd' (v.d++l2)) (ho:OwnRow X 5 1 gd' (v.d++l2).length cd') (ht:Touch (fun k=>v.gd=some k) w X) (hn:∀ k,gd'=some k→v.gd=some k∨w.heap.size≤k) (hnn:n=(v.d++l2).length) :
    Chg w (X.setCell ⟨B,3,none⟩ (.slice (gd'.map fun k=>⟨k,0,none⟩) n cd')) B v { v with d:=v.d++l2,gd:=gd',cd:=cd' }:=by
  subst hnn
  have t:Touch (fun k=>k=B) X (X.setCell ⟨B,3,none⟩ (.slice (gd'.map fun k=>⟨k,0,none⟩) (v.d++l2).length cd')):=(Touch.refl (fun k=>k=B) X).setCell (p:=⟨B,3,none⟩) (fun _=>rfl) _
  have hB:=hv.lt
  have hX:=ht.heapAt hv.blk (fun e=>hv.ne1.1 e)
  have hb:=heap_setCell hX 3 (.slice (gd'.map fun k=>⟨k,0,none⟩) (v.d++l2).length cd')
  have nd:∀ k,gd'=some k→¬ (k=B):=fun k e e2=>by
    rcases hn k e with e3 | e3
    · exact hv.ne1.1 (by rw [e3,e2])
    · omega
  have nl:∀ k,v.gl=some k→¬ (k=B):=fun k e e2=>hv.ne1.2.1 (by rw [e,e2])
  have nf:∀ k,v.gf=some k→¬ (k=B):=fun k e e2=>hv.ne1.2.2 (by rw [e,e2])
  have ll:∀ k,v.gl=some k→¬ (v.gd=some k):=fun k e e2=>hv.ne2.1 k e2 e
  have lf:∀ k,v.gf=some k→¬ (v.gd=some k):=fun k e e2=>hv.ne2.2.1 k e2 e
  have hlb:LinesAt X (v.gl.map fun k=>(⟨k,0,none⟩:Addr)) v.m.ls:=hv.lb.touch ht (fun q e=>by
    cases hg:v.gl with
    | none=>rw [hg] at e;cases e
    | some g0=>rw [hg] at e;cases e;exact ll g0 hg)
  refine ⟨⟨?_,ha.touch t nd,ho.touch t nd,hlb.touch t (fun q e=>?_),(hv.low.touch ht ll).touch t nl,(hv.fb.touch ht lf).touch t nf,(hv.fow.touch ht lf).touch t nf,⟨fun e=>nd B e rfl,hv.ne1.2⟩,fun k e e2=>?_,fun k e e2=>?_,hv.ne2.2.2⟩,ht.mono (fun i _ e=>.inr (.inl e)) |>.trans t (fun i _ e=>.inl e),fun k e=>?_⟩
  · unfold progCells at hb ⊢
    simp only [List.setIfInBounds_toArray,List.set_cons_zero,List.set_cons_succ] at hb
    exact hb
  · cases hg:v.gl with
    | none=>rw [hg] at e;cases e
    | some g0=>rw [hg] at e;cases e;exact nl g0 hg
  · rcases hn k e with e3 | e3
    · exact hv.ne2.1 k e3 e2
    · have:=hv.low.lt e2;omega
  · rcases hn k e with e3 | e3
    · exact hv.ne2.2.1 k e3 e2
    · have:=hv.fow.lt e2;omega
  · rcases e with e | e | e | e
    · exact .inl (.inl e)
    · rcases hn k e with e3 | e3
      · exact .inl (.inr (.inl e3))
      · exact .inr e3
    · exact .inl (.inr (.inr (.inl e)))
    · exact .inl (.inr (.inr (.inr e)))
theorem saidChg {v u:PV} {w x y:World} {B:Nat} {m':Mm} {gl':Option Nat} {cl':Nat} {wB:World} (hc:Chg w x B v u) (hb:y.heap[B]?=some (.cells (progCells u.kp u.me u.pa u.gd u.d.length u.cd u.m u.gl u.cl u.arm u.gf u.lost.length u.cf u.ag u.hs) 103 (0,0))) (ht:Touch (fun k=>u.gl=some k) x y) (ho:OwnLines wB y gl' cl' m'.ls) (hf:∀ k,gl'=some k→u.gl=some k∨x.heap.size≤k) :
    Chg w (((y.setCell ⟨B,4,none⟩ (.int .i64 m'.view)).setCell ⟨B,5,none⟩ (.int .i64 m'.last)).setCell ⟨B,6,none⟩ (.slice (gl'.map fun k=>⟨k,0,none⟩) m'.ls.length cl')) B v { u with m:=m',gl:=gl',cl:=cl' }:=by
  have hu:=hc.at_
  refine hc.trans ?_
  have t:Touch (fun k=>k=B) y (((y.setCell ⟨B,4,none⟩ (.int .i64 m'.view)).setCell ⟨B,5,none⟩ (.int .i64 m'.last)).setCell ⟨B,6,none⟩ (.slice (gl'.map fun k=>⟨k,0,none⟩) m'.ls.length cl')):=(((Touch.refl (fun k=>k=B) y).setCell (p:=⟨B,4,none⟩) (fun _=>rfl) _).setCell (p:=⟨B,5,none⟩) (fun _=>rfl) _).setCell (p:=⟨B,6,none⟩) (fun _=>rfl) _
  have hbb:=heap_setCell (heap_setCell (heap_setCell hb 4 (.int .i64 m'.view)) 5 (.int .i64 m'.last)) 6 (.slice (gl'.map fun k=>⟨k,0,none⟩) m'.ls.length cl')
  have hB:=hu.lt
  have nd:∀ k,u.gd=some k→¬ (k=B):=fun k e e2=>hu.ne1.1 (by rw [e,e2])
  have nl:∀ k,gl'=some k→¬ (k=B):=fun k e e2=>by
    rcases hf k e with e3 | e3
    · exact hu.ne1.2.1 (by rw [e3,e2])
    · omega
  have nf:∀ k,u.gf=some k→¬ (k=B):=fun k e e2=>hu.ne1.2.2 (by rw [e,e2])
  have dl:∀ k,u.gd=some k→¬ (u.gl=some k):=fun k e e2=>hu.ne2.1 k e e2
  have fl:∀ k,u.gf=some k→¬ (u.gl=some k):=fun k e e2=>hu.ne2.2.2 k e2 e
  refine ⟨⟨?_,(hu.db.touch ht dl).touch t nd,(hu.dow.touch ht dl).touch t nd,ho.at_.touch t (fun q e=>?_),ho.own.touch t nl,(hu.fb.touch ht fl).touch t nf,(hu.fow.touch ht fl).touch t nf,⟨hu.ne1.1,fun e=>nl B e rfl,hu.ne1.2.2⟩,fun k e e2=>?_,hu.ne2.2.1,fun k e e2=>?_⟩,ht.mono (fun i _ e=>.inr (.inr (.inl e))) |>.trans t (fun i _ e=>.inl e),fun k e=>?_⟩
  · unfold progCells at hbb ⊢
    simp only [List.setIfInBounds_toArray,List.set_cons_zero,List.set_cons_succ] at hbb
    exact hbb
  · cases hg:gl' with
    | none=>rw [hg] at e;cases e
    | some g0=>rw [hg] at e;cases e;exact nl g0 hg
  · rcases hf k e2 with e3 | e3
    · exact hu.ne2.1 k e e3
    · have:=hu.dow.lt e;omega
  · rcases hf k e with e3 | e3
    · exact hu.ne2.2.2 k e3 e2
    · have:=hu.fow.lt e2;omega
  · rcases e with e | e | e | e
    · exact .inl (.inl e)
    · exact .inl (.inr (.inl e))
    · rcases hf k e with e3 | e3
      · exact .inl (.inr (.inr (.inl e3)))
      · exact .inr e3
    · exact .inl (.inr (.inr (.inr e)))
def emptyW (w:World):World:={ w with heap:=#[] }
theorem recBytes_len (l:List UInt8):(recBytes l).length=l.length+3:=by
  unfold recBytes withChk
  simp
theorem writeOkV (v:PV) (B:Nat) (w:World) (h:v.At w B) (hl:v.lost=[]) (narm:Int) (harm:(v.arm=0∧narm=0)∨(2≤v.arm∧v.arm≤9223372036854775807∧narm=v.arm - 1)) (a:Option Addr) (n c:Nat) (inner:List UInt8) (hb:BytesIn w a inner) (hna:∀ p,a=some p→¬ v.own B p.block) (hil:inner.length=n) (hin:inner.length≤1000) (hcap:inner.length≤c)
    (m':Mm) (hcd:candM v.m inner=some m') (h20:v.m.ls.length≤20) (hdl:v.d.length≤9900000) :
    Calls Tryz.prog 163 #[.pointer (some ⟨B,3,none⟩),.slice a n c] w fun e w'=>∃ gd' cd' gl' cl',e=.returned (.bool true)∧Chg w w' B v { v with arm:=narm,d:=v.d++recBytes inner,gd:=gd',cd:=cd',m:=m',gl:=gl',cl:=cl' }:=by
  have FV:=hid (failedV v B w h)
  rw [hl] at FV
  have hBT:∀ z,Touch (fun k=>v.own B k) w z→BytesIn z a inner:=fun z hz=>by
    cases a with
    | none=>exact fun j hj=>by obtain ⟨_,_,e,_⟩:=hb j hj;cases e
    | some p =>
      intro j hj
      obtain ⟨g,o,e,hc⟩:=hb j hj
      exact ⟨g,o,e,hz.cell hc (by cases e;exact hna ⟨g,o,none⟩ rfl)⟩
  have HBT:=hid hBT
  have HAF:Hid (∀ (X4:World) {gd':Option Nat} {cd':Nat},Chg w X4 B v { v with arm:=narm,d:=v.d++recBytes inner,gd:=gd',cd:=cd' }→Calls Tryz.prog 130 #[.agg #[.int .i64 v.m.view,.int .i64 v.m.last,.slice (v.gl.map fun k=>⟨k,0,none⟩) v.m.ls.length v.cl],.slice a n c] X4 (AfterRet (emptyW w) X4 v.m v.gl v.cl (candM v.m inner))):=fun X4 gd' cd' hc =>
    after_go v.m v.gl v.cl a n c inner (emptyW w) X4 X4 ⟨hc.at_.lb,hc.at_.low,fun k _=>Nat.zero_le _⟩ h20 (Nat.zero_le _) (hBT X4 hc.tch) (Below.refl _ _) hil (by omega) hcap
  have HCD:=hid hcd
  have HV:=hid h
  have hB:=h.lt
  have HRL:=hid (recBytes_len inner)
  have C7:Hid (w.cell? ⟨B,7,none⟩=some (.int .i64 v.arm)):=cell_of_heap h.blk 7
  clear h hb hcd hl hBT
  have h3:Hid (v.arm=0∧narm=0∨2≤v.arm∧v.arm≤9223372036854775807∧narm=v.arm - 1):=harm
  go_enter Tryz.func163,Tryz.ntmps163
  go_wp2_with fail
  refine FV.out.mono ?_
  rintro e X0 ⟨rfl,hb0⟩
  have HB0:=hid hb0
  have c7:=(hb0.cell (World.block_lt_of_cell? _ _ C7.out)).trans C7.out
  have f7:∀ j,X0.frozen? ⟨B,j,none⟩=false:=fun j=>frozen_of_heap (HV.out.below hb0).blk j
  clear hb0 FV
  simp only [List.length_nil,Nat.lt_irrefl,decide_false]
  have C1:Hid (Chg w (X0.setCell ⟨B,7,none⟩ (.int .i64 narm)) B v { v with arm:=narm }):=Chg.of HB0.out HV.out ((HV.out.below HB0.out).arm narm)
  rcases harm with ⟨ha0,hn0⟩ | ⟨ha2,ha3,ha4⟩
  · have HW1:Hid (X0.setCell ⟨B,7,none⟩ (.int .i64 0)=X0.setCell ⟨B,7,none⟩ (.int .i64 narm)):=by show _=_;rw [hn0]
    rw [ha0] at c7
    clear ha0 hn0
    go_wp2
    rw [HW1.out]
    clear c7 f7 HW1
    generalize X0.setCell ⟨B,7,none⟩ (.int .i64 narm)=X1 at *
    have HV1:=hid C1.out.at_
    have HWH:Hid (∀ z,Below X1.heap.size X1 z→Calls Tryz.prog 184 #[.slice a n c] z fun e w'=>∃ g cq,e=.returned (.slice (some ⟨g,0,none⟩) (recBytes inner).length cq)∧OwnBytes z w' (some g) cq (recBytes inner)∧Below z.heap.size z w'):=fun z hz=>whole_go a n c inner z ((HBT.out X1 C1.out.tch).below hz) hil hin
    have p3:=cell_of_heap HV1.out.blk 3
    unfold progCells at p3
    simp only [List.getElem?_toArray,List.getElem?_cons_zero,List.getElem?_cons_succ] at p3
    unfold sl at p3
    refine wp_region_any (by kernel_rfl) ?_
    try (change wpAny _ _ _ _ _ _ _ (World.drew _))
    refine tA 0 ?_
    try simp only [lA,lB,lC,Act.put,lD,lE,lF]
    refine tA 1 ?_
    try simp only [lA,lB,lC,Act.put,lD,lE,lF]
    refine tA 2 ?_
    try simp only [lA,lB,lC,Act.put,lD,lE,lF]
    refine tA 3 ?_
    try simp only [lA,lB,lC,Act.put,lD,lE,lF]
    refine tA 5 ?_
    try simp only [lA,lB,lC,Act.put,lD,lE,lF]
    refine wpAny_ready (rs:=[4,6]) (by kernel_rfl) (by simp) ?_
    refine AllReady.cons rfl (fun K hK=>?_) (AllReady.cons rfl (fun K hK=>?_) AllReady.nil)
    · go_simp
      refine hK _ _ ?_
      clear hK K
      refine wpAny_ready (rs:=[6]) (by kernel_rfl) (by simp) ?_
      refine AllReady.cons rfl (fun K hK=>?_) AllReady.nil
      go_simp
      refine (HWH.out _ ((Below.refl _ _).drew)).mono ?_
      rintro e X2 ⟨gw,cw,rfl,ho,hbf⟩
      have hb2a:Below X1.heap.size X1 X2:=(Below.refl _ X1).drew.trans hbf
      clear hbf p3
      refine hK _ _ ?_
      clear hK K
      try simp only [Act.put,List.setIfInBounds_toArray,List.set_cons_zero,List.set_cons_succ]
      have HX2:=hid (hb2a)
      have HV2:=hid (HV1.out.below HX2.out)
      have HOB:=hid (ho.base (u:=X1) (Nat.le_refl _))
      obtain ⟨gd',cd',X3,hr,ha3,ho3,ht3,hn3⟩:=run_appR (w:=X2) (b:=v.gd) (c:=v.cd) (l:=v.d) (l2:=recBytes inner) 31 31 (.slice (some ⟨gw,0,none⟩) (recBytes inner).length cw) HV2.out.db HV2.out.dow (bytes_src (some ⟨gw,0,none⟩) _ cw (recBytes inner) X2 HOB.out.at_.in_ rfl) (by have:=HRL.out;omega)
      have HC4:Hid (Chg w (X3.setCell ⟨B,3,none⟩ (.slice (gd'.map fun k=>⟨k,0,none⟩) (v.d.length+(recBytes inner).length) cd')) B v { v with arm:=narm,d:=v.d++recBytes inner,gd:=gd',cd:=cd' }) :=
        C1.out.trans (Chg.of HX2.out HV1.out (diskChg (v:={ v with arm:=narm }) HV2.out ha3 ho3 ht3 hn3 (by rw [List.length_append])))
      have HB3:Hid (X3.heap[B]?=some (.cells (progCells v.kp v.me v.pa v.gd v.d.length v.cd v.m v.gl v.cl narm v.gf v.lost.length v.cf v.ag v.hs) 103 (0,0))):=ht3.heapAt HV2.out.blk (fun e=>HV.out.ne1.1 e)
      have HR:=hid hr
      unfold sl at HR
      clear hr ha3 ho3 ht3 hn3 ho hb2a
      refine wpAny_ready (rs:=[7]) (by kernel_rfl) (by simp) ?_
      refine AllReady.cons rfl (fun KK hKK=>?_) AllReady.nil
      refine step_appRun rfl (.tmp 34) (.tmp 36) 31 31 rfl _ _ _ _ rfl rfl HR.out ?_
      refine hKK _ _ ?_
      clear hKK KK HR
      try simp only [Act.put,List.setIfInBounds_toArray,List.set_cons_zero,List.set_cons_succ]
      refine tA 8 ?_
      try simp only [lA,lB,lC,Act.put,lD,lE,lF]
      refine tA 9 ?_
      try simp only [lA,lB,lC,Act.put,lD,lE,lF]
      have q3:=cell_of_heap HB3.out 3
      unfold progCells at q3
      simp only [List.getElem?_toArray,List.getElem?_cons_zero,List.getElem?_cons_succ] at q3
      have f3:∀ j,X3.frozen? ⟨B,j,none⟩=false:=fun j=>frozen_of_heap HB3.out j
      unfold sl at q3
      refine wpAny_ready (rs:=[10]) (by kernel_rfl) (by simp) ?_
      refine AllReady.cons rfl (fun KK hKK=>?_) AllReady.nil
      go_simp
      refine hKK _ _ ?_
      clear hKK KK
      refine wpAny_done (by kernel_rfl) ?_ _
      have C4:Hid (Chg w (X3.setCell ⟨B,3,none⟩ (.slice (gd'.map fun k=>⟨k,0,none⟩) (v.d.length+(recBytes inner).length) cd')) B v { v with arm:=narm,d:=v.d++recBytes inner,gd:=gd',cd:=cd' }):=HC4.out
      have HV4:=hid C4.out.at_
      clear q3 f3 HC4
      generalize X3.setCell ⟨B,3,none⟩ (.slice (gd'.map fun k=>⟨k,0,none⟩) (v.d.length+(recBytes inner).length) cd')=X4 at *
      have q4:=cell_of_heap HV4.out.blk 4
      have q5:=cell_of_heap HV4.out.blk 5
      have q6:=cell_of_heap HV4.out.blk 6
      unfold progCells at q4 q5 q6
      simp only [List.getElem?_toArray,List.getElem?_cons_zero,List.getElem?_cons_succ] at q4 q5 q6
      unfold sl at q6
      have f4:∀ j,X4.frozen? ⟨B,j,none⟩=false:=fun j=>frozen_of_heap HV4.out.blk j
      go_wp2_with fail
      refine (HAF.out X4 C4.out).mono ?_
      rintro e X5 ⟨h1,h2,h3⟩
      rcases h3 with ⟨hcd,_⟩ | ⟨nn,gl',cl',hcd,rfl,ho,hfr⟩
      · rw [HCD.out] at hcd;cases hcd
      rw [HCD.out] at hcd
      cases hcd
      have HO5:=hid ho
      have HT5:=hid h2
      have HFR:=hid hfr
      clear h1 h2 ho hfr
      have hnB:∀ k,v.gl=some k→¬ (k=B):=fun k e e2=>HV.out.ne1.2.1 (by rw [e,e2])
      have hb5:X5.heap[B]?=_:=HT5.out.heapAt HV4.out.blk (fun e=>HV.out.ne1.2.1 e)
      have r4:=cell_of_heap hb5 4
      have r5:=cell_of_heap hb5 5
      have r6:=cell_of_heap hb5 6
      have HB5:=hid hb5
      unfold progCells at r4 r5 r6
      simp only [List.getElem?_toArray,List.getElem?_cons_zero,List.getElem?_cons_succ] at r4 r5 r6
      unfold sl at r6
      have f5:∀ j,X5.frozen? ⟨B,j,none⟩=false:=fun j=>frozen_of_heap hb5 j
      clear q4 q5 q6 f4 hb5
      have HMV:Hid (m'.val (gl'.map fun x=>(⟨x,0,none⟩:Addr)) cl'=.agg #[.int .i64 m'.view,.int .i64 m'.last,.slice (gl'.map fun x=>⟨x,0,none⟩) m'.ls.length cl']):=rfl
      rw [HMV.out]
      have FIN:Hid (Chg w (((X5.setCell ⟨B,4,none⟩ (.int .i64 m'.view)).setCell ⟨B,5,none⟩ (.int .i64 m'.last)).setCell ⟨B,6,none⟩ (.slice (gl'.map fun x=>⟨x,0,none⟩) m'.ls.length cl')) B v { v with arm:=narm,d:=v.d++recBytes inner,gd:=gd',cd:=cd',m:=m',gl:=gl',cl:=cl' }):=saidChg (u:={ v with arm:=narm,d:=v.d++recBytes inner,gd:=gd',cd:=cd' }) C4.out HB5.out HT5.out HO5.out HFR.out
      clear HO5 HT5 HFR HB5 C4 HV4
      go_wp2
      go_ret
      exact ⟨gd',cd',gl',cl',rfl,FIN.out⟩
    · go_simp
      refine (HWH.out _ ((Below.refl _ _).drew)).mono ?_
      rintro e X2 ⟨gw,cw,rfl,ho,hbf⟩
      have hb2a:Below X1.heap.size X1 X2:=(Below.refl _ X1).drew.trans hbf
      have p32:=(hb2a.cell (World.block_lt_of_cell? _ _ p3)).trans p3
      clear hbf p3
      refine hK _ _ ?_
      clear hK K
      try simp only [Act.put,List.setIfInBounds_toArray,List.set_cons_zero,List.set_cons_succ]
      refine wpAny_ready (rs:=[4]) (by kernel_rfl) (by simp) ?_
      refine AllReady.cons rfl (fun K hK=>?_) AllReady.nil
      go_simp
      refine hK _ _ ?_
      clear hK K p32
      have HX2:=hid (hb2a)
      have HV2:=hid (HV1.out.below HX2.out)
      have HOB:=hid (ho.base (u:=X1) (Nat.le_refl _))
      obtain ⟨gd',cd',X3,hr,ha3,ho3,ht3,hn3⟩:=run_appR (w:=X2) (b:=v.gd) (c:=v.cd) (l:=v.d) (l2:=recBytes inner) 31 31 (.slice (some ⟨gw,0,none⟩) (recBytes inner).length cw) HV2.out.db HV2.out.dow (bytes_src (some ⟨gw,0,none⟩) _ cw (recBytes inner) X2 HOB.out.at_.in_ rfl) (by have:=HRL.out;omega)
      have HC4:Hid (Chg w (X3.setCell ⟨B,3,none⟩ (.slice (gd'.map fun k=>⟨k,0,none⟩) (v.d.length+(recBytes inner).length) cd')) B v { v with arm:=narm,d:=v.d++recBytes inner,gd:=gd',cd:=cd' }) :=
        C1.out.trans (Chg.of HX2.out HV1.out (diskChg (v:={ v with arm:=narm }) HV2.out ha3 ho3 ht3 hn3 (by rw [List.length_append])))
      have HB3:Hid (X3.heap[B]?=some (.cells (progCells v.kp v.me v.pa v.gd v.d.length v.cd v.m v.gl v.cl narm v.gf v.lost.length v.cf v.ag v.hs) 103 (0,0))):=ht3.heapAt HV2.out.blk (fun e=>HV.out.ne1.1 e)
      have HR:=hid hr
      unfold sl at HR
      clear hr ha3 ho3 ht3 hn3 ho hb2a
      refine wpAny_ready (rs:=[7]) (by kernel_rfl) (by simp) ?_
      refine AllReady.cons rfl (fun KK hKK=>?_) AllReady.nil
      refine step_appRun rfl (.tmp 34) (.tmp 36) 31 31 rfl _ _ _ _ rfl rfl HR.out ?_
      refine hKK _ _ ?_
      clear hKK KK HR
      try simp only [Act.put,List.setIfInBounds_toArray,List.set_cons_zero,List.set_cons_succ]
      refine tA 8 ?_
      try simp only [lA,lB,lC,Act.put,lD,lE,lF]
      refine tA 9 ?_
      try simp only [lA,lB,lC,Act.put,lD,lE,lF]
      have q3:=cell_of_heap HB3.out 3
      unfold progCells at q3
      simp only [List.getElem?_toArray,List.getElem?_cons_zero,List.getElem?_cons_succ] at q3
      have f3:∀ j,X3.frozen? ⟨B,j,none⟩=false:=fun j=>frozen_of_heap HB3.out j
      unfold sl at q3
      refine wpAny_ready (rs:=[10]) (by kernel_rfl) (by simp) ?_
      refine AllReady.cons rfl (fun KK hKK=>?_) AllReady.nil
      go_simp
      refine hKK _ _ ?_
      clear hKK KK
      refine wpAny_done (by kernel_rfl) ?_ _
      have C4:Hid (Chg w (X3.setCell ⟨B,3,none⟩ (.slice (gd'.map fun k=>⟨k,0,none⟩) (v.d.length+(recBytes inner).length) cd')) B v { v with arm:=narm,d:=v.d++recBytes inner,gd:=gd',cd:=cd' }):=HC4.out
      have HV4:=hid C4.out.at_
      clear q3 f3 HC4
      generalize X3.setCell ⟨B,3,none⟩ (.slice (gd'.map fun k=>⟨k,0,none⟩) (v.d.length+(recBytes inner).length) cd')=X4 at *
      have q4:=cell_of_heap HV4.out.blk 4
      have q5:=cell_of_heap HV4.out.blk 5
      have q6:=cell_of_heap HV4.out.blk 6
      unfold progCells at q4 q5 q6
      simp only [List.getElem?_toArray,List.getElem?_cons_zero,List.getElem?_cons_succ] at q4 q5 q6
      unfold sl at q6
      have f4:∀ j,X4.frozen? ⟨B,j,none⟩=false:=fun j=>frozen_of_heap HV4.out.blk j
      go_wp2_with fail
      refine (HAF.out X4 C4.out).mono ?_
      rintro e X5 ⟨h1,h2,h3⟩
      rcases h3 with ⟨hcd,_⟩ | ⟨nn,gl',cl',hcd,rfl,ho,hfr⟩
      · rw [HCD.out] at hcd;cases hcd
      rw [HCD.out] at hcd
      cases hcd
      have HO5:=hid ho
      have HT5:=hid h2
      have HFR:=hid hfr
      clear h1 h2 ho hfr
      have hnB:∀ k,v.gl=some k→¬ (k=B):=fun k e e2=>HV.out.ne1.2.1 (by rw [e,e2])
      have hb5:X5.heap[B]?=_:=HT5.out.heapAt HV4.out.blk (fun e=>HV.out.ne1.2.1 e)
      have r4:=cell_of_heap hb5 4
      have r5:=cell_of_heap hb5 5
      have r6:=cell_of_heap hb5 6
      have HB5:=hid hb5
      unfold progCells at r4 r5 r6
      simp only [List.getElem?_toArray,List.getElem?_cons_zero,List.getElem?_cons_succ] at r4 r5 r6
      unfold sl at r6
      have f5:∀ j,X5.frozen? ⟨B,j,none⟩=false:=fun j=>frozen_of_heap hb5 j
      clear q4 q5 q6 f4 hb5
      have HMV:Hid (m'.val (gl'.map fun x=>(⟨x,0,none⟩:Addr)) cl'=.agg #[.int .i64 m'.view,.int .i64 m'.last,.slice (gl'.map fun x=>⟨x,0,none⟩) m'.ls.length cl']):=rfl
      rw [HMV.out]
      have FIN:Hid (Chg w (((X5.setCell ⟨B,4,none⟩ (.int .i64 m'.view)).setCell ⟨B,5,none⟩ (.int .i64 m'.last)).setCell ⟨B,6,none⟩ (.slice (gl'.map fun x=>⟨x,0,none⟩) m'.ls.length cl')) B v { v with arm:=narm,d:=v.d++recBytes inner,gd:=gd',cd:=cd',m:=m',gl:=gl',cl:=cl' }):=saidChg (u:={ v with arm:=narm,d:=v.d++recBytes inner,gd:=gd',cd:=cd' }) C4.out HB5.out HT5.out HO5.out HFR.out
      clear HO5 HT5 HFR HB5 C4 HV4
      go_wp2
      go_ret
      exact ⟨gd',cd',gl',cl',rfl,FIN.out⟩
  · have wa:IntKind.i64.wrap (v.arm - 1)=v.arm - 1:=by rw [IntWalk.i64_left,IntWalk.wrap64_in _ (by omega)]
    have n1:(v.arm == 1)=false:=beq_eq_false_iff_ne.2 (by omega)
    have n2:¬ (v.arm - 1 < 0):=by omega
    have HW1:Hid (X0.setCell ⟨B,7,none⟩ (.int .i64 (v.arm - 1))=X0.setCell ⟨B,7,none⟩ (.int .i64 narm)):=by show _=_;rw [ha4]
    clear ha4
    go_wp2
    rw [HW1.out]
    clear c7 f7 HW1
    generalize X0.setCell ⟨B,7,none⟩ (.int .i64 narm)=X1 at *
    have HV1:=hid C1.out.at_
    have HWH:Hid (∀ z,Below X1.heap.size X1 z→Calls Tryz.prog 184 #[.slice a n c] z fun e w'=>∃ g cq,e=.returned (.slice (some ⟨g,0,none⟩) (recBytes inner).length cq)∧OwnBytes z w' (some g) cq (recBytes inner)∧Below z.heap.size z w'):=fun z hz=>whole_go a n c inner z ((HBT.out X1 C1.out.tch).below hz) hil hin
    have p3:=cell_of_heap HV1.out.blk 3
    unfold progCells at p3
    simp only [List.getElem?_toArray,List.getElem?_cons_zero,List.getElem?_cons_succ] at p3
    unfold sl at p3
    refine wp_region_any (by kernel_rfl) ?_
    try (change wpAny _ _ _ _ _ _ _ (World.drew _))
    refine tA 0 ?_
    try simp only [lA,lB,lC,Act.put,lD,lE,lF]
    refine tA 1 ?_
    try simp only [lA,lB,lC,Act.put,lD,lE,lF]
    refine tA 2 ?_
    try simp only [lA,lB,lC,Act.put,lD,lE,lF]
    refine tA 3 ?_
    try simp only [lA,lB,lC,Act.put,lD,lE,lF]
    refine tA 5 ?_
    try simp only [lA,lB,lC,Act.put,lD,lE,lF]
    refine wpAny_ready (rs:=[4,6]) (by kernel_rfl) (by simp) ?_
    refine AllReady.cons rfl (fun K hK=>?_) (AllReady.cons rfl (fun K hK=>?_) AllReady.nil)
    · go_simp
      refine hK _ _ ?_
      clear hK K
      refine wpAny_ready (rs:=[6]) (by kernel_rfl) (by simp) ?_
      refine AllReady.cons rfl (fun K hK=>?_) AllReady.nil
      go_simp
      refine (HWH.out _ ((Below.refl _ _).drew)).mono ?_
      rintro e X2 ⟨gw,cw,rfl,ho,hbf⟩
      have hb2a:Below X1.heap.size X1 X2:=(Below.refl _ X1).drew.trans hbf
      clear hbf p3
      refine hK _ _ ?_
      clear hK K
      try simp only [Act.put,List.setIfInBounds_toArray,List.set_cons_zero,List.set_cons_succ]
      have HX2:=hid (hb2a)
      have HV2:=hid (HV1.out.below HX2.out)
      have HOB:=hid (ho.base (u:=X1) (Nat.le_refl _))
      obtain ⟨gd',cd',X3,hr,ha3,ho3,ht3,hn3⟩:=run_appR (w:=X2) (b:=v.gd) (c:=v.cd) (l:=v.d) (l2:=recBytes inner) 31 31 (.slice (some ⟨gw,0,none⟩) (recBytes inner).length cw) HV2.out.db HV2.out.dow (bytes_src (some ⟨gw,0,none⟩) _ cw (recBytes inner) X2 HOB.out.at_.in_ rfl) (by have:=HRL.out;omega)
      have HC4:Hid (Chg w (X3.setCell ⟨B,3,none⟩ (.slice (gd'.map fun k=>⟨k,0,none⟩) (v.d.length+(recBytes inner).length) cd')) B v { v with arm:=narm,d:=v.d++recBytes inner,gd:=gd',cd:=cd' }) :=
        C1.out.trans (Chg.of HX2.out HV1.out (diskChg (v:={ v with arm:=narm }) HV2.out ha3 ho3 ht3 hn3 (by rw [List.length_append])))
      have HB3:Hid (X3.heap[B]?=some (.cells (progCells v.kp v.me v.pa v.gd v.d.length v.cd v.m v.gl v.cl narm v.gf v.lost.length v.cf v.ag v.hs) 103 (0,0))):=ht3.heapAt HV2.out.blk (fun e=>HV.out.ne1.1 e)
      have HR:=hid hr
      unfold sl at HR
      clear hr ha3 ho3 ht3 hn3 ho hb2a
      refine wpAny_ready (rs:=[7]) (by kernel_rfl) (by simp) ?_
      refine AllReady.cons rfl (fun KK hKK=>?_) AllReady.nil
      refine step_appRun rfl (.tmp 34) (.tmp 36) 31 31 rfl _ _ _ _ rfl rfl HR.out ?_
      refine hKK _ _ ?_
      clear hKK KK HR
      try simp only [Act.put,List.setIfInBounds_toArray,List.set_cons_zero,List.set_cons_succ]
      refine tA 8 ?_
      try simp only [lA,lB,lC,Act.put,lD,lE,lF]
      refine tA 9 ?_
      try simp only [lA,lB,lC,Act.put,lD,lE,lF]
      have q3:=cell_of_heap HB3.out 3
      unfold progCells at q3
      simp only [List.getElem?_toArray,List.getElem?_cons_zero,List.getElem?_cons_succ] at q3
      have f3:∀ j,X3.frozen? ⟨B,j,none⟩=false:=fun j=>frozen_of_heap HB3.out j
      unfold sl at q3
      refine wpAny_ready (rs:=[10]) (by kernel_rfl) (by simp) ?_
      refine AllReady.cons rfl (fun KK hKK=>?_) AllReady.nil
      go_simp
      refine hKK _ _ ?_
      clear hKK KK
      refine wpAny_done (by kernel_rfl) ?_ _
      have C4:Hid (Chg w (X3.setCell ⟨B,3,none⟩ (.slice (gd'.map fun k=>⟨k,0,none⟩) (v.d.length+(recBytes inner).length) cd')) B v { v with arm:=narm,d:=v.d++recBytes inner,gd:=gd',cd:=cd' }):=HC4.out
      have HV4:=hid C4.out.at_
      clear q3 f3 HC4
      generalize X3.setCell ⟨B,3,none⟩ (.slice (gd'.map fun k=>⟨k,0,none⟩) (v.d.length+(recBytes inner).length) cd')=X4 at *
      have q4:=cell_of_heap HV4.out.blk 4
      have q5:=cell_of_heap HV4.out.blk 5
      have q6:=cell_of_heap HV4.out.blk 6
      unfold progCells at q4 q5 q6
      simp only [List.getElem?_toArray,List.getElem?_cons_zero,List.getElem?_cons_succ] at q4 q5 q6
      unfold sl at q6
      have f4:∀ j,X4.frozen? ⟨B,j,none⟩=false:=fun j=>frozen_of_heap HV4.out.blk j
      go_wp2_with fail
      refine (HAF.out X4 C4.out).mono ?_
      rintro e X5 ⟨h1,h2,h3⟩
      rcases h3 with ⟨hcd,_⟩ | ⟨nn,gl',cl',hcd,rfl,ho,hfr⟩
      · rw [HCD.out] at hcd;cases hcd
      rw [HCD.out] at hcd
      cases hcd
      have HO5:=hid ho
      have HT5:=hid h2
      have HFR:=hid hfr
      clear h1 h2 ho hfr
      have hnB:∀ k,v.gl=some k→¬ (k=B):=fun k e e2=>HV.out.ne1.2.1 (by rw [e,e2])
      have hb5:X5.heap[B]?=_:=HT5.out.heapAt HV4.out.blk (fun e=>HV.out.ne1.2.1 e)
      have r4:=cell_of_heap hb5 4
      have r5:=cell_of_heap hb5 5
      have r6:=cell_of_heap hb5 6
      have HB5:=hid hb5
      unfold progCells at r4 r5 r6
      simp only [List.getElem?_toArray,List.getElem?_cons_zero,List.getElem?_cons_succ] at r4 r5 r6
      unfold sl at r6
      have f5:∀ j,X5.frozen? ⟨B,j,none⟩=false:=fun j=>frozen_of_heap hb5 j
      clear q4 q5 q6 f4 hb5
      have HMV:Hid (m'.val (gl'.map fun x=>(⟨x,0,none⟩:Addr)) cl'=.agg #[.int .i64 m'.view,.int .i64 m'.last,.slice (gl'.map fun x=>⟨x,0,none⟩) m'.ls.length cl']):=rfl
      rw [HMV.out]
      have FIN:Hid (Chg w (((X5.setCell ⟨B,4,none⟩ (.int .i64 m'.view)).setCell ⟨B,5,none⟩ (.int .i64 m'.last)).setCell ⟨B,6,none⟩ (.slice (gl'.map fun x=>⟨x,0,none⟩) m'.ls.length cl')) B v { v with arm:=narm,d:=v.d++recBytes inner,gd:=gd',cd:=cd',m:=m',gl:=gl',cl:=cl' }):=saidChg (u:={ v with arm:=narm,d:=v.d++recBytes inner,gd:=gd',cd:=cd' }) C4.out HB5.out HT5.out HO5.out HFR.out
      clear HO5 HT5 HFR HB5 C4 HV4
      go_wp2
      go_ret
      exact ⟨gd',cd',gl',cl',rfl,FIN.out⟩
    · go_simp
      refine (HWH.out _ ((Below.refl _ _).drew)).mono ?_
      rintro e X2 ⟨gw,cw,rfl,ho,hbf⟩
      have hb2a:Below X1.heap.size X1 X2:=(Below.refl _ X1).drew.trans hbf
      have p32:=(hb2a.cell (World.block_lt_of_cell? _ _ p3)).trans p3
      clear hbf p3
      refine hK _ _ ?_
      clear hK K
      try simp only [Act.put,List.setIfInBounds_toArray,List.set_cons_zero,List.set_cons_succ]
      refine wpAny_ready (rs:=[4]) (by kernel_rfl) (by simp) ?_
      refine AllReady.cons rfl (fun K hK=>?_) AllReady.nil
      go_simp
      refine hK _ _ ?_
      clear hK K p32
      have HX2:=hid (hb2a)
      have HV2:=hid (HV1.out.below HX2.out)
      have HOB:=hid (ho.base (u:=X1) (Nat.le_refl _))
      obtain ⟨gd',cd',X3,hr,ha3,ho3,ht3,hn3⟩:=run_appR (w:=X2) (b:=v.gd) (c:=v.cd) (l:=v.d) (l2:=recBytes inner) 31 31 (.slice (some ⟨gw,0,none⟩) (recBytes inner).length cw) HV2.out.db HV2.out.dow (bytes_src (some ⟨gw,0,none⟩) _ cw (recBytes inner) X2 HOB.out.at_.in_ rfl) (by have:=HRL.out;omega)
      have HC4:Hid (Chg w (X3.setCell ⟨B,3,none⟩ (.slice (gd'.map fun k=>⟨k,0,none⟩) (v.d.length+(recBytes inner).length) cd')) B v { v with arm:=narm,d:=v.d++recBytes inner,gd:=gd',cd:=cd' }) :=
        C1.out.trans (Chg.of HX2.out HV1.out (diskChg (v:={ v with arm:=narm }) HV2.out ha3 ho3 ht3 hn3 (by rw [List.length_append])))
      have HB3:Hid (X3.heap[B]?=some (.cells (progCells v.kp v.me v.pa v.gd v.d.length v.cd v.m v.gl v.cl narm v.gf v.lost.length v.cf v.ag v.hs) 103 (0,0))):=ht3.heapAt HV2.out.blk (fun e=>HV.out.ne1.1 e)
      have HR:=hid hr
      unfold sl at HR
      clear hr ha3 ho3 ht3 hn3 ho hb2a
      refine wpAny_ready (rs:=[7]) (by kernel_rfl) (by simp) ?_
      refine AllReady.cons rfl (fun KK hKK=>?_) AllReady.nil
      refine step_appRun rfl (.tmp 34) (.tmp 36) 31 31 rfl _ _ _ _ rfl rfl HR.out ?_
      refine hKK _ _ ?_
      clear hKK KK HR
      try simp only [Act.put,List.setIfInBounds_toArray,List.set_cons_zero,List.set_cons_succ]
      refine tA 8 ?_
      try simp only [lA,lB,lC,Act.put,lD,lE,lF]
      refine tA 9 ?_
      try simp only [lA,lB,lC,Act.put,lD,lE,lF]
      have q3:=cell_of_heap HB3.out 3
      unfold progCells at q3
      simp only [List.getElem?_toArray,List.getElem?_cons_zero,List.getElem?_cons_succ] at q3
      have f3:∀ j,X3.frozen? ⟨B,j,none⟩=false:=fun j=>frozen_of_heap HB3.out j
      unfold sl at q3
      refine wpAny_ready (rs:=[10]) (by kernel_rfl) (by simp) ?_
      refine AllReady.cons rfl (fun KK hKK=>?_) AllReady.nil
      go_simp
      refine hKK _ _ ?_
      clear hKK KK
      refine wpAny_done (by kernel_rfl) ?_ _
      have C4:Hid (Chg w (X3.setCell ⟨B,3,none⟩ (.slice (gd'.map fun k=>⟨k,0,none⟩) (v.d.length+(recBytes inner).length) cd')) B v { v with arm:=narm,d:=v.d++recBytes inner,gd:=gd',cd:=cd' }):=HC4.out
      have HV4:=hid C4.out.at_
      clear q3 f3 HC4
      generalize X3.setCell ⟨B,3,none⟩ (.slice (gd'.map fun k=>⟨k,0,none⟩) (v.d.length+(recBytes inner).length) cd')=X4 at *
      have q4:=cell_of_heap HV4.out.blk 4
      have q5:=cell_of_heap HV4.out.blk 5
      have q6:=cell_of_heap HV4.out.blk 6
      unfold progCells at q4 q5 q6
      simp only [List.getElem?_toArray,List.getElem?_cons_zero,List.getElem?_cons_succ] at q4 q5 q6
      unfold sl at q6
      have f4:∀ j,X4.frozen? ⟨B,j,none⟩=false:=fun j=>frozen_of_heap HV4.out.blk j
      go_wp2_with fail
      refine (HAF.out X4 C4.out).mono ?_
      rintro e X5 ⟨h1,h2,h3⟩
      rcases h3 with ⟨hcd,_⟩ | ⟨nn,gl',cl',hcd,rfl,ho,hfr⟩
      · rw [HCD.out] at hcd;cases hcd
      rw [HCD.out] at hcd
      cases hcd
      have HO5:=hid ho
      have HT5:=hid h2
      have HFR:=hid hfr
      clear h1 h2 ho hfr
      have hnB:∀ k,v.gl=some k→¬ (k=B):=fun k e e2=>HV.out.ne1.2.1 (by rw [e,e2])
      have hb5:X5.heap[B]?=_:=HT5.out.heapAt HV4.out.blk (fun e=>HV.out.ne1.2.1 e)
      have r4:=cell_of_heap hb5 4
      have r5:=cell_of_heap hb5 5
      have r6:=cell_of_heap hb5 6
      have HB5:=hid hb5
      unfold progCells at r4 r5 r6
      simp only [List.getElem?_toArray,List.getElem?_cons_zero,List.getElem?_cons_succ] at r4 r5 r6
      unfold sl at r6
      have f5:∀ j,X5.frozen? ⟨B,j,none⟩=false:=fun j=>frozen_of_heap hb5 j
      clear q4 q5 q6 f4 hb5
      have HMV:Hid (m'.val (gl'.map fun x=>(⟨x,0,none⟩:Addr)) cl'=.agg #[.int .i64 m'.view,.int .i64 m'.last,.slice (gl'.map fun x=>⟨x,0,none⟩) m'.ls.length cl']):=rfl
      rw [HMV.out]
      have FIN:Hid (Chg w (((X5.setCell ⟨B,4,none⟩ (.int .i64 m'.view)).setCell ⟨B,5,none⟩ (.int .i64 m'.last)).setCell ⟨B,6,none⟩ (.slice (gl'.map fun x=>⟨x,0,none⟩) m'.ls.length cl')) B v { v with arm:=narm,d:=v.d++recBytes inner,gd:=gd',cd:=cd',m:=m',gl:=gl',cl:=cl' }):=saidChg (u:={ v with arm:=narm,d:=v.d++recBytes inner,gd:=gd',cd:=cd' }) C4.out HB5.out HT5.out HO5.out HFR.out
      clear HO5 HT5 HFR HB5 C4 HV4
      go_wp2
      go_ret
      exact ⟨gd',cd',gl',cl',rfl,FIN.out⟩
end
end Go.Proofs.YtolififimldmlaaGreat
