import Derived.Test.YtolififimldmlaaGreatPart29
import Derived.Test.YtolififimldmlaaGreatPart49
set_option linter.unusedVariables false
set_option linter.unusedSimpArgs false
set_option maxRecDepth 100000
set_option maxHeartbeats 16000000
namespace Go.Proofs.YtolififimldmlaaGreat
section
open Go.RowKit
attribute [local go_sem ↓] Go.wp_at_zero Go.wp_at_succ
theorem stepArm (x:World) (W:Nat) (gh:Option Nat) (n cap:Nat) (H:Nat→HG) (gp:Option Nat) (np cp:Nat) (P:Nat→PG) (hw:WI x W (sl gp np cp) true gh n cap H) (hps:PS KIs_ IvL x W gh n H gp np cp P) (h0:0 < np) (h6:np≤6) (o:OpG) (hk:o.kind=8) (hr:o.ranged) :
    Calls Tryz.prog 30 #[.pointer (some ⟨W,0,none⟩),.agg o.cells] x fun e y=>e=.returned (.bool true)∧LawAt KIs_ IvL x W true n gh gp y:=by
  have HWI:=hid hw
  have HPS:=hid hps
  have w0:=cell_of_heap hw.wb 0
  simp only [List.getElem?_toArray,List.getElem?_cons_zero] at w0
  unfold sl at w0
  have hWl:W < x.heap.size:=heap_lt hw.wb
  clear hw hps
  have HRN:=hid hr.1
  have HRA:=hid hr.2
  clear hr
  unfold OpG.cells sla
  obtain ⟨okind,on,l,f,fa,fc,k1,k2,k3,oa⟩:=o
  dsimp only at *
  subst hk
  have hz:((np:Int) == 0)=false:=beq_eq_false_iff_ne.2 (by omega)
  go_enter Tryz.func30,Tryz.ntmps30
  go_wp2
  generalize hY:x.alloc (.cells #[.int .i64 8,.int .i64 on,.string ⟨l.toArray⟩,.int .i64 f.kind,.int .i64 f.frm,.int .i64 f.view,.int .i64 f.place,.int .i64 f.agreed,.int .i64 f.last,.int .i64 f.line.c,.int .i64 f.line.t,.string ⟨f.line.s.toArray⟩,.slice fa f.lines.length fc,.int .i64 k1,.int .i64 k2,.int .i64 k3,.int .i64 oa] 76)=Y
  have HOP:Hid (Y.heap[x.heap.size]?=some (.cells #[.int .i64 8,.int .i64 on,.string ⟨l.toArray⟩,.int .i64 f.kind,.int .i64 f.frm,.int .i64 f.view,.int .i64 f.place,.int .i64 f.agreed,.int .i64 f.last,.int .i64 f.line.c,.int .i64 f.line.t,.string ⟨f.line.s.toArray⟩,.slice fa f.lines.length fc,.int .i64 k1,.int .i64 k2,.int .i64 k3,.int .i64 oa] 76 (0,0))):=by show _=_;rw [← hY];exact heap_alloc_new x _
  have y1:Y.cell? ⟨x.heap.size,1,none⟩=some (.int .i64 on):=by rw [← hY];exact World.cell?_alloc_new _ _ _ _
  have BY:Hid (Below x.heap.size x Y):=by show Below _ _ _;rw [← hY];exact (Below.refl _ _).alloc (Nat.le_refl _) _
  have hxl:x.heap.size < Y.heap.size:=by rw [← hY];simp
  have WY:=hid (HWI.out.below BY.out)
  have PY:=hid (HPS.out.below keepsSaid_ BY.out)
  clear hY w0
  have v0:=cell_of_heap WY.out.wb 0
  simp only [List.getElem?_toArray,List.getElem?_cons_zero] at v0
  unfold sl at v0
  have hi:=pickN_lt on h0
  have HPK:=hid (pick_any on np)
  generalize pickN on np=i at hi HPK ⊢
  obtain ⟨gP,hgP,cP⟩:=PY.out.ptr i hi
  obtain ⟨K,F,Kr,G,q1,q2,q3,q5,q6,q7,q8⟩:=PY.out.pl i hi
  have hiv:=PY.out.iv i hi
  generalize hPi:P i=pi at *
  obtain ⟨pp,pN,ps⟩:=pi
  dsimp only at *
  have HPI:=hid hPi
  have HIV:=hid hiv
  have HQ1:=hid q1
  have HQ2:=hid q2
  have HQ3:=hid q3
  have HQ5:=hid q5
  have HQ6:=hid q6
  have HQ7:=hid q7
  have HQ8:=hid q8
  clear hiv q1 q2 q3 q5 q6 q7 q8 hPi
  subst hgP
  have i0:(0:Int)≤(i:Int):=by omega
  have i1:(i:Int) < (np:Int):=by omega
  simp only [Option.map_some] at v0 ⊢
  have HX:Hid (Below Y.heap.size Y Y):=Below.refl _ _
  go_region_held (fun z=>z.cell? ⟨x.heap.size,1,none⟩=some (.int .i64 on)∧z.cell? ⟨W,0,none⟩=some (.slice (some ⟨gP,0,none⟩) np cp)∧z.cell? ⟨gP,i,none⟩=some (.pointer (some ⟨pp,0,none⟩)))
    (go_keep)
    (first | (go_at_call 54;refine (HPK.out _ h0 (by omega) HRN.out).mono ?_;rintro e wf ⟨rfl,rfl⟩))
  rename_i hh
  clear hh
  obtain ⟨Y2,hY2⟩:∃ Y2:World,Y2=Y.drew:=⟨_,rfl⟩
  have bY2:Below Y.heap.size Y Y2:=by rw [hY2];exact (Below.refl _ _).drew
  have hs2:Y2.heap.size=Y.heap.size:=by rw [hY2];rfl
  rw [← hY2]
  have W2:=hid (WY.out.below bY2)
  have P2:=hid (PY.out.below keepsSaid_ bY2)
  have B2:=hid (BY.out.trans (bY2.mono BY.out.size))
  have HK2:=hid (keepsSaid_ _ _ _ _ _ _ HQ2.out (Touch.of_belowAll bY2 (fun _=>False)) (fun _ _ h=>h))
  have HR2:=hid (HQ3.out.below bY2)
  have HP2:=hid ((bY2.block _ (heap_lt HQ1.out)).trans HQ1.out)
  have HO2:=hid ((bY2.block _ (heap_lt HOP.out)).trans HOP.out)
  have HFX:Hid (∀ k,(k=pp∨F k∨G k)→k < x.heap.size∧W≤k):=fun k e=>by
    have e2:(P i).N k:=by rw [HPI.out];exact (HQ5.out k).2 e
    exact ⟨HPS.out.lt i hi k e2,HPS.out.ge i hi k e2⟩
  clear hY2 bY2 y1 v0 WY PY BY HX cP HQ1 HQ2 HQ3 HPK HOP hz
  have p0:=cell_of_heap HP2.out 0
  have p1:=cell_of_heap HP2.out 1
  simp only [List.getElem?_toArray,List.getElem?_cons_zero,List.getElem?_cons_succ] at p0 p1
  have u0:Y2.cell? ⟨x.heap.size,0,none⟩=some (.int .i64 8):=cell_of_heap HO2.out 0
  have u16:Y2.cell? ⟨x.heap.size,16,none⟩=some (.int .i64 oa):=cell_of_heap HO2.out 16
  go_wp2
  go_still_tail 6,(by kernel_rfl)
  go_wp2_with fail
  refine (progArm ps oa Y2.drew K F (keepsSaid_ _ _ _ _ _ _ HK2.out ((Touch.refl (fun _=>False) Y2).drew) (fun _ _ h=>h))).mono ?_
  rintro e Y3 ⟨rfl,hk3,t3⟩
  have T3:Hid (Touch F Y2 Y3):=((Touch.refl F Y2).drew).trans t3 (fun _ _ e=>e)
  have HK3:=hid hk3
  have HR3:=hid (HR2.out.touch T3.out (fun k e e2=>HQ6.out k e2 e))
  have HP3:=hid (T3.out.heapAt HP2.out HQ7.out)
  have HO3:=hid (T3.out.heapAt HO2.out (fun e=>by have:=(HFX.out _ (.inr (.inl e))).1;omega))
  clear hk3 t3 u0 u16 p0 p1
  have p1:=cell_of_heap HP3.out 1
  have u16:=cell_of_heap HO3.out 16
  simp only [List.getElem?_toArray,List.getElem?_cons_zero,List.getElem?_cons_succ] at p1 u16
  go_wp2
  go_still_tail 6,(by kernel_rfl)
  go_wp2_with fail
  refine (docArm ps oa Y3.drew Kr G (HR3.out.below ((Below.refl _ _).drew))).mono ?_
  rintro e Y4 ⟨rfl,hr4,t4⟩
  have T4:Hid (Touch G Y3 Y4):=((Touch.refl G Y3).drew).trans t4 (fun _ _ e=>e)
  have HR4:=hid hr4
  clear hr4 t4 u16 p1
  have LA:Hid (LawAt KIs_ IvL x W true n gh (some gP) Y4):=by
    obtain ⟨a1,a2,a3⟩:=PS.turn W2.out P2.out hi HPI.out HP2.out HQ5.out HQ6.out HQ7.out HQ8.out HK3.out T3.out (fun k e=>.inl e) HR4.out T4.out (fun k e=>.inl e) (HIV.out.armed oa HRA.out)
    exact LawAt.keptN (m:=0) a1 a2 h6 ((Touch.of_belowAll B2.out _).trans a3 (fun k _ e=>.inl (HFX.out k (.inr e)).2)) (KeptN.start a1 (fun _=>False)) (fun k e=>e.elim) (fun j hj k hk e=>e) (fun k e=>HPS.out.own.lt e)
  go_wp2
  go_ret
  exact ⟨rfl,LA.out⟩
theorem stepTick (x:World) (W:Nat) (gh:Option Nat) (n cap:Nat) (H:Nat→HG) (gp:Option Nat) (np cp:Nat) (P:Nat→PG) (hw:WI x W (sl gp np cp) true gh n cap H) (hps:PS KIs_ IvL x W gh n H gp np cp P) (h0:0 < np) (h6:np≤6) (hn:n≤95000000) (o:OpG) (hk:o.kind=10) (hr:o.ranged) :
    Calls Tryz.prog 30 #[.pointer (some ⟨W,0,none⟩),.agg o.cells] x fun e y=>e=.returned (.bool true)∧∃ m,m≤88∧LawAt KIs_ IvL x W true (n+m) gh gp y:=by
  have HWI:=hid hw
  have HPS:=hid hps
  have w0:=cell_of_heap hw.wb 0
  simp only [List.getElem?_toArray,List.getElem?_cons_zero] at w0
  unfold sl at w0
  have hWl:W < x.heap.size:=heap_lt hw.wb
  clear hw hps
  have HRN:=hid hr.1
  have HRA:=hid hr.2
  clear hr
  unfold OpG.cells sla
  obtain ⟨okind,on,l,f,fa,fc,k1,k2,k3,oa⟩:=o
  dsimp only at *
  subst hk
  have hz:((np:Int) == 0)=false:=beq_eq_false_iff_ne.2 (by omega)
  go_enter Tryz.func30,Tryz.ntmps30
  go_wp2
  generalize hY:x.alloc (.cells #[.int .i64 10,.int .i64 on,.string ⟨l.toArray⟩,.int .i64 f.kind,.int .i64 f.frm,.int .i64 f.view,.int .i64 f.place,.int .i64 f.agreed,.int .i64 f.last,.int .i64 f.line.c,.int .i64 f.line.t,.string ⟨f.line.s.toArray⟩,.slice fa f.lines.length fc,.int .i64 k1,.int .i64 k2,.int .i64 k3,.int .i64 oa] 76)=Y
  have HOP:Hid (Y.heap[x.heap.size]?=some (.cells #[.int .i64 10,.int .i64 on,.string ⟨l.toArray⟩,.int .i64 f.kind,.int .i64 f.frm,.int .i64 f.view,.int .i64 f.place,.int .i64 f.agreed,.int .i64 f.last,.int .i64 f.line.c,.int .i64 f.line.t,.string ⟨f.line.s.toArray⟩,.slice fa f.lines.length fc,.int .i64 k1,.int .i64 k2,.int .i64 k3,.int .i64 oa] 76 (0,0))):=by show _=_;rw [← hY];exact heap_alloc_new x _
  have y1:Y.cell? ⟨x.heap.size,1,none⟩=some (.int .i64 on):=by rw [← hY];exact World.cell?_alloc_new _ _ _ _
  have BY:Hid (Below x.heap.size x Y):=by show Below _ _ _;rw [← hY];exact (Below.refl _ _).alloc (Nat.le_refl _) _
  have hxl:x.heap.size < Y.heap.size:=by rw [← hY];simp
  have WY:=hid (HWI.out.below BY.out)
  have PY:=hid (HPS.out.below keepsSaid_ BY.out)
  clear hY w0
  have v0:=cell_of_heap WY.out.wb 0
  simp only [List.getElem?_toArray,List.getElem?_cons_zero] at v0
  unfold sl at v0
  have hi:=pickN_lt on h0
  have HPK:=hid (pick_any on np)
  generalize pickN on np=i at hi HPK ⊢
  obtain ⟨gP,hgP,cP⟩:=PY.out.ptr i hi
  obtain ⟨K,F,Kr,G,q1,q2,q3,q5,q6,q7,q8⟩:=PY.out.pl i hi
  have hiv:=PY.out.iv i hi
  generalize hPi:P i=pi at *
  obtain ⟨pp,pN,ps⟩:=pi
  dsimp only at *
  have HPI:=hid hPi
  have HIV:=hid hiv
  have HQ1:=hid q1
  have HQ2:=hid q2
  have HQ3:=hid q3
  have HQ5:=hid q5
  have HQ6:=hid q6
  have HQ7:=hid q7
  have HQ8:=hid q8
  clear hiv q1 q2 q3 q5 q6 q7 q8 hPi
  subst hgP
  have i0:(0:Int)≤(i:Int):=by omega
  have i1:(i:Int) < (np:Int):=by omega
  simp only [Option.map_some] at v0 ⊢
  have HX:Hid (Below Y.heap.size Y Y):=Below.refl _ _
  go_region_held (fun z=>z.cell? ⟨x.heap.size,1,none⟩=some (.int .i64 on)∧z.cell? ⟨W,0,none⟩=some (.slice (some ⟨gP,0,none⟩) np cp)∧z.cell? ⟨gP,i,none⟩=some (.pointer (some ⟨pp,0,none⟩)))
    (go_keep)
    (first | (go_at_call 54;refine (HPK.out _ h0 (by omega) HRN.out).mono ?_;rintro e wf ⟨rfl,rfl⟩))
  rename_i hh
  clear hh
  obtain ⟨Y2,hY2⟩:∃ Y2:World,Y2=Y.drew:=⟨_,rfl⟩
  have bY2:Below Y.heap.size Y Y2:=by rw [hY2];exact (Below.refl _ _).drew
  have hs2:Y2.heap.size=Y.heap.size:=by rw [hY2];rfl
  rw [← hY2]
  have W2:=hid (WY.out.below bY2)
  have P2:=hid (PY.out.below keepsSaid_ bY2)
  have B2:=hid (BY.out.trans (bY2.mono BY.out.size))
  have HK2:=hid (keepsSaid_ _ _ _ _ _ _ HQ2.out (Touch.of_belowAll bY2 (fun _=>False)) (fun _ _ h=>h))
  have HR2:=hid (HQ3.out.below bY2)
  have HP2:=hid ((bY2.block _ (heap_lt HQ1.out)).trans HQ1.out)
  have HO2:=hid ((bY2.block _ (heap_lt HOP.out)).trans HOP.out)
  have HFX:Hid (∀ k,(k=pp∨F k∨G k)→k < x.heap.size∧W≤k):=fun k e=>by
    have e2:(P i).N k:=by rw [HPI.out];exact (HQ5.out k).2 e
    exact ⟨HPS.out.lt i hi k e2,HPS.out.ge i hi k e2⟩
  clear hY2 bY2 y1 v0 WY PY BY HX cP HQ1 HQ2 HQ3 HPK HOP hz
  have p0:=cell_of_heap HP2.out 0
  have p1:=cell_of_heap HP2.out 1
  simp only [List.getElem?_toArray,List.getElem?_cons_zero,List.getElem?_cons_succ] at p0 p1
  have u0:Y2.cell? ⟨x.heap.size,0,none⟩=some (.int .i64 10):=cell_of_heap HO2.out 0
  have u1:=cell_of_heap HO2.out 1
  have u2:=cell_of_heap HO2.out 2
  have u3:=cell_of_heap HO2.out 3
  have u4:=cell_of_heap HO2.out 4
  have u5:=cell_of_heap HO2.out 5
  have u6:=cell_of_heap HO2.out 6
  have u7:=cell_of_heap HO2.out 7
  have u8:=cell_of_heap HO2.out 8
  have u9:=cell_of_heap HO2.out 9
  have u10:=cell_of_heap HO2.out 10
  have u11:=cell_of_heap HO2.out 11
  have u12:=cell_of_heap HO2.out 12
  have u13:=cell_of_heap HO2.out 13
  have u14:=cell_of_heap HO2.out 14
  have u15:=cell_of_heap HO2.out 15
  have u16:=cell_of_heap HO2.out 16
  simp only [List.getElem?_toArray,List.getElem?_cons_zero,List.getElem?_cons_succ] at u1 u2 u3 u4 u5 u6 u7 u8 u9 u10 u11 u12 u13 u14 u15 u16
  have HX:Hid (∀ r,(ps.me != 0)=r→Calls Tryz.prog 61 #[.pointer (some ⟨W,0,none⟩),.pointer (some ⟨pp,0,none⟩),.agg #[.int .i64 10,.int .i64 on,.string ⟨l.toArray⟩,.int .i64 f.kind,.int .i64 f.frm,.int .i64 f.view,.int .i64 f.place,.int .i64 f.agreed,.int .i64 f.last,.int .i64 f.line.c,.int .i64 f.line.t,.string ⟨f.line.s.toArray⟩,.slice fa f.lines.length fc,.int .i64 k1,.int .i64 k2,.int .i64 k3,.int .i64 oa]] Y2 fun e y=>e=.returned (.bool r)∧Below Y2.heap.size Y2 y):=fun r hr=>otherTick Y2 W _ gh n cap H W2.out pp K Kr HP2.out ps.me HR2.out.conf.2.1 ⟨10,on,l,f,fa,fc,k1,k2,k3,oa⟩ rfl r hr
  have hx2:x.heap.size≤Y2.heap.size:=B2.out.size
  by_cases hm:ps.me=0
  · have HM:=hid hm
    have HX:=hid (HX.out false (by rw [hm];rfl))
    clear hm
    go_wp2_with fail
    refine HX.out.mono ?_
    rintro e Y3 ⟨rfl,hb3⟩
    have HB3:=hid hb3
    have W3:=hid (W2.out.below hb3)
    have P3:=hid (P2.out.below keepsSaid_ hb3)
    have B3:=hid (B2.out.trans (hb3.mono B2.out.size))
    have HK3:=hid (keepsSaid_ _ _ _ _ _ _ HK2.out (Touch.of_belowAll hb3 (fun _=>False)) (fun _ _ h=>h))
    have HR3:=hid (HR2.out.below hb3)
    have HP3:=hid ((hb3.block _ (heap_lt HP2.out)).trans HP2.out)
    have hs3:Y2.heap.size≤Y3.heap.size:=hb3.size
    clear hb3 HX
    clear u0 u1 u2 u3 u4 u5 u6 u7 u8 u9 u10 u11 u12 u13 u14 u15 u16 p0 p1
    have p0:=cell_of_heap HP3.out 0
    simp only [List.getElem?_toArray,List.getElem?_cons_zero,List.getElem?_cons_succ] at p0
    obtain ⟨d,hd⟩:∃ d,d=ps.tick:=⟨_,rfl⟩
    have HPT:Hid (∀ z,KIs_ z K F ps→Calls Tryz.prog 27 #[.pointer (some ⟨K,0,none⟩)] z (PDid z K F d)):=fun z hz=>by rw [hd];exact progTick ps HIV.out HM.out z K F hz
    have HDT:Hid (∀ z,RIs z Kr G ps→Calls Tryz.prog 66 #[.pointer (some ⟨Kr,0,none⟩)] z (RDid z Kr G d)):=fun z hz=>by rw [hd];exact docTick ps HIV.out HM.out z Kr G hz
    have HDO:Hid d.Ok:=by show d.Ok;rw [hd];exact HIV.out.tick
    clear hd
    obtain ⟨os,er,st⟩:=d
    unfold PDid at HPT
    unfold RDid at HDT
    dsimp only at HPT HDT
    have h20:os.length≤20:=HDO.out.n20
    go_wp2_with fail
    refine (HPT.out Y3 HK3.out).mono ?_
    rintro e Y4 ⟨g,c,gs,cs,F',rfl,ho,hk4,t4,n4,d4⟩
    have T4:=hid t4
    have HK4:=hid hk4
    have HO:=hid ho
    have N4:=hid n4
    have D4:=hid d4
    have HR4:=hid (HR3.out.touch t4 (fun k e e2=>HQ6.out k e2 e))
    have HP4:=hid (t4.heapAt HP3.out HQ7.out)
    have hs4:Y3.heap.size≤Y4.heap.size:=t4.size
    clear t4 hk4 ho n4 d4 p0 HPT
    have p1:=cell_of_heap HP4.out 1
    simp only [List.getElem?_toArray,List.getElem?_cons_zero,List.getElem?_cons_succ] at p1
    unfold sl
    go_wp2_with fail
    refine (HDT.out Y4 HR4.out).mono ?_
    rintro e Y5 ⟨gr,cr,G',rfl,hor,hr5,t5,n5⟩
    have A5:=hid (PS.turn W3.out P3.out hi HPI.out HP3.out HQ5.out HQ6.out HQ7.out HQ8.out HK4.out T4.out N4.out hr5 t5 n5 HDO.out.iv)
    have HO5:Hid (OwnOuts Y3 Y5 g c os gs cs):=HO.out.touch t5 (fun k e e2=>by
      have:=HO.out.in_ k e
      have:=(HFX.out k (.inr (.inr e2))).1
      omega)
    have HOR:=hid hor
    have N5:=hid n5
    clear hor hr5 t5 n5 p1 HDT
    go_wp2_with fail
    refine (sent_any Y5 W (sl (some gP) np cp) true gh n cap H A5.out.1 Y3 g c os gs cs HO5.out gr cr HOR.out (fun k e=>W3.out.free_new (HO5.out.in_ k e).1) h20 HDO.out.bs hn).mono ?_
    rintro e Y6 ⟨rfl,gh',cap',H',kn⟩
    have LA:Hid (LawAt KIs_ IvL x W true (n+(4 * os.length+4)) gh (some gP) Y6):=by
      refine LawAt.keptN A5.out.1 A5.out.2.1 h6 ((Touch.of_belowAll B3.out _).trans A5.out.2.2 (fun k _ e=>.inl (HFX.out k (.inr e)).2)) kn (fun k e=>?_) (fun j hj k hk e=>?_) (fun k e=>HPS.out.own.lt e)
      · have:=(HO5.out.in_ k e).1;omega
      · have h1:=HO.out.in_ k e
        by_cases ej:j=i
        · simp only [if_pos ej] at hk
          rcases hk with q | q | q
          · have:=(HFX.out k (.inl q)).1;omega
          · exact D4.out k e q
          · rcases N5.out k q with q | q
            · have:=(HFX.out k (.inr (.inr q))).1;omega
            · omega
        · simp only [if_neg ej] at hk
          have:=HPS.out.lt j hj k hk;omega
    clear kn
    go_wp2
    go_ret
    exact ⟨ret_bool (by simp),_,by omega,LA.out⟩
  · have HX:=hid (HX.out true (bne_iff_ne.2 hm))
    go_wp2_with fail
    refine HX.out.mono ?_
    rintro e Y3 ⟨rfl,hb3⟩
    have HB3:=hid hb3
    clear hb3 HX
    clear u0 u1 u2 u3 u4 u5 u6 u7 u8 u9 u10 u11 u12 u13 u14 u15 u16 p0 p1
    go_wp2
    go_ret
    exact ⟨rfl,0,by omega,LawAt.still keepsSaid_ HWI.out HPS.out h6 (B2.out.trans (HB3.out.mono B2.out.size))⟩
theorem otherR_iff (b:List UInt8):otherR b=true↔otherB b:=by
  unfold otherR otherB
  cases h:unpackR b with
  | none=>simp
  | some f=>simp [or_assoc]
theorem stepHeard (x:World) (W:Nat) (gh:Option Nat) (n cap:Nat) (H:Nat→HG) (gp:Option Nat) (np cp:Nat) (P:Nat→PG) (hw:WI x W (sl gp np cp) true gh n cap H) (hps:PS KIs_ IvL x W gh n H gp np cp P) (h0:0 < np) (h6:np≤6) (hn:n≤95000000) (o:OpG) (hk:o.kind=9) (hsl:o.s.length≤9000000) (hr:o.ranged) :
    Calls Tryz.prog 30 #[.pointer (some ⟨W,0,none⟩),.agg o.cells] x fun e y=>e=.returned (.bool true)∧∃ m,m≤88∧LawAt KIs_ IvL x W true (n+m) gh gp y:=by
  have HWI:=hid hw
  have HPS:=hid hps
  have w0:=cell_of_heap hw.wb 0
  simp only [List.getElem?_toArray,List.getElem?_cons_zero] at w0
  unfold sl at w0
  have hWl:W < x.heap.size:=heap_lt hw.wb
  clear hw hps
  have HRN:=hid hr.1
  have HRA:=hid hr.2
  clear hr
  unfold OpG.cells sla
  obtain ⟨okind,on,l,f,fa,fc,k1,k2,k3,oa⟩:=o
  dsimp only at *
  subst hk
  have hz:((np:Int) == 0)=false:=beq_eq_false_iff_ne.2 (by omega)
  go_enter Tryz.func30,Tryz.ntmps30
  go_wp2
  generalize hY:x.alloc (.cells #[.int .i64 9,.int .i64 on,.string ⟨l.toArray⟩,.int .i64 f.kind,.int .i64 f.frm,.int .i64 f.view,.int .i64 f.place,.int .i64 f.agreed,.int .i64 f.last,.int .i64 f.line.c,.int .i64 f.line.t,.string ⟨f.line.s.toArray⟩,.slice fa f.lines.length fc,.int .i64 k1,.int .i64 k2,.int .i64 k3,.int .i64 oa] 76)=Y
  have HOP:Hid (Y.heap[x.heap.size]?=some (.cells #[.int .i64 9,.int .i64 on,.string ⟨l.toArray⟩,.int .i64 f.kind,.int .i64 f.frm,.int .i64 f.view,.int .i64 f.place,.int .i64 f.agreed,.int .i64 f.last,.int .i64 f.line.c,.int .i64 f.line.t,.string ⟨f.line.s.toArray⟩,.slice fa f.lines.length fc,.int .i64 k1,.int .i64 k2,.int .i64 k3,.int .i64 oa] 76 (0,0))):=by show _=_;rw [← hY];exact heap_alloc_new x _
  have y1:Y.cell? ⟨x.heap.size,1,none⟩=some (.int .i64 on):=by rw [← hY];exact World.cell?_alloc_new _ _ _ _
  have BY:Hid (Below x.heap.size x Y):=by show Below _ _ _;rw [← hY];exact (Below.refl _ _).alloc (Nat.le_refl _) _
  have hxl:x.heap.size < Y.heap.size:=by rw [← hY];simp
  have WY:=hid (HWI.out.below BY.out)
  have PY:=hid (HPS.out.below keepsSaid_ BY.out)
  clear hY w0
  have v0:=cell_of_heap WY.out.wb 0
  simp only [List.getElem?_toArray,List.getElem?_cons_zero] at v0
  unfold sl at v0
  have hi:=pickN_lt on h0
  have HPK:=hid (pick_any on np)
  generalize pickN on np=i at hi HPK ⊢
  obtain ⟨gP,hgP,cP⟩:=PY.out.ptr i hi
  obtain ⟨K,F,Kr,G,q1,q2,q3,q5,q6,q7,q8⟩:=PY.out.pl i hi
  have hiv:=PY.out.iv i hi
  generalize hPi:P i=pi at *
  obtain ⟨pp,pN,ps⟩:=pi
  dsimp only at *
  have HPI:=hid hPi
  have HIV:=hid hiv
  have HQ1:=hid q1
  have HQ2:=hid q2
  have HQ3:=hid q3
  have HQ5:=hid q5
  have HQ6:=hid q6
  have HQ7:=hid q7
  have HQ8:=hid q8
  clear hiv q1 q2 q3 q5 q6 q7 q8 hPi
  subst hgP
  have i0:(0:Int)≤(i:Int):=by omega
  have i1:(i:Int) < (np:Int):=by omega
  simp only [Option.map_some] at v0 ⊢
  have HX:Hid (Below Y.heap.size Y Y):=Below.refl _ _
  go_region_held (fun z=>z.cell? ⟨x.heap.size,1,none⟩=some (.int .i64 on)∧z.cell? ⟨W,0,none⟩=some (.slice (some ⟨gP,0,none⟩) np cp)∧z.cell? ⟨gP,i,none⟩=some (.pointer (some ⟨pp,0,none⟩)))
    (go_keep)
    (first | (go_at_call 54;refine (HPK.out _ h0 (by omega) HRN.out).mono ?_;rintro e wf ⟨rfl,rfl⟩))
  rename_i hh
  clear hh
  obtain ⟨Y2,hY2⟩:∃ Y2:World,Y2=Y.drew:=⟨_,rfl⟩
  have bY2:Below Y.heap.size Y Y2:=by rw [hY2];exact (Below.refl _ _).drew
  have hs2:Y2.heap.size=Y.heap.size:=by rw [hY2];rfl
  rw [← hY2]
  have W2:=hid (WY.out.below bY2)
  have P2:=hid (PY.out.below keepsSaid_ bY2)
  have B2:=hid (BY.out.trans (bY2.mono BY.out.size))
  have HK2:=hid (keepsSaid_ _ _ _ _ _ _ HQ2.out (Touch.of_belowAll bY2 (fun _=>False)) (fun _ _ h=>h))
  have HR2:=hid (HQ3.out.below bY2)
  have HP2:=hid ((bY2.block _ (heap_lt HQ1.out)).trans HQ1.out)
  have HO2:=hid ((bY2.block _ (heap_lt HOP.out)).trans HOP.out)
  have HFX:Hid (∀ k,(k=pp∨F k∨G k)→k < x.heap.size∧W≤k):=fun k e=>by
    have e2:(P i).N k:=by rw [HPI.out];exact (HQ5.out k).2 e
    exact ⟨HPS.out.lt i hi k e2,HPS.out.ge i hi k e2⟩
  clear hY2 bY2 y1 v0 WY PY BY HX cP HQ1 HQ2 HQ3 HPK HOP hz
  have p0:=cell_of_heap HP2.out 0
  have p1:=cell_of_heap HP2.out 1
  simp only [List.getElem?_toArray,List.getElem?_cons_zero,List.getElem?_cons_succ] at p0 p1
  have u0:Y2.cell? ⟨x.heap.size,0,none⟩=some (.int .i64 9):=cell_of_heap HO2.out 0
  have u1:=cell_of_heap HO2.out 1
  have u2:=cell_of_heap HO2.out 2
  have u3:=cell_of_heap HO2.out 3
  have u4:=cell_of_heap HO2.out 4
  have u5:=cell_of_heap HO2.out 5
  have u6:=cell_of_heap HO2.out 6
  have u7:=cell_of_heap HO2.out 7
  have u8:=cell_of_heap HO2.out 8
  have u9:=cell_of_heap HO2.out 9
  have u10:=cell_of_heap HO2.out 10
  have u11:=cell_of_heap HO2.out 11
  have u12:=cell_of_heap HO2.out 12
  have u13:=cell_of_heap HO2.out 13
  have u14:=cell_of_heap HO2.out 14
  have u15:=cell_of_heap HO2.out 15
  have u16:=cell_of_heap HO2.out 16
  simp only [List.getElem?_toArray,List.getElem?_cons_zero,List.getElem?_cons_succ] at u1 u2 u3 u4 u5 u6 u7 u8 u9 u10 u11 u12 u13 u14 u15 u16
  have HX:Hid (Calls Tryz.prog 61 #[.pointer (some ⟨W,0,none⟩),.pointer (some ⟨pp,0,none⟩),.agg #[.int .i64 9,.int .i64 on,.string ⟨l.toArray⟩,.int .i64 f.kind,.int .i64 f.frm,.int .i64 f.view,.int .i64 f.place,.int .i64 f.agreed,.int .i64 f.last,.int .i64 f.line.c,.int .i64 f.line.t,.string ⟨f.line.s.toArray⟩,.slice fa f.lines.length fc,.int .i64 k1,.int .i64 k2,.int .i64 k3,.int .i64 oa]] Y2 fun e y=>e=.returned (.bool (otherR l))∧Below Y2.heap.size Y2 y):=otherHeard Y2 W _ gh n cap H W2.out pp ⟨9,on,l,f,fa,fc,k1,k2,k3,oa⟩ rfl hsl
  have hx2:x.heap.size≤Y2.heap.size:=B2.out.size
  obtain ⟨r,hr⟩:∃ r,otherR l=r:=⟨_,rfl⟩
  rw [hr] at HX
  cases r with
  | true =>
    clear hr
    go_wp2_with fail
    refine HX.out.mono ?_
    rintro e Y3 ⟨rfl,hb3⟩
    have HB3:=hid hb3
    clear hb3 HX
    clear u0 u1 u2 u3 u4 u5 u6 u7 u8 u9 u10 u11 u12 u13 u14 u15 u16 p0 p1
    go_wp2
    go_ret
    exact ⟨rfl,0,by omega,LawAt.still keepsSaid_ HWI.out HPS.out h6 (B2.out.trans (HB3.out.mono B2.out.size))⟩
  | false =>
    have HNO:Hid (¬ otherB l):=fun e=>by have:=(otherR_iff l).2 e;rw [hr] at this;cases this
    clear hr
    go_wp2_with fail
    refine HX.out.mono ?_
    rintro e Y3 ⟨rfl,hb3⟩
    have W3:=hid (W2.out.below hb3)
    have P3:=hid (P2.out.below keepsSaid_ hb3)
    have B3:=hid (B2.out.trans (hb3.mono B2.out.size))
    have HK3:=hid (keepsSaid_ _ _ _ _ _ _ HK2.out (Touch.of_belowAll hb3 (fun _=>False)) (fun _ _ h=>h))
    have HR3:=hid (HR2.out.below hb3)
    have HP3:=hid ((hb3.block _ (heap_lt HP2.out)).trans HP2.out)
    have HO3:=hid ((hb3.block _ (heap_lt HO2.out)).trans HO2.out)
    have hs3:Y2.heap.size≤Y3.heap.size:=hb3.size
    clear hb3 HX
    clear u0 u1 u2 u3 u4 u5 u6 u7 u8 u9 u10 u11 u12 u13 u14 u15 u16 p0 p1
    have u2:Y3.cell? ⟨x.heap.size,2,none⟩=some (.string ⟨l.toArray⟩):=cell_of_heap HO3.out 2
    go_wp2_with fail
    refine (lent_any l _ (by omega)).mono ?_
    rintro e Y4 ⟨rfl,hle,hb4⟩
    have HLE:=hid hle
    have hs4:Y3.heap.size < Y4.heap.size:=hle.own.lt rfl
    have W4:=hid (W3.out.below hb4)
    have P4:=hid (P3.out.below keepsSaid_ hb4)
    have B4:=hid (B3.out.trans (hb4.mono B3.out.size))
    have HK4:=hid (keepsSaid_ _ _ _ _ _ _ HK3.out (Touch.of_belowAll hb4 (fun _=>False)) (fun _ _ h=>h))
    have HR4:=hid (HR3.out.below hb4)
    have HP4:=hid ((hb4.block _ (heap_lt HP3.out)).trans HP3.out)
    have HO4:=hid ((hb4.block _ (heap_lt HO3.out)).trans HO3.out)
    clear hle hb4 u2
    obtain ⟨d,hd⟩:∃ d,d=ps.heard l:=⟨_,rfl⟩
    have HPT:Hid (∀ z,KIs_ z K F ps→BytesIn z (some ⟨Y3.heap.size,0,none⟩) l→Calls Tryz.prog 21 #[.pointer (some ⟨K,0,none⟩),.slice (some ⟨Y3.heap.size,0,none⟩) l.length (l.length+8)] z (PDid z K F d)):=fun z hz hb=>by rw [hd];exact progHeard ps HIV.out z K F hz Y3.heap.size 0 (l.length+8) l hb (by omega) (by omega) HNO.out
    have HDT:Hid (∀ z,RIs z Kr G ps→Calls Tryz.prog 63 #[.pointer (some ⟨Kr,0,none⟩),.string ⟨l.toArray⟩] z (RDid z Kr G d)):=fun z hz=>by rw [hd];exact docHeard ps HIV.out z Kr G hz l (by omega) HNO.out
    have HDO:Hid d.Ok:=by show d.Ok;rw [hd];exact HIV.out.heard l
    clear hd
    obtain ⟨os,er,st⟩:=d
    unfold PDid at HPT
    unfold RDid at HDT
    dsimp only at HPT HDT
    have h20:os.length≤20:=HDO.out.n20
    have hp0:Y4.cell? ⟨pp,0,none⟩=some (.pointer (some ⟨K,0,none⟩)):=cell_of_heap HP4.out 0
    have hu2:Y4.cell? ⟨x.heap.size,2,none⟩=some (.string ⟨l.toArray⟩):=cell_of_heap HO4.out 2
    have b1:(0:Int)≤(l.length:Int):=by omega
    have b2:(l.length:Int)≤(l.length:Int)+8:=by omega
    have hS0:(fun z:World=>z.cell? ⟨pp,0,none⟩=some (.pointer (some ⟨K,0,none⟩))∧z.cell? ⟨x.heap.size,2,none⟩=some (.string ⟨l.toArray⟩)) Y4.drew:=⟨hp0,hu2⟩
    clear hp0 hu2
    go_wp2
    refine wp_region_held_drew (S:=fun z:World=>z.cell? ⟨pp,0,none⟩=some (.pointer (some ⟨K,0,none⟩))∧z.cell? ⟨x.heap.size,2,none⟩=some (.string ⟨l.toArray⟩)) (by kernel_rfl) hS0 (fun hS=>?_)
    clear hS0
    refine tH 0 hS ?_
    try simp only [lA,lB,lC,Act.put,lD,lE,lF]
    refine tH 1 hS ?_
    try simp only [lA,lB,lC,Act.put,lD,lE,lF]
    refine tH 2 hS ?_
    try simp only [lA,lB,lC,Act.put,lD,lE,lF]
    refine tH 4 hS ?_
    try simp only [lA,lB,lC,Act.put,lD,lE,lF]
    refine tH 5 hS ?_
    try simp only [lA,lB,lC,Act.put,lD,lE,lF]
    refine tH 3 hS ?_ (hy:=by (intro w hw;obtain ⟨s0,s1⟩:=hw;go_simp;try with_reducible rfl))
    try simp only [lA,lB,lC,Act.put,lD,lE,lF]
    refine tH 6 hS ?_ (hy:=by (intro w hw;obtain ⟨s0,s1⟩:=hw;go_simp;try with_reducible rfl))
    try simp only [lA,lB,lC,Act.put,lD,lE,lF]
    refine tH 7 hS ?_
    try simp only [lA,lB,lC,Act.put,lD,lE,lF]
    refine tH 8 hS ?_
    try simp only [lA,lB,lC,Act.put,lD,lE,lF]
    refine wpAnyH_ready (rs:=[9]) (by kernel_rfl) (by simp) ?_
    refine AllReadyH.cons rfl (fun K hK=>?_) AllReadyH.nil
    go_simp
    refine (HPT.out _ (keepsSaid_ _ _ _ _ _ _ HK4.out ((Touch.refl (fun _=>False) Y4).drew) (fun _ _ h=>h)) (fun j hj=>⟨_,_,rfl,by rw [Nat.zero_add];exact HLE.out.at_ j hj⟩)).mono ?_
    rintro e Y5 ⟨g,c,gs,cs,F',rfl,ho,hk5,t5',n5,d5⟩
    have t5:Touch F Y4 Y5:=((Touch.refl F Y4).drew).trans t5' (fun _ _ e=>e)
    have T5:=hid t5
    have HK5:=hid hk5
    have HO:Hid (OwnOuts Y4 Y5 g c os gs cs):=ho.base (Nat.le_refl _)
    have N5:Hid (∀ k,F' k→F k∨Y4.heap.size≤k):=n5
    have D5:=hid d5
    have HR5:=hid (HR4.out.touch t5 (fun k e e2=>HQ6.out k e2 e))
    have HP5:=hid (t5.heapAt HP4.out HQ7.out)
    have HO5:=hid (t5.heapAt HO4.out (fun e=>by have:=(HFX.out _ (.inr (.inl e))).1;omega))
    have HLE5:=hid (HLE.out.touch t5 (fun e=>by have:=(HFX.out _ (.inr (.inl e))).1;omega))
    have hs5:Y4.heap.size≤Y5.heap.size:=t5.size
    refine hK.out _ _ ⟨cell_of_heap HP5.out 0,cell_of_heap HO5.out 2⟩ (fun hS=>?_)
    clear hK K
    clear t5 t5' hk5 ho n5 d5 HPT b1 b2
    unfold sl
    refine tH 10 hS ?_
    try simp only [lA,lB,lC,Act.put,lD,lE,lF]
    refine tH 11 hS ?_
    try simp only [lA,lB,lC,Act.put,lD,lE,lF]
    refine tH 12 hS ?_
    try simp only [lA,lB,lC,Act.put,lD,lE,lF]
    refine tH 13 hS ?_
    try simp only [lA,lB,lC,Act.put,lD,lE,lF]
    refine tH 14 hS ?_
    try simp only [lA,lB,lC,Act.put,lD,lE,lF]
    refine wpAnyH_done (by kernel_rfl) ?_ _
    clear hS
    have hp1:Y5.cell? ⟨pp,1,none⟩=some (.pointer (some ⟨Kr,0,none⟩)):=cell_of_heap HP5.out 1
    have hu2:Y5.cell? ⟨x.heap.size,2,none⟩=some (.string ⟨l.toArray⟩):=cell_of_heap HO5.out 2
    have hS0:(fun z:World=>z.cell? ⟨pp,1,none⟩=some (.pointer (some ⟨Kr,0,none⟩))∧z.cell? ⟨x.heap.size,2,none⟩=some (.string ⟨l.toArray⟩)) Y5.drew:=⟨hp1,hu2⟩
    clear hp1 hu2
    go_wp2
    refine wp_region_held_drew (S:=fun z:World=>z.cell? ⟨pp,1,none⟩=some (.pointer (some ⟨Kr,0,none⟩))∧z.cell? ⟨x.heap.size,2,none⟩=some (.string ⟨l.toArray⟩)) (by kernel_rfl) hS0 (fun hS=>?_)
    clear hS0
    refine tH 0 hS ?_
    try simp only [lA,lB,lC,Act.put,lD,lE,lF]
    refine tH 1 hS ?_
    try simp only [lA,lB,lC,Act.put,lD,lE,lF]
    refine tH 2 hS ?_
    try simp only [lA,lB,lC,Act.put,lD,lE,lF]
    refine tH 4 hS ?_
    try simp only [lA,lB,lC,Act.put,lD,lE,lF]
    refine tH 3 hS ?_ (hy:=by (intro w hw;obtain ⟨s0,s1⟩:=hw;go_simp;try with_reducible rfl))
    try simp only [lA,lB,lC,Act.put,lD,lE,lF]
    refine tH 5 hS ?_ (hy:=by (intro w hw;obtain ⟨s0,s1⟩:=hw;go_simp;try with_reducible rfl))
    try simp only [lA,lB,lC,Act.put,lD,lE,lF]
    refine wpAnyH_ready (rs:=[6]) (by kernel_rfl) (by simp) ?_
    refine AllReadyH.cons rfl (fun K hK=>?_) AllReadyH.nil
    go_simp
    refine (HDT.out _ (HR5.out.below ((Below.refl _ _).drew))).mono ?_
    rintro e Y6 ⟨gr,cr,G',rfl,hor,hr6,t6',n6⟩
    have t6:Touch G Y5 Y6:=((Touch.refl G Y5).drew).trans t6' (fun _ _ e=>e)
    have A6:=hid (PS.turn W4.out P4.out hi HPI.out HP4.out HQ5.out HQ6.out HQ7.out HQ8.out HK5.out T5.out N5.out hr6 t6 n6 HDO.out.iv)
    have HO6:Hid (OwnOuts Y4 Y6 g c os gs cs):=HO.out.touch t6 (fun k e e2=>by
      have:=HO.out.in_ k e
      have:=(HFX.out k (.inr (.inr e2))).1
      omega)
    have HOR:=hid hor
    have N6:Hid (∀ k,G' k→G k∨(Y5.heap.size≤k∧k < Y6.heap.size)):=n6
    have HP6:=hid (t6.heapAt HP5.out HQ8.out)
    have HOB6:=hid (t6.heapAt HO5.out (fun e=>by have:=(HFX.out _ (.inr (.inr e))).1;omega))
    have HLE6:=hid (HLE5.out.touch t6 (fun e=>by have:=(HFX.out _ (.inr (.inr e))).1;omega))
    have hs6:Y5.heap.size≤Y6.heap.size:=t6.size
    refine hK.out _ _ ⟨cell_of_heap HP6.out 1,cell_of_heap HOB6.out 2⟩ (fun hS=>?_)
    clear hK K
    clear hor hr6 t6 t6' n6 HDT
    refine tH 7 hS ?_
    try simp only [lA,lB,lC,Act.put,lD,lE,lF]
    refine tH 8 hS ?_
    try simp only [lA,lB,lC,Act.put,lD,lE,lF]
    refine tH 9 hS ?_
    try simp only [lA,lB,lC,Act.put,lD,lE,lF]
    refine tH 10 hS ?_
    try simp only [lA,lB,lC,Act.put,lD,lE,lF]
    refine tH 11 hS ?_
    try simp only [lA,lB,lC,Act.put,lD,lE,lF]
    refine wpAnyH_done (by kernel_rfl) ?_ _
    clear hS
    have u2:Y6.cell? ⟨x.heap.size,2,none⟩=some (.string ⟨l.toArray⟩):=cell_of_heap HOB6.out 2
    go_wp2_with fail
    refine (still_any l Y3.heap.size (l.length+8) Y6 (by omega) HLE6.out).mono ?_
    rintro e Y7 ⟨rfl,hb7⟩
    have W7:=hid (A6.out.1.below hb7)
    have P7:=hid (A6.out.2.1.below keepsSaid_ hb7)
    have T7:Hid (Touch (fun k=>F k∨G k) Y4 Y7):=A6.out.2.2.trans (Touch.of_belowAll hb7 (fun _=>False)) (fun _ _ e=>e.elim)
    have HO7:=hid (HO6.out.below hb7)
    have HOR7:=hid (HOR.out.touch (Touch.of_belowAll hb7 (fun _=>False)) (fun _ _ e=>e))
    have HLE7:=hid (HLE6.out.below hb7)
    have hs7:Y6.heap.size≤Y7.heap.size:=hb7.size
    clear hb7 u2 A6
    go_wp2_with fail
    refine (sent_any Y7 W (sl (some gP) np cp) true gh n cap H W7.out Y4 g c os gs cs HO7.out gr cr HOR7.out (fun k e=>W4.out.free_new (HO7.out.in_ k e).1) h20 HDO.out.bs hn).mono ?_
    rintro e Y8 ⟨rfl,gh',cap',H',kn⟩
    have KN:=hid kn
    have noR:Hid (∀ k,k=Y3.heap.size→¬ (g=some k∨∃ j,j < os.length∧gs j=some k)):=fun k ek e=>by have:=(HO7.out.in_ k e).1;omega
    have ROW:Hid (OwnRow Y8 5 1 (some Y3.heap.size) (l.length+8) (l.length+8)):=HLE7.out.own.touch kn.tch (fun k e t=>by
      have ek:k=Y3.heap.size:=(Option.some.inj e).symm
      rcases t with t | t | t
      · omega
      · have:=HWI.out.ow.lt t;omega
      · exact noR.out k ek t)
    have FRE:Hid (Free W gh' (n+(4 * os.length+4)) H' Y3.heap.size):=kn.fr _ (by omega) (HWI.out.free_new (by omega)) (noR.out _ rfl)
    clear kn
    go_wp2_with fail
    refine (keep_hold Y8 W (sl (some gP) np cp) true gh' (n+(4 * os.length+4)) cap' H' KN.out.wi (some Y3.heap.size) none none (l.length+8) (l.length+8) 0 0 0 0 ROW.out (.inl ⟨rfl,rfl,rfl⟩) (.inl ⟨rfl,rfl,rfl⟩) (fun g _ e=>by cases e) (fun g _ e=>by cases e) (fun g e=>by cases e)
      (fun k' e=>by rcases e with e | e | e;(cases e;exact FRE.out);cases e;cases e) (by omega) (by omega) (by omega) (by omega)).mono ?_
    rintro e Y9 ⟨rfl,K1⟩
    obtain ⟨gh2,cap2,H2,kn2⟩:=KN.out.next K1
    have LA:Hid (LawAt KIs_ IvL x W true (n+(4 * os.length+4+4)) gh (some gP) Y9):=by
      refine LawAt.keptN W7.out P7.out h6 ((Touch.of_belowAll B4.out _).trans T7.out (fun k _ e=>.inl (HFX.out k (.inr e)).2)) kn2 (fun k e=>?_) (fun j hj k hk e=>?_) (fun k e=>HPS.out.own.lt e)
      · rcases e with e | e | e | e
        · have:=(HO7.out.in_ k e).1;omega
        · have:=Option.some.inj e;omega
        · cases e
        · cases e
      · rcases e with e | e | e | e
        · have h1:=HO.out.in_ k e
          by_cases ej:j=i
          · simp only [if_pos ej] at hk
            rcases hk with q | q | q
            · have:=(HFX.out k (.inl q)).1;omega
            · exact D5.out k e q
            · rcases N6.out k q with q | q
              · have:=(HFX.out k (.inr (.inr q))).1;omega
              · omega
          · simp only [if_neg ej] at hk
            have:=HPS.out.lt j hj k hk;omega
        · have h1:=Option.some.inj e
          by_cases ej:j=i
          · simp only [if_pos ej] at hk
            rcases hk with q | q | q
            · have:=(HFX.out k (.inl q)).1;omega
            · rcases N5.out k q with q | q
              · have:=(HFX.out k (.inr (.inl q))).1;omega
              · omega
            · rcases N6.out k q with q | q
              · have:=(HFX.out k (.inr (.inr q))).1;omega
              · omega
          · simp only [if_neg ej] at hk
            have:=HPS.out.lt j hj k hk;omega
        · cases e
        · cases e
    clear K1 kn2
    go_wp2
    go_ret
    exact ⟨ret_bool (by simp),_,by omega,LA.out⟩
end
end Go.Proofs.YtolififimldmlaaGreat
