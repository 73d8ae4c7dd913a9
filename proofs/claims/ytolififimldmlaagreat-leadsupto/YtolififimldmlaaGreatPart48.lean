import Derived.Test.YtolififimldmlaaGreatPart26
import Derived.Test.YtolififimldmlaaGreatPart47
import Derived.Test.YtolififimldmlaaGreatPart01
import Derived.Test.YtolififimldmlaaGreatRows
import Derived.ProofKit
import Derived.Deep.Slices
import Derived.Test.YtolififimldmlaaGreatPart15
set_option linter.unusedVariables false
set_option linter.unusedSimpArgs false
set_option maxRecDepth 100000
set_option maxHeartbeats 16000000
namespace Go.Proofs.YtolififimldmlaaGreat
section
open Go.RowKit
attribute [local go_sem ↓] Go.wp_at_zero Go.wp_at_succ
theorem otherR_iff (b:List UInt8):otherR b=true↔otherB b:=by
  unfold otherR otherB
  cases h:unpackR b with
  | none=>simp
  | some f=>simp [or_assoc]
theorem stepHeard (x:World) (W:Nat) (gh:Option Nat) (n cap:Nat) (H:Nat→HG) (gp:Option Nat) (np cp:Nat) (P:Nat→PG) (hw:WI x W (sl gp np cp) true gh n cap H) (hps:PS KIs_ IvL x W gh n H gp np cp P) (h0:0 < np) (h6:np≤6) (hn:n≤95000000) (o:OpG) (hk:o.kind=9) (hsl:o.s.length≤9000000) (hr:o.ranged) :
    Calls Tryz.prog 30 #[.pointer (some ⟨W,0,none⟩),.agg o.cells] x fun e y=>e=.returned (.bool true)∧∃ m,m≤88∧LawAt KIs_ IvL x W true (n+m) gh gp y:=by
  have HWI:=hid hw
  have HPS:=hid hps
  have w0:=cell_of_heap hw.wb 0
  simp only [List.getElem?_toArray,List.getElem?_cons_zero] at w0
  unfold sl at w0
  have hWl:W < x.heap.size:=heap_lt hw.wb
  clear hw hps
  have HRN:=hid hr.1
  have HRA:=hid hr.2
  clear hr
  unfold OpG.cells sla
  obtain ⟨okind,on,l,f,fa,fc,k1,k2,k3,oa⟩:=o
  dsimp only at *
  subst hk
  have hz:((np:Int) == 0)=false:=beq_eq_false_iff_ne.2 (by omega)
  go_enter Tryz.func30,Tryz.ntmps30
  go_wp2
  generalize hY:x.alloc (.cells #[.int .i64 9,.int .i64 on,.string ⟨l.toArray⟩,.int .i64 f.kind,.int .i64 f.frm,.int .i64 f.view,.int .i64 f.place,.int .i64 f.agreed,.int .i64 f.last,.int .i64 f.line.c,.int .i64 f.line.t,.string ⟨f.line.s.toArray⟩,.slice fa f.lines.length fc,.int .i64 k1,.int .i64 k2,.int .i64 k3,.int .i64 oa] 76)=Y
  have HOP:Hid (Y.heap[x.heap.size]?=some (.cells #[.int .i64 9,.int .i64 on,.string ⟨l.toArray⟩,.int .i64 f.kind,.int .i64 f.frm,.int .i64 f.view,.int .i64 f.place,.int .i64 f.agreed,.int .i64 f.last,.int .i64 f.line.c,.int .i64 f.line.t,.string ⟨f.line.s.toArray⟩,.slice fa f.lines.length fc,.int .i64 k1,.int .i64 k2,.int .i64 k3,.int .i64 oa] 76 (0,0))):=by show _=_;rw [← hY];exact heap_alloc_new x _
  have y1:Y.cell? ⟨x.heap.size,1,none⟩=some (.int .i64 on):=by rw [← hY];exact World.cell?_alloc_new _ _ _ _
  have BY:Hid (Below x.heap.size x Y):=by show Below _ _ _;rw [← hY];exact (Below.refl _ _).alloc (Nat.le_refl _) _
  have hxl:x.heap.size < Y.heap.size:=by rw [← hY];simp
  have WY:=hid (HWI.out.below BY.out)
  have PY:=hid (HPS.out.below keepsSaid_ BY.out)
  clear hY w0
  have v0:=cell_of_heap WY.out.wb 0
  simp only [List.getElem?_toArray,List.getElem?_cons_zero] at v0
  unfold sl at v0
  have hi:=pickN_lt on h0
  have HPK:=hid (pick_any on np)
  generalize pickN on np=i at hi HPK ⊢
  obtain ⟨gP,hgP,cP⟩:=PY.out.ptr i hi
  obtain ⟨K,F,Kr,G,q1,q2,q3,q5,q6,q7,q8⟩:=PY.out.pl i hi
  have hiv:=PY.out.iv i hi
  generalize hPi:P i=pi at *
  obtain ⟨pp,pN,ps⟩:=pi
  dsimp only at *
  have HPI:=hid hPi
  have HIV:=hid hiv
  have HQ1:=hid q1
  have HQ2:=hid q2
  have HQ3:=hid q3
  have HQ5:=hid q5
  have HQ6:=hid q6
  have HQ7:=hid q7
  have HQ8:=hid q8
  clear hiv q1 q2 q3 q5 q6 q7 q8 hPi
  subst hgP
  have i0:(0:Int)≤(i:Int):=by omega
  have i1:(i:Int) < (np:Int):=by omega
  simp only [Option.map_some] at v0 ⊢
  have HX:Hid (Below Y.heap.size Y Y):=Below.refl _ _
  go_region_held (fun z=>z.cell? ⟨x.heap.size,1,none⟩=some (.int .i64 on)∧z.cell? ⟨W,0,none⟩=some (.slice (some ⟨gP,0,none⟩) np cp)∧z.cell? ⟨gP,i,none⟩=some (.pointer (some ⟨pp,0,none⟩)))
    (go_keep)
    (first | (go_at_call 54;refine (HPK.out _ h0 (by omega) HRN.out).mono ?_;rintro e wf ⟨rfl,rfl⟩))
  rename_i hh
  clear hh
  obtain ⟨Y2,hY2⟩:∃ Y2:World,Y2=Y.drew:=⟨_,rfl⟩
  have bY2:Below Y.heap.size Y Y2:=by rw [hY2];exact (Below.refl _ _).drew
  have hs2:Y2.heap.size=Y.heap.size:=by rw [hY2];rfl
  rw [← hY2]
  have W2:=hid (WY.out.below bY2)
  have P2:=hid (PY.out.below keepsSaid_ bY2)
  have B2:=hid (BY.out.trans (bY2.mono BY.out.size))
  have HK2:=hid (keepsSaid_ _ _ _ _ _ _ HQ2.out (Touch.of_belowAll bY2 (fun _=>False)) (fun _ _ h=>h))
  have HR2:=hid (HQ3.out.below bY2)
  have HP2:=hid ((bY2.block _ (heap_lt HQ1.out)).trans HQ1.out)
  have HO2:=hid ((bY2.block _ (heap_lt HOP.out)).trans HOP.out)
  have HFX:Hid (∀ k,(k=pp∨F k∨G k)→k < x.heap.size∧W≤k):=fun k e=>by
    have e2:(P i).N k:=by rw [HPI.out];exact (HQ5.out k).2 e
    exact ⟨HPS.out.lt i hi k e2,HPS.out.ge i hi k e2⟩
  clear hY2 bY2 y1 v0 WY PY BY HX cP HQ1 HQ2 HQ3 HPK HOP hz
  have p0:=cell_of_heap HP2.out 0
  have p1:=cell_of_heap HP2.out 1
  simp only [List.getElem?_toArray,List.getElem?_cons_zero,List.getElem?_cons_succ] at p0 p1
  have u0:Y2.cell? ⟨x.heap.size,0,none⟩=some (.int .i64 9):=cell_of_heap HO2.out 0
  have u1:=cell_of_heap HO2.out 1
  have u2:=cell_of_heap HO2.out 2
  have u3:=cell_of_heap HO2.out 3
  have u4:=cell_of_heap HO2.out 4
  have u5:=cell_of_heap HO2.out 5
  have u6:=cell_of_heap HO2.out 6
  have u7:=cell_of_heap HO2.out 7
  have u8:=cell_of_heap HO2.out 8
  have u9:=cell_of_heap HO2.out 9
  have u10:=cell_of_heap HO2.out 10
  have u11:=cell_of_heap HO2.out 11
  have u12:=cell_of_heap HO2.out 12
  have u13:=cell_of_heap HO2.out 13
  have u14:=cell_of_heap HO2.out 14
  have u15:=cell_of_heap HO2.out 15
  have u16:=cell_of_heap HO2.out 16
  simp only [List.getElem?_toArray,List.getElem?_cons_zero,List.getElem?_cons_succ] at u1 u2 u3 u4 u5 u6 u7 u8 u9 u10 u11 u12 u13 u14 u15 u16
  have HX:Hid (Calls Tryz.prog 61 #[.pointer (some ⟨W,0,none⟩),.pointer (some ⟨pp,0,none⟩),.agg #[.int .i64 9,.int .i64 on,.string ⟨l.toArray⟩,.int .i64 f.kind,.int .i64 f.frm,.int .i64 f.view,.int .i64 f.place,.int .i64 f.agreed,.int .i64 f.last,.int .i64 f.line.c,.int .i64 f.line.t,.string ⟨f.line.s.toArray⟩,.slice fa f.lines.length fc,.int .i64 k1,.int .i64 k2,.int .i64 k3,.int .i64 oa]] Y2 fun e y=>e=.returned (.bool (otherR l))∧Below Y2.heap.size Y2 y):=otherHeard Y2 W _ gh n cap H W2.out pp ⟨9,on,l,f,fa,fc,k1,k2,k3,oa⟩ rfl hsl
  have hx2:x.heap.size≤Y2.heap.size:=B2.out.size
  obtain ⟨r,hr⟩:∃ r,otherR l=r:=⟨_,rfl⟩
  rw [hr] at HX
  cases r with
  | true =>
    clear hr
    go_wp2_with fail
    refine HX.out.mono ?_
    rintro e Y3 ⟨rfl,hb3⟩
    have HB3:=hid hb3
    clear hb3 HX
    clear u0 u1 u2 u3 u4 u5 u6 u7 u8 u9 u10 u11 u12 u13 u14 u15 u16 p0 p1
    go_wp2
    go_ret
    exact ⟨rfl,0,by omega,LawAt.still keepsSaid_ HWI.out HPS.out h6 (B2.out.trans (HB3.out.mono B2.out.size))⟩
  | false =>
    have HNO:Hid (¬ otherB l):=fun e=>by have:=(otherR_iff l).2 e;rw [hr] at this;cases this
    clear hr
    go_wp2_with fail
    refine HX.out.mono ?_
    rintro e Y3 ⟨rfl,hb3⟩
    have W3:=hid (W2.out.below hb3)
    have P3:=hid (P2.out.below keepsSaid_ hb3)
    have B3:=hid (B2.out.trans (hb3.mono B2.out.size))
    have HK3:=hid (keepsSaid_ _ _ _ _ _ _ HK2.out (Touch.of_belowAll hb3 (fun _=>False)) (fun _ _ h=>h))
    have HR3:=hid (HR2.out.below hb3)
    have HP3:=hid ((hb3.block _ (heap_lt HP2.out)).trans HP2.out)
    have HO3:=hid ((hb3.block _ (heap_lt HO2.out)).trans HO2.out)
    have hs3:Y2.heap.size≤Y3.heap.size:=hb3.size
    clear hb3 HX
    clear u0 u1 u2 u3 u4 u5 u6 u7 u8 u9 u10 u11 u12 u13 u14 u15 u16 p0 p1
    have u2:Y3.cell? ⟨x.heap.size,2,none⟩=some (.string ⟨l.toArray⟩):=cell_of_heap HO3.out 2
    go_wp2_with fail
    refine (lent_any l _ (by omega)).mono ?_
    rintro e Y4 ⟨rfl,hle,hb4⟩
    have HLE:=hid hle
    have hs4:Y3.heap.size < Y4.heap.size:=hle.own.lt rfl
    have W4:=hid (W3.out.below hb4)
    have P4:=hid (P3.out.below keepsSaid_ hb4)
    have B4:=hid (B3.out.trans (hb4.mono B3.out.size))
    have HK4:=hid (keepsSaid_ _ _ _ _ _ _ HK3.out (Touch.of_belowAll hb4 (fun _=>False)) (fun _ _ h=>h))
    have HR4:=hid (HR3.out.below hb4)
    have HP4:=hid ((hb4.block _ (heap_lt HP3.out)).trans HP3.out)
    have HO4:=hid ((hb4.block _ (heap_lt HO3.out)).trans HO3.out)
    clear hle hb4 u2
    obtain ⟨d,hd⟩:∃ d,d=ps.heard l:=⟨_,rfl⟩
    have HPT:Hid (∀ z,KIs_ z K F ps→BytesIn z (some ⟨Y3.heap.size,0,none⟩) l→Calls Tryz.prog 21 #[.pointer (some ⟨K,0,none⟩),.slice (some ⟨Y3.heap.size,0,none⟩) l.length (l.length+8)] z (PDid z K F d)):=fun z hz hb=>by rw [hd];exact progHeard ps HIV.out z K F hz Y3.heap.size 0 (l.length+8) l hb (by omega) (by omega) HNO.out
    have HDT:Hid (∀ z,RIs z Kr G ps→Calls Tryz.prog 63 #[.pointer (some ⟨Kr,0,none⟩),.string ⟨l.toArray⟩] z (RDid z Kr G d)):=fun z hz=>by rw [hd];exact docHeard ps HIV.out z Kr G hz l (by omega) HNO.out
    have HDO:Hid d.Ok:=by show d.Ok;rw [hd];exact HIV.out.heard l
    clear hd
    obtain ⟨os,er,st⟩:=d
    unfold PDid at HPT
    unfold RDid at HDT
    dsimp only at HPT HDT
    have h20:os.length≤20:=HDO.out.n20
    have hp0:Y4.cell? ⟨pp,0,none⟩=some (.pointer (some ⟨K,0,none⟩)):=cell_of_heap HP4.out 0
    have hu2:Y4.cell? ⟨x.heap.size,2,none⟩=some (.string ⟨l.toArray⟩):=cell_of_heap HO4.out 2
    have b1:(0:Int)≤(l.length:Int):=by omega
    have b2:(l.length:Int)≤(l.length:Int)+8:=by omega
    have hS0:(fun z:World=>z.cell? ⟨pp,0,none⟩=some (.pointer (some ⟨K,0,none⟩))∧z.cell? ⟨x.heap.size,2,none⟩=some (.string ⟨l.toArray⟩)) Y4.drew:=⟨hp0,hu2⟩
    clear hp0 hu2
    go_wp2
    refine wp_region_held_drew (S:=fun z:World=>z.cell? ⟨pp,0,none⟩=some (.pointer (some ⟨K,0,none⟩))∧z.cell? ⟨x.heap.size,2,none⟩=some (.string ⟨l.toArray⟩)) (by kernel_rfl) hS0 (fun hS=>?_)
    clear hS0
    refine tH 0 hS ?_
    try simp only [lA,lB,lC,Act.put,lD,lE,lF]
    refine tH 1 hS ?_
    try simp only [lA,lB,lC,Act.put,lD,lE,lF]
    refine tH 2 hS ?_
    try simp only [lA,lB,lC,Act.put,lD,lE,lF]
    refine tH 4 hS ?_
    try simp only [lA,lB,lC,Act.put,lD,lE,lF]
    refine tH 5 hS ?_
    try simp only [lA,lB,lC,Act.put,lD,lE,lF]
    refine tH 3 hS ?_ (hy:=by (intro w hw;obtain ⟨s0,s1⟩:=hw;go_simp;try with_reducible rfl))
    try simp only [lA,lB,lC,Act.put,lD,lE,lF]
    refine tH 6 hS ?_ (hy:=by (intro w hw;obtain ⟨s0,s1⟩:=hw;go_simp;try with_reducible rfl))
    try simp only [lA,lB,lC,Act.put,lD,lE,lF]
    refine tH 7 hS ?_
    try simp only [lA,lB,lC,Act.put,lD,lE,lF]
    refine tH 8 hS ?_
    try simp only [lA,lB,lC,Act.put,lD,lE,lF]
    refine wpAnyH_ready (rs:=[9]) (by kernel_rfl) (by simp) ?_
    refine AllReadyH.cons rfl (fun K hK=>?_) AllReadyH.nil
    go_simp
    refine (HPT.out _ (keepsSaid_ _ _ _ _ _ _ HK4.out ((Touch.refl (fun _=>False) Y4).drew) (fun _ _ h=>h)) (fun j hj=>⟨_,_,rfl,by rw [Nat.zero_add];exact HLE.out.at_ j hj⟩)).mono ?_
    rintro e Y5 ⟨g,c,gs,cs,F',rfl,ho,hk5,t5',n5,d5⟩
    have t5:Touch F Y4 Y5:=((Touch.refl F Y4).drew).trans t5' (fun _ _ e=>e)
    have T5:=hid t5
    have HK5:=hid hk5
    have HO:Hid (OwnOuts Y4 Y5 g c os gs cs):=ho.base (Nat.le_refl _)
    have N5:Hid (∀ k,F' k→F k∨Y4.heap.size≤k):=n5
    have D5:=hid d5
    have HR5:=hid (HR4.out.touch t5 (fun k e e2=>HQ6.out k e2 e))
    have HP5:=hid (t5.heapAt HP4.out HQ7.out)
    have HO5:=hid (t5.heapAt HO4.out (fun e=>by have:=(HFX.out _ (.inr (.inl e))).1;omega))
    have HLE5:=hid (HLE.out.touch t5 (fun e=>by have:=(HFX.out _ (.inr (.inl e))).1;omega))
    have hs5:Y4.heap.size≤Y5.heap.size:=t5.size
    refine hK.out _ _ ⟨cell_of_heap HP5.out 0,cell_of_heap HO5.out 2⟩ (fun hS=>?_)
    clear hK K
    clear t5 t5' hk5 ho n5 d5 HPT b1 b2
    unfold sl
    refine tH 10 hS ?_
    try simp only [lA,lB,lC,Act.put,lD,lE,lF]
    refine tH 11 hS ?_
    try simp only [lA,lB,lC,Act.put,lD,lE,lF]
    refine tH 12 hS ?_
    try simp only [lA,lB,lC,Act.put,lD,lE,lF]
    refine tH 13 hS ?_
    try simp only [lA,lB,lC,Act.put,lD,lE,lF]
    refine tH 14 hS ?_
    try simp only [lA,lB,lC,Act.put,lD,lE,lF]
    refine wpAnyH_done (by kernel_rfl) ?_ _
    clear hS
    have hp1:Y5.cell? ⟨pp,1,none⟩=some (.pointer (some ⟨Kr,0,none⟩)):=cell_of_heap HP5.out 1
    have hu2:Y5.cell? ⟨x.heap.size,2,none⟩=some (.string ⟨l.toArray⟩):=cell_of_heap HO5.out 2
    have hS0:(fun z:World=>z.cell? ⟨pp,1,none⟩=some (.pointer (some ⟨Kr,0,none⟩))∧z.cell? ⟨x.heap.size,2,none⟩=some (.string ⟨l.toArray⟩)) Y5.drew:=⟨hp1,hu2⟩
    clear hp1 hu2
    go_wp2
    refine wp_region_held_drew (S:=fun z:World=>z.cell? ⟨pp,1,none⟩=some (.pointer (some ⟨Kr,0,none⟩))∧z.cell? ⟨x.heap.size,2,none⟩=some (.string ⟨l.toArray⟩)) (by kernel_rfl) hS0 (fun hS=>?_)
    clear hS0
    refine tH 0 hS ?_
    try simp only [lA,lB,lC,Act.put,lD,lE,lF]
    refine tH 1 hS ?_
    try simp only [lA,lB,lC,Act.put,lD,lE,lF]
    refine tH 2 hS ?_
    try simp only [lA,lB,lC,Act.put,lD,lE,lF]
    refine tH 4 hS ?_
    try simp only [lA,lB,lC,Act.put,lD,lE,lF]
    refine tH 3 hS ?_ (hy:=by (intro w hw;obtain ⟨s0,s1⟩:=hw;go_simp;try with_reducible rfl))
    try simp only [lA,lB,lC,Act.put,lD,lE,lF]
    refine tH 5 hS ?_ (hy:=by (intro w hw;obtain ⟨s0,s1⟩:=hw;go_simp;try with_reducible rfl))
    try simp only [lA,lB,lC,Act.put,lD,lE,lF]
    refine wpAnyH_ready (rs:=[6]) (by kernel_rfl) (by simp) ?_
    refine AllReadyH.cons rfl (fun K hK=>?_) AllReadyH.nil
    go_simp
    refine (HDT.out _ (HR5.out.below ((Below.refl _ _).drew))).mono ?_
    rintro e Y6 ⟨gr,cr,G',rfl,hor,hr6,t6',n6⟩
    have t6:Touch G Y5 Y6:=((Touch.refl G Y5).drew).trans t6' (fun _ _ e=>e)
    have A6:=hid (PS.turn W4.out P4.out hi HPI.out HP4.out HQ5.out HQ6.out HQ7.out HQ8.out HK5.out T5.out N5.out hr6 t6 n6 HDO.out.iv)
    have HO6:Hid (OwnOuts Y4 Y6 g c os gs cs):=HO.out.touch t6 (fun k e e2=>by
      have:=HO.out.in_ k e
      have:=(HFX.out k (.inr (.inr e2))).1
      omega)
    have HOR:=hid hor
    have N6:Hid (∀ k,G' k→G k∨(Y5.heap.size≤k∧k < Y6.heap.size)):=n6
    have HP6:=hid (t6.heapAt HP5.out HQ8.out)
    have HOB6:=hid (t6.heapAt HO5.out (fun e=>by have:=(HFX.out _ (.inr (.inr e))).1;omega))
    have HLE6:=hid (HLE5.out.touch t6 (fun e=>by have:=(HFX.out _ (.inr (.inr e))).1;omega))
    have hs6:Y5.heap.size≤Y6.heap.size:=t6.size
    refine hK.out _ _ ⟨cell_of_heap HP6.out 1,cell_of_heap HOB6.out 2⟩ (fun hS=>?_)
    clear hK K
    clear hor hr6 t6 t6' n6 HDT
    refine tH 7 hS ?_
    try simp only [lA,lB,lC,Act.put,lD,lE,lF]
    refine tH 8 hS ?_
    try simp only [lA,lB,lC,Act.put,lD,lE,lF]
    refine tH 9 hS ?_
    try simp only [lA,lB,lC,Act.put,lD,lE,lF]
    refine tH 10 hS ?_
    try simp only [lA,lB,lC,Act.put,lD,lE,lF]
    refine tH 11 hS ?_
    try simp only [lA,lB,lC,Act.put,lD,lE,lF]
    refine wpAnyH_done (by kernel_rfl) ?_ _
    clear hS
    have u2:Y6.cell? ⟨x.heap.size,2,none⟩=some (.string ⟨l.toArray⟩):=cell_of_heap HOB6.out 2
    go_wp2_with fail
    refine (still_any l Y3.heap.size (l.length+8) Y6 (by omega) HLE6.out).mono ?_
    rintro e Y7 ⟨rfl,hb7⟩
    have W7:=hid (A6.out.1.below hb7)
    have P7:=hid (A6.out.2.1.below keepsSaid_ hb7)
    have T7:Hid (Touch (fun k=>F k∨G k) Y4 Y7):=A6.out.2.2.trans (Touch.of_belowAll hb7 (fun _=>False)) (fun _ _ e=>e.elim)
    have HO7:=hid (HO6.out.below hb7)
    have HOR7:=hid (HOR.out.touch (Touch.of_belowAll hb7 (fun _=>False)) (fun _ _ e=>e))
    have HLE7:=hid (HLE6.out.below hb7)
    have hs7:Y6.heap.size≤Y7.heap.size:=hb7.size
    clear hb7 u2 A6
    go_wp2_with fail
    refine (sent_any Y7 W (sl (some gP) np cp) true gh n cap H W7.out Y4 g c os gs cs HO7.out gr cr HOR7.out (fun k e=>W4.out.free_new (HO7.out.in_ k e).1) h20 HDO.out.bs hn).mono ?_
    rintro e Y8 ⟨rfl,gh',cap',H',kn⟩
    have KN:=hid kn
    have noR:Hid (∀ k,k=Y3.heap.size→¬ (g=some k∨∃ j,j < os.length∧gs j=some k)):=fun k ek e=>by have:=(HO7.out.in_ k e).1;omega
    have ROW:Hid (OwnRow Y8 5 1 (some Y3.heap.size) (l.length+8) (l.length+8)):=HLE7.out.own.touch kn.tch (fun k e t=>by
      have ek:k=Y3.heap.size:=(Option.some.inj e).symm
      rcases t with t | t | t
      · omega
      · have:=HWI.out.ow.lt t;omega
      · exact noR.out k ek t)
    have FRE:Hid (Free W gh' (n+(4 * os.length+4)) H' Y3.heap.size):=kn.fr _ (by omega) (HWI.out.free_new (by omega)) (noR.out _ rfl)
    clear kn
    go_wp2_with fail
    refine (keep_hold Y8 W (sl (some gP) np cp) true gh' (n+(4 * os.length+4)) cap' H' KN.out.wi (some Y3.heap.size) none none (l.length+8) (l.length+8) 0 0 0 0 ROW.out (.inl ⟨rfl,rfl,rfl⟩) (.inl ⟨rfl,rfl,rfl⟩) (fun g _ e=>by cases e) (fun g _ e=>by cases e) (fun g e=>by cases e)
      (fun k' e=>by rcases e with e | e | e;(cases e;exact FRE.out);cases e;cases e) (by omega) (by omega) (by omega) (by omega)).mono ?_
    rintro e Y9 ⟨rfl,K1⟩
    obtain ⟨gh2,cap2,H2,kn2⟩:=KN.out.next K1
    have LA:Hid (LawAt KIs_ IvL x W true (n+(4 * os.length+4+4)) gh (some gP) Y9):=by
      refine LawAt.keptN W7.out P7.out h6 ((Touch.of_belowAll B4.out _).trans T7.out (fun k _ e=>.inl (HFX.out k (.inr e)).2)) kn2 (fun k e=>?_) (fun j hj k hk e=>?_) (fun k e=>HPS.out.own.lt e)
      · rcases e with e | e | e | e
        · have:=(HO7.out.in_ k e).1;omega
        · have:=Option.some.inj e;omega
        · cases e
        · cases e
      · rcases e with e | e | e | e
        · have h1:=HO.out.in_ k e
          by_cases ej:j=i
          · simp only [if_pos ej] at hk
            rcases hk with q | q | q
            · have:=(HFX.out k (.inl q)).1;omega
            · exact D5.out k e q
            · rcases N6.out k q with q | q
              · have:=(HFX.out k (.inr (.inr q))).1;omega
              · omega
          · simp only [if_neg ej] at hk
            have:=HPS.out.lt j hj k hk;omega
        · have h1:=Option.some.inj e
          by_cases ej:j=i
          · simp only [if_pos ej] at hk
            rcases hk with q | q | q
            · have:=(HFX.out k (.inl q)).1;omega
            · rcases N5.out k q with q | q
              · have:=(HFX.out k (.inr (.inl q))).1;omega
              · omega
            · rcases N6.out k q with q | q
              · have:=(HFX.out k (.inr (.inr q))).1;omega
              · omega
          · simp only [if_neg ej] at hk
            have:=HPS.out.lt j hj k hk;omega
        · cases e
        · cases e
    clear K1 kn2
    go_wp2
    go_ret
    exact ⟨ret_bool (by simp),_,by omega,LA.out⟩
end
section
open Go.RowKit Go.Deep
/-! What the reading of a script says of memory. -/
section
variable {X:Type} {enc:TypeId × Value→X} {w:World}
theorem bulk_pos {H:Type} (d:DataW H):1≤Rows.uptoBulk d:=by
  cases d with
  | lit l=>cases l <;> simp [Rows.uptoBulk]
  | nil=>simp [Rows.uptoBulk]
  | ptr d=>simp [Rows.uptoBulk]
  | slice elems spare=>simp [Rows.uptoBulk]
  | agg parts=>simp [Rows.uptoBulk]
  | iface t d=>simp [Rows.uptoBulk]
  | map entries=>simp [Rows.uptoBulk]
  | held h=>simp [Rows.uptoBulk]
theorem bulk_part {H:Type} {d:DataW H} {l:List (DataW H)} (h:d ∈ l):Rows.uptoBulk d≤Rows.uptoBulkAll l:=by
  induction l with
  | nil=>cases h
  | cons x r ih =>
    simp only [Rows.uptoBulkAll]
    cases List.mem_cons.1 h with
    | inl e=>subst e;omega
    | inr e=>have:=ih e;omega
theorem bulk_len {H:Type} (l:List (DataW H)):l.length≤Rows.uptoBulkAll l:=by
  induction l with
  | nil=>simp [Rows.uptoBulkAll]
  | cons x r ih=>have:=bulk_pos x;simp only [Rows.uptoBulkAll,List.length_cons];omega
theorem bulk_slice {H:Type} (l r:List (DataW H)):l.length≤Rows.uptoBulk (.slice l r):=by
  have:=bulk_len l
  simp only [Rows.uptoBulk];omega
theorem bulk_slice_part {H:Type} {d:DataW H} {l r:List (DataW H)} (h:d ∈ l):Rows.uptoBulk d≤Rows.uptoBulk (.slice l r):=by
  have:=bulk_part h
  simp only [Rows.uptoBulk];omega
theorem bulk_agg_part {H:Type} {d:DataW H} {l:List (DataW H)} (h:d ∈ l):Rows.uptoBulk d≤Rows.uptoBulk (.agg l):=by
  have:=bulk_part h
  simp only [Rows.uptoBulk];omega
theorem cellsLine:Tryz.prog.cellsOf 27=3:=by kernel_rfl
theorem cellsFrame:Tryz.prog.cellsOf 30=10:=by kernel_rfl
theorem cellsConfig:Tryz.prog.cellsOf 63=3:=by kernel_rfl
theorem cellsOp:Tryz.prog.cellsOf 76=17:=by kernel_rfl
theorem cellsInt:Tryz.prog.cellsOf 3=1:=by kernel_rfl
theorem cellsStr:Tryz.prog.cellsOf 9=1:=by kernel_rfl
theorem cellsSl:Tryz.prog.cellsOf 28=1:=by kernel_rfl
theorem addr_add0 (g o j:Nat):(⟨g,o,none⟩:Addr).add j=⟨g,o+j,none⟩:=by unfold Addr.add;split <;> simp_all
theorem len3 {α:Type} {l:List α} (h:l.length=3):∃ a b c,l=[a,b,c]:=by
  match l,h with
  | [a,b,c],_=>exact ⟨a,b,c,rfl⟩
theorem some_at {α:Type} {l:List α} {n:Nat} (h:l.length=n) (i:Nat) (hi:i < n):∃ y,l[i]?=some y:=⟨l[i],List.getElem?_eq_getElem (by omega)⟩
theorem line_open {fuel:Nat} {cs:List Value} {x:DataW X × List MemPlace} (h:DataW.trod enc Tryz.prog w 0 (fun _=>true) true fuel 27 cs=some x):∃ l:Ln,cs=l.cells:=by
  obtain ⟨xs,n,_,_,hl,hx,hf⟩:=DataW.trod_struct Tryz.underlying27 h
  rw [cellsLine] at hl
  have hx3:xs.length=3:=hx
  have h0:DataW.trod enc Tryz.prog w 0 (fun _=>true) true n 3 ((cs.drop 0).take (Tryz.prog.cellsOf 3))=xs[0]?:=hf 0 _ rfl
  have h1:DataW.trod enc Tryz.prog w 0 (fun _=>true) true n 3 ((cs.drop 1).take (Tryz.prog.cellsOf 3))=xs[1]?:=hf 1 _ rfl
  have h2:DataW.trod enc Tryz.prog w 0 (fun _=>true) true n 9 ((cs.drop 2).take (Tryz.prog.cellsOf 9))=xs[2]?:=hf 2 _ rfl
  clear hf hx h
  obtain ⟨y0,e0⟩:=some_at hx3 0 (by omega)
  obtain ⟨y1,e1⟩:=some_at hx3 1 (by omega)
  obtain ⟨y2,e2⟩:=some_at hx3 2 (by omega)
  rw [e0,cellsInt] at h0
  rw [e1,cellsInt] at h1
  rw [e2,cellsStr] at h2
  obtain ⟨a,b,c,rfl⟩:=len3 hl
  obtain ⟨c0,e3,_⟩:=DataW.trod_int Tryz.underlying3 h0
  obtain ⟨t0,e4,_⟩:=DataW.trod_int Tryz.underlying3 h1
  obtain ⟨s0,e5,_⟩:=DataW.trod_string Tryz.underlying9 h2
  cases e3;cases e4;cases e5
  exact ⟨⟨c0,t0,s0.data.toList⟩,rfl⟩
theorem addr_of_cell {a:Addr} {v:Value} (h:w.cell? (a.add 0)=some v):a=⟨a.block,a.off,none⟩:=by
  obtain ⟨b,o,s⟩:=a
  cases s with
  | none=>rfl
  | some s =>
    have:w.cell? ((⟨b,o,some s⟩:Addr).add 0)=none:=by
      unfold World.cell? Addr.add
      split
      · simp
      · rfl
    rw [this] at h;cases h
theorem lines_open {fuel:Nat} {v:Value} {x:DataW X × List MemPlace} (h:DataW.trod enc Tryz.prog w 0 (fun _=>true) true fuel 28 [v]=some x) :
    ∃ (a:Option Addr) (c:Nat) (ls:List Ln),v=sla a ls.length c∧ls.length≤c∧LinesAt w a ls∧ls.length≤Rows.uptoBulk x.1:=by
  rcases open_slice Tryz.underlying28 h with ⟨e,rfl⟩ | ⟨a,len,cap,m,n,D,Pl,e,_,hlc,_,hm,rfl,hi⟩
  · cases e
    exact ⟨none,0,[],rfl,Nat.le_refl _,fun j hj=>absurd hj (by simp),by simp⟩
  · cases e
    simp only [if_true] at hm
    rw [cellsLine] at hi
    have hex:∀ i,i < len→∃ l:Ln,∀ r,r < 3→w.cell? (a.add (i * 3+r))=l.cells[r]?:=fun i hil=>by
      obtain ⟨cs,hc,ht⟩:=hi i (by omega)
      obtain ⟨l,rfl⟩:=line_open ht
      obtain ⟨_,_,hcell⟩:=World.cells?_some hc
      exact ⟨l,fun r hr=>by rw [← add_add];exact hcell r hr⟩
    have hin:Inhabited Ln:=⟨Ln.zero⟩
    obtain ⟨L,hL⟩:=choose_lt hex
    refine ⟨some a,cap,(List.range len).map L,by simp [sla],by simpa using hlc,fun j hj=>?_,?_⟩
    · have hj':j < len:=by simpa using hj
      have q:=hL 0 (by omega) 0 (by omega)
      have q0:=hL j hj' 0 (by omega)
      have q1:=hL j hj' 1 (by omega)
      have q2:=hL j hj' 2 (by omega)
      have ea:=addr_of_cell (v:=.int .i64 (L 0).c) q
      clear q
      generalize a.block=bb at ea
      generalize a.off=oo at ea
      subst ea
      rw [addr_add0] at q0 q1 q2
      refine ⟨bb,oo,rfl,?_⟩
      simp only [List.getElem_map,List.getElem_range]
      exact ⟨q0,by rw [Nat.add_assoc];exact q1,by rw [Nat.add_assoc];exact q2⟩
    · have:=bulk_slice ((List.range len).map D) ((List.range (m - len)).map fun j=>D (len+j))
      simpa using this
end
section
variable {X:Type} {enc:TypeId × Value→X} {w:World}
theorem len10 {α:Type} {l:List α} (h:l.length=10):∃ a0 a1 a2 a3 a4 a5 a6 a7 a8 a9,l=[a0,a1,a2,a3,a4,a5,a6,a7,a8,a9]:=by
  match l,h with
  | [a0,a1,a2,a3,a4,a5,a6,a7,a8,a9],_=>exact ⟨a0,a1,a2,a3,a4,a5,a6,a7,a8,a9,rfl⟩
theorem len17 {α:Type} {l:List α} (h:l.length=17):∃ a0 a1 a2 a3 a4 a5 a6 a7 a8 a9 b0 b1 b2 b3 b4 b5 b6,l=[a0,a1,a2,a3,a4,a5,a6,a7,a8,a9,b0,b1,b2,b3,b4,b5,b6]:=by
  match l,h with
  | [a0,a1,a2,a3,a4,a5,a6,a7,a8,a9,b0,b1,b2,b3,b4,b5,b6],_=>exact ⟨a0,a1,a2,a3,a4,a5,a6,a7,a8,a9,b0,b1,b2,b3,b4,b5,b6,rfl⟩
def Fr.cells (f:Fr) (a:Option Addr) (c:Nat):List Value :=
  [.int .i64 f.kind,.int .i64 f.frm,.int .i64 f.view,.int .i64 f.place,.int .i64 f.agreed,.int .i64 f.last,.int .i64 f.line.c,.int .i64 f.line.t,.string ⟨f.line.s.toArray⟩,sla a f.lines.length c]
theorem frame_open {fuel:Nat} {cs:List Value} {x:DataW X × List MemPlace} (h:DataW.trod enc Tryz.prog w 0 (fun _=>true) true fuel 30 cs=some x) :
    ∃ (f:Fr) (a:Option Addr) (c:Nat),cs=f.cells a c∧f.lines.length≤c∧LinesAt w a f.lines∧f.lines.length≤Rows.uptoBulk x.1:=by
  obtain ⟨xs,n,_,ex,hl,hx,hf⟩:=DataW.trod_struct Tryz.underlying30 h
  rw [cellsFrame] at hl
  have hx8:xs.length=8:=hx
  have h0:DataW.trod enc Tryz.prog w 0 (fun _=>true) true n 3 ((cs.drop 0).take (Tryz.prog.cellsOf 3))=xs[0]?:=hf 0 _ rfl
  have h1:DataW.trod enc Tryz.prog w 0 (fun _=>true) true n 3 ((cs.drop 1).take (Tryz.prog.cellsOf 3))=xs[1]?:=hf 1 _ rfl
  have h2:DataW.trod enc Tryz.prog w 0 (fun _=>true) true n 3 ((cs.drop 2).take (Tryz.prog.cellsOf 3))=xs[2]?:=hf 2 _ rfl
  have h3:DataW.trod enc Tryz.prog w 0 (fun _=>true) true n 3 ((cs.drop 3).take (Tryz.prog.cellsOf 3))=xs[3]?:=hf 3 _ rfl
  have h4:DataW.trod enc Tryz.prog w 0 (fun _=>true) true n 3 ((cs.drop 4).take (Tryz.prog.cellsOf 3))=xs[4]?:=hf 4 _ rfl
  have h5:DataW.trod enc Tryz.prog w 0 (fun _=>true) true n 3 ((cs.drop 5).take (Tryz.prog.cellsOf 3))=xs[5]?:=hf 5 _ rfl
  have h6:DataW.trod enc Tryz.prog w 0 (fun _=>true) true n 27 ((cs.drop 6).take (Tryz.prog.cellsOf 27))=xs[6]?:=hf 6 _ rfl
  have h7:DataW.trod enc Tryz.prog w 0 (fun _=>true) true n 28 ((cs.drop 9).take (Tryz.prog.cellsOf 28))=xs[7]?:=hf 7 _ rfl
  clear hf hx h
  obtain ⟨y6,e6⟩:=some_at hx8 6 (by omega)
  obtain ⟨y7,e7⟩:=some_at hx8 7 (by omega)
  rw [e6,cellsLine] at h6
  rw [e7,cellsSl] at h7
  obtain ⟨y0,e0⟩:=some_at hx8 0 (by omega)
  rw [e0,cellsInt] at h0
  obtain ⟨y1,e1⟩:=some_at hx8 1 (by omega)
  rw [e1,cellsInt] at h1
  obtain ⟨y2,e2⟩:=some_at hx8 2 (by omega)
  rw [e2,cellsInt] at h2
  obtain ⟨y3,e3⟩:=some_at hx8 3 (by omega)
  rw [e3,cellsInt] at h3
  obtain ⟨y4,e4⟩:=some_at hx8 4 (by omega)
  rw [e4,cellsInt] at h4
  obtain ⟨y5,e5⟩:=some_at hx8 5 (by omega)
  rw [e5,cellsInt] at h5
  obtain ⟨a0,a1,a2,a3,a4,a5,a6,a7,a8,a9,rfl⟩:=len10 hl
  obtain ⟨n0,q0,_⟩:=DataW.trod_int Tryz.underlying3 h0
  obtain ⟨n1,q1,_⟩:=DataW.trod_int Tryz.underlying3 h1
  obtain ⟨n2,q2,_⟩:=DataW.trod_int Tryz.underlying3 h2
  obtain ⟨n3,q3,_⟩:=DataW.trod_int Tryz.underlying3 h3
  obtain ⟨n4,q4,_⟩:=DataW.trod_int Tryz.underlying3 h4
  obtain ⟨n5,q5,_⟩:=DataW.trod_int Tryz.underlying3 h5
  obtain ⟨l,el⟩:=line_open h6
  obtain ⟨a,c,ls,ev,hc,hla,hb⟩:=lines_open h7
  cases el
  subst ev
  refine ⟨⟨n0,n1,n2,n3,n4,n5,l,ls⟩,a,c,?_,hc,hla,?_⟩
  · simp only [Fr.cells]
    cases q0;cases q1;cases q2;cases q3;cases q4;cases q5
    rfl
  · have hm:y7.1 ∈ xs.map (·.1):=List.mem_map.2 ⟨y7,List.mem_of_getElem? e7,rfl⟩
    have:=bulk_agg_part hm
    rw [ex];dsimp only;omega
theorem config_open {fuel:Nat} {cs:List Value} {x:DataW X × List MemPlace} (h:DataW.trod enc Tryz.prog w 0 (fun _=>true) true fuel 63 cs=some x):∃ c1 c2 c3:Int,cs=[.int .i64 c1,.int .i64 c2,.int .i64 c3]:=by
  obtain ⟨xs,n,_,_,hl,hx,hf⟩:=DataW.trod_struct Tryz.underlying63 h
  rw [cellsConfig] at hl
  have hx3:xs.length=3:=hx
  have h0:DataW.trod enc Tryz.prog w 0 (fun _=>true) true n 3 ((cs.drop 0).take (Tryz.prog.cellsOf 3))=xs[0]?:=hf 0 _ rfl
  have h1:DataW.trod enc Tryz.prog w 0 (fun _=>true) true n 3 ((cs.drop 1).take (Tryz.prog.cellsOf 3))=xs[1]?:=hf 1 _ rfl
  have h2:DataW.trod enc Tryz.prog w 0 (fun _=>true) true n 3 ((cs.drop 2).take (Tryz.prog.cellsOf 3))=xs[2]?:=hf 2 _ rfl
  clear hf hx h
  obtain ⟨y0,e0⟩:=some_at hx3 0 (by omega)
  obtain ⟨y1,e1⟩:=some_at hx3 1 (by omega)
  obtain ⟨y2,e2⟩:=some_at hx3 2 (by omega)
  rw [e0,cellsInt] at h0
  rw [e1,cellsInt] at h1
  rw [e2,cellsInt] at h2
  obtain ⟨a,b,c,rfl⟩:=len3 hl
  obtain ⟨c0,e3,_⟩:=DataW.trod_int Tryz.underlying3 h0
  obtain ⟨t0,e4,_⟩:=DataW.trod_int Tryz.underlying3 h1
  obtain ⟨s0,e5,_⟩:=DataW.trod_int Tryz.underlying3 h2
  cases e3;cases e4;cases e5
  exact ⟨_,_,_,rfl⟩
theorem int_wf {n:Int} (h:(Lit.int .i64 n).wf=true):-9223372036854775808≤n∧n≤9223372036854775807:=by
  unfold Lit.wf at h
  rw [Bool.and_eq_true] at h
  have e1:IntKind.i64.min=-9223372036854775808:=by decide
  have e2:IntKind.i64.max=9223372036854775807:=by decide
  have h1:=of_decide_eq_true h.1
  have h2:=of_decide_eq_true h.2
  omega
theorem op_open {fuel:Nat} {cs:List Value} {x:DataW X × List MemPlace} (h:DataW.trod enc Tryz.prog w 0 (fun _=>true) true fuel 76 cs=some x) :
    ∃ o:OpG,cs=o.cells.toList∧LinesAt w o.fa o.f.lines∧o.f.lines.length≤o.fc∧o.f.lines.length≤Rows.uptoBulk x.1∧o.s.length≤Rows.uptoBulk x.1∧o.ranged:=by
  obtain ⟨xs,n,_,ex,hl,hx,hf⟩:=DataW.trod_struct Tryz.underlying76 h
  rw [cellsOp] at hl
  have hx6:xs.length=6:=hx
  have h0:DataW.trod enc Tryz.prog w 0 (fun _=>true) true n 3 ((cs.drop 0).take (Tryz.prog.cellsOf 3))=xs[0]?:=hf 0 _ rfl
  have h1:DataW.trod enc Tryz.prog w 0 (fun _=>true) true n 3 ((cs.drop 1).take (Tryz.prog.cellsOf 3))=xs[1]?:=hf 1 _ rfl
  have h2:DataW.trod enc Tryz.prog w 0 (fun _=>true) true n 9 ((cs.drop 2).take (Tryz.prog.cellsOf 9))=xs[2]?:=hf 2 _ rfl
  have h3:DataW.trod enc Tryz.prog w 0 (fun _=>true) true n 30 ((cs.drop 3).take (Tryz.prog.cellsOf 30))=xs[3]?:=hf 3 _ rfl
  have h4:DataW.trod enc Tryz.prog w 0 (fun _=>true) true n 63 ((cs.drop 13).take (Tryz.prog.cellsOf 63))=xs[4]?:=hf 4 _ rfl
  have h5:DataW.trod enc Tryz.prog w 0 (fun _=>true) true n 3 ((cs.drop 16).take (Tryz.prog.cellsOf 3))=xs[5]?:=hf 5 _ rfl
  clear hf hx h
  obtain ⟨y0,e0⟩:=some_at hx6 0 (by omega)
  obtain ⟨y1,e1⟩:=some_at hx6 1 (by omega)
  obtain ⟨y2,e2⟩:=some_at hx6 2 (by omega)
  obtain ⟨y3,e3⟩:=some_at hx6 3 (by omega)
  obtain ⟨y4,e4⟩:=some_at hx6 4 (by omega)
  obtain ⟨y5,e5⟩:=some_at hx6 5 (by omega)
  rw [e0,cellsInt] at h0
  rw [e1,cellsInt] at h1
  rw [e2,cellsStr] at h2
  rw [e3,cellsFrame] at h3
  rw [e4,cellsConfig] at h4
  rw [e5,cellsInt] at h5
  obtain ⟨a0,a1,a2,a3,a4,a5,a6,a7,a8,a9,b0,b1,b2,b3,b4,b5,b6,rfl⟩:=len17 hl
  obtain ⟨k0,q0,_⟩:=DataW.trod_int Tryz.underlying3 h0
  obtain ⟨k1,q1,_,wf1⟩:=DataW.trod_int Tryz.underlying3 h1
  obtain ⟨s0,q2,r2,_⟩:=DataW.trod_string Tryz.underlying9 h2
  obtain ⟨f,a,c,q3,hc,hla,hb⟩:=frame_open h3
  obtain ⟨c1,c2,c3,q4⟩:=config_open h4
  obtain ⟨k5,q5,_,wf5⟩:=DataW.trod_int Tryz.underlying3 h5
  have m2:y2.1 ∈ xs.map (·.1):=List.mem_map.2 ⟨y2,List.mem_of_getElem? e2,rfl⟩
  have m3:y3.1 ∈ xs.map (·.1):=List.mem_map.2 ⟨y3,List.mem_of_getElem? e3,rfl⟩
  have g2:=bulk_agg_part m2
  have g3:=bulk_agg_part m3
  refine ⟨⟨k0,k1,s0.data.toList,f,a,c,c1,c2,c3,k5⟩,?_,hla,hc,?_,?_,int_wf wf1,(int_wf wf5).2⟩
  · simp only [Fr.cells] at q3
    cases q0;cases q1;cases q2;cases q3;cases q4;cases q5
    rfl
  · rw [ex];dsimp only;omega
  · rw [ex];dsimp only
    rw [r2] at g2
    simp only [Rows.uptoBulk] at g2
    simp only [Rows.uptoBulk]
    omega
theorem ops_open {fuel:Nat} {v:Value} {x:DataW X × List MemPlace} (h:DataW.trod enc Tryz.prog w 0 (fun _=>true) true fuel 22 [v]=some x) (hb:Rows.uptoBulk x.1≤1048576) :
    ∃ (a:Option Addr) (c:Nat) (ops:List OpG),v=sla a ops.length c∧OpsAt w a ops∧(∀ o ∈ ops,o.small∧o.ranged)∧ops.length≤1048576:=by
  rcases open_slice Tryz.underlying22 h with ⟨e,rfl⟩ | ⟨a,len,cap,m,n,D,Pl,e,_,hlc,_,hm,rfl,hi⟩
  · cases e
    exact ⟨none,0,[],rfl,fun j hj=>absurd hj (by simp),fun o ho=>(by cases ho),by simp⟩
  · cases e
    simp only [if_true] at hm
    rw [cellsOp] at hi
    have hex:∀ i,i < len→∃ o:OpG,(∀ r,r < 17→w.cell? (a.add (i * 17+r))=o.cells[r]?)∧LinesAt w o.fa o.f.lines∧(o.small∧o.ranged):=fun i hil=>by
      obtain ⟨cs,hc,ht⟩:=hi i (by omega)
      obtain ⟨o,rfl,hl,h1,h2,h3,h4⟩:=op_open ht
      obtain ⟨_,_,hcell⟩:=World.cells?_some hc
      have hd:D i ∈ (List.range len).map D:=List.mem_map.2 ⟨i,List.mem_range.2 hil,rfl⟩
      have:=bulk_slice_part (r:=(List.range (m - len)).map fun j=>D (len+j)) hd
      dsimp only at h2 h3 hb
      refine ⟨o,fun r hr=>?_,hl,⟨?_,?_,h1⟩,h4⟩
      · rw [← add_add,hcell r hr,Array.getElem?_toList]
      · omega
      · omega
    have hin:Inhabited OpG:=⟨⟨0,0,[],Fr.zero,none,0,0,0,0,0⟩⟩
    obtain ⟨L,hL⟩:=choose_lt hex
    have hbl:=bulk_slice ((List.range len).map D) ((List.range (m - len)).map fun j=>D (len+j))
    dsimp only at hb
    refine ⟨some a,cap,(List.range len).map L,by simp [sla],fun j hj=>?_,fun o ho=>?_,?_⟩
    · have hj':j < len:=by simpa using hj
      obtain ⟨q,hl,_⟩:=hL j hj'
      have q0:=(hL 0 (by omega)).1 0 (by omega)
      have ea:=addr_of_cell (v:=.int .i64 (L 0).kind) q0
      clear q0
      generalize a.block=bb at ea
      generalize a.off=oo at ea
      subst ea
      refine ⟨bb,oo,rfl,fun r hr=>?_,by simpa using hl⟩
      have:=q r hr
      rw [addr_add0] at this
      simp only [List.getElem_map,List.getElem_range]
      rw [Nat.add_assoc];exact this
    · obtain ⟨i,hi',rfl⟩:=List.mem_map.1 ho
      exact (hL i (List.mem_range.1 hi')).2.2
    · simp at hbl ⊢;omega
end
end
end Go.Proofs.YtolififimldmlaaGreat
