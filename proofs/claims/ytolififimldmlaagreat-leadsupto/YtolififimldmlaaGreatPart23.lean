import Derived.Test.YtolififimldmlaaGreatPart18
import Derived.StillTailTactics
import Derived.Test.YtolififimldmlaaGreatPart17
import Derived.Deep.RegionHeld3
import Derived.Test.YtolififimldmlaaGreatPart19
set_option linter.unusedVariables false
set_option linter.unusedSimpArgs false
set_option maxRecDepth 100000
set_option maxHeartbeats 16000000
namespace Go.Proofs.YtolififimldmlaaGreat
section
open Go.RowKit
attribute [local go_sem ↓] Go.wp_at_zero Go.wp_at_succ
theorem PS.move {KIs:KeeperIs} {Iv:LK→Prop} (HKS:KeepsSaid KIs) {x y:World} {W:Nat} {gh gh':Option Nat} {n n':Nat} {H H':Nat→HG} {gp:Option Nat} {np cp:Nat} {P:Nat→PG} {R:Nat→Prop} (h:PS KIs Iv x W gh n H gp np cp P)
    (ht:Touch (fun k=>k=W∨gh=some k∨R k) x y) (hf:∀ k,k < x.heap.size→Free W gh n H k→¬ R k→Free W gh' n' H' k) (hR:∀ j,j < np→∀ k,(P j).N k→¬ R k) (hg:∀ k,gp=some k→¬ R k):PS KIs Iv y W gh' n' H' gp np cp P:=by
  have no:∀ k,Free W gh n H k→¬ R k→¬ (k=W∨gh=some k∨R k):=fun k f r t=>by
    rcases t with t | t | t
    · exact f.1 t
    · exact f.2.1 t
    · exact r t
  refine ⟨h.own.touch ht (fun k e=>no k (h.frg k e) (hg k e)),fun j hj=>?_,fun j hj=>(h.pl j hj).touch HKS ht (fun k hk=>no k (h.fr j hj k hk).1 (hR j hj k hk)),fun j hj k hk=>Nat.lt_of_lt_of_le (h.lt j hj k hk) ht.size,fun j hj k hk=>⟨hf k (h.lt j hj k hk) (h.fr j hj k hk).1 (hR j hj k hk),(h.fr j hj k hk).2⟩,fun k e=>hf k (h.own.lt e) (h.frg k e) (hg k e),h.iv,h.ge,h.ds⟩
  obtain ⟨g,e,c⟩:=h.ptr j hj
  exact ⟨g,e,ht.cell c (no g (h.frg g e) (hg g e))⟩
theorem again_set {KIs:KeeperIs} {Iv:LK→Prop} (HKS:KeepsSaid KIs) {Y Z:World} {W n np cp cap1 p i gP:Nat} {gh1:Option Nat} {H1:Nat→HG} {P:Nat→PG} {N:Nat→Prop} {lead:Bool} {sn:LK}
    (hw:WI Y W (sl (some gP) np cp) lead gh1 n cap1 H1) (hp:PS KIs Iv Y W gh1 n H1 (some gP) np cp P) (hi:i < np) (hpl:Player KIs Y p N sn) (hN:∀ k,N k→k < Y.heap.size∧Free W gh1 n H1 k∧(some gP:Option Nat)≠some k) (hNW:∀ k,N k→W≤k) (hNo:∀ j,j < np→∀ k,(P j).N k→¬ N k) (hiv:Iv sn) (hZ:Z=Y.setCell ⟨gP,i,none⟩ (.pointer (some ⟨p,0,none⟩))) :
    WI Z W (sl (some gP) np cp) lead gh1 n cap1 H1∧PS KIs Iv Z W gh1 n H1 (some gP) np cp (fun j=>if j=i then ⟨p,N,sn⟩ else P j):=by
  have t:Touch (fun k=>(some gP:Option Nat)=some k) Y Z:=by rw [hZ];exact (Touch.refl (fun k=>(some gP:Option Nat)=some k) Y).setCell (p:=⟨gP,i,none⟩) (fun _=>rfl) _
  refine ⟨hw.touchFree t hp.frg,?_⟩
  refine ⟨?_,fun j hj=>⟨gP,rfl,?_⟩,fun j hj=>?_,fun j hj k hk=>?_,fun j hj k hk=>?_,hp.frg,fun j hj=>?_,fun j hj k hk=>?_,fun a b ha hb hab k hk hk2=>?_⟩
  · rcases hp.own with ⟨h,_⟩ | ⟨g',cur,h,hh,q1,q2⟩
    · cases h
    · cases h
      rw [hZ]
      exact .inr ⟨gP,_,rfl,heap_setCell hh i _,by simpa using q1,q2⟩
  · by_cases e:j=i
    · subst e
      rw [if_pos rfl,hZ]
      rcases hp.own with ⟨h,_⟩ | ⟨g',cur,h,hh,q1,q2,_⟩
      · cases h
      · cases h
        rw [cell_of_heap (heap_setCell hh j _)]
        rw [Array.getElem?_setIfInBounds_self_of_lt (by omega)]
    · rw [if_neg e,hZ]
      obtain ⟨g',e1,c⟩:=hp.ptr j hj
      cases e1
      rw [cell_set_ne _ (.inr (fun h=>e h.symm))];exact c
  · by_cases e:j=i
    · subst e;simp only [if_true];exact hpl.touch HKS t (fun k hk e=>(hN k hk).2.2 e)
    · simp only [if_neg e];exact (hp.pl j hj).touch HKS t (fun k hk e=>(hp.fr j hj k hk).2 e)
  · by_cases e:j=i
    · subst e;simp only [if_true] at hk;have:=(hN k hk).1;have:=t.size;omega
    · simp only [if_neg e] at hk;have:=hp.lt j hj k hk;have:=t.size;omega
  · by_cases e:j=i
    · subst e;simp only [if_true] at hk;exact ⟨(hN k hk).2.1,(hN k hk).2.2⟩
    · simp only [if_neg e] at hk;exact hp.fr j hj k hk
  · by_cases e:j=i
    · subst e;simp only [if_true];exact hiv
    · simp only [if_neg e];exact hp.iv j hj
  · by_cases e:j=i
    · simp only [if_pos e] at hk;exact hNW k hk
    · simp only [if_neg e] at hk;exact hp.ge j hj k hk
  · by_cases ea:a=i
    · by_cases eb:b=i
      · omega
      · simp only [if_pos ea] at hk;simp only [if_neg eb] at hk2
        exact hNo b hb k hk2 hk
    · by_cases eb:b=i
      · simp only [if_neg ea] at hk;simp only [if_pos eb] at hk2
        exact hNo a ha k hk hk2
      · simp only [if_neg ea] at hk;simp only [if_neg eb] at hk2
        exact hp.ds a b ha hb hab k hk hk2
theorem madeAgain_some (KIs:KeeperIs) (Iv:LK→Prop) (lead:Bool) (HOS:OpenSaid KIs) (HKS:KeepsSaid KIs) (HDS:DiskSaid KIs) (HIK:∀ s,Iv s→s.ok) (HIV:∀ s keep,Iv s→Iv (LK.opened s.kp s.me s.pa ((s.image keep).take (readD (s.image keep)).2) (readD (s.image keep)).1)) (x:World) (W:Nat) (gh:Option Nat) (n cap:Nat) (H:Nat→HG) (gp:Option Nat) (np cp:Nat) (P:Nat→PG) (hw:WI x W (sl gp np cp) lead gh n cap H) (hps:PS KIs Iv x W gh n H gp np cp P) (h0:0 < np) (h6:np≤6) (hn:n≤95000000)
    (o:OpG) (hk:o.kind=7) (hr:-9223372036854775808≤o.n∧o.n≤9223372036854775807) :
    Calls Tryz.prog 53 #[.pointer (some ⟨W,0,none⟩),.agg o.cells] x fun e y=>e=.returned (.bool true)∧LawAt KIs Iv x W lead (n+8) gh gp y:=by
  have HWI:=hid hw
  have HPS:=hid hps
  have w0:=cell_of_heap hw.wb 0
  simp only [List.getElem?_toArray,List.getElem?_cons_zero] at w0
  unfold sl at w0
  have hWl:W < x.heap.size:=heap_lt hw.wb
  clear hw hps
  unfold OpG.cells sla
  obtain ⟨okind,on,l,f,fa,fc,k1,k2,k3,oa⟩:=o
  dsimp only at *
  subst hk
  have hz:((np:Int) == 0)=false:=beq_eq_false_iff_ne.2 (by omega)
  go_enter Tryz.func53,Tryz.ntmps53
  go_wp2
  generalize hY:x.alloc (.cells #[.int .i64 7,.int .i64 on,.string ⟨l.toArray⟩,.int .i64 f.kind,.int .i64 f.frm,.int .i64 f.view,.int .i64 f.place,.int .i64 f.agreed,.int .i64 f.last,.int .i64 f.line.c,.int .i64 f.line.t,.string ⟨f.line.s.toArray⟩,.slice fa f.lines.length fc,.int .i64 k1,.int .i64 k2,.int .i64 k3,.int .i64 oa] 76)=Y
  have y1:Y.cell? ⟨x.heap.size,1,none⟩=some (.int .i64 on):=by rw [← hY];exact World.cell?_alloc_new _ _ _ _
  have y16:Y.cell? ⟨x.heap.size,16,none⟩=some (.int .i64 oa):=by rw [← hY];exact World.cell?_alloc_new _ _ _ _
  have BY:Hid (Below x.heap.size x Y):=by show Below _ _ _;rw [← hY];exact (Below.refl _ _).alloc (Nat.le_refl _) _
  have hxl:x.heap.size < Y.heap.size:=by rw [← hY];simp
  have WY:=hid (HWI.out.below BY.out)
  have PY:=hid (HPS.out.below HKS BY.out)
  clear hY w0
  have v0:=cell_of_heap WY.out.wb 0
  simp only [List.getElem?_toArray,List.getElem?_cons_zero] at v0
  unfold sl at v0
  go_still_tail 7,(by kernel_rfl)
  go_wp2_with fail
  refine (pick_any on np _ h0 (by omega) hr).mono ?_
  rintro e w1 ⟨rfl,hw1⟩
  rw [hw1]
  clear hw1 w1
  have hi:=pickN_lt on h0
  generalize pickN on np=i at hi ⊢
  obtain ⟨Y2,hY2⟩:∃ Y2:World,Y2=Y.drew:=⟨_,rfl⟩
  have bY2:Below Y.heap.size Y Y2:=by rw [hY2];exact (Below.refl _ _).drew
  have hs2:Y2.heap.size=Y.heap.size:=by rw [hY2];rfl
  have z16:Y2.cell? ⟨x.heap.size,16,none⟩=some (.int .i64 oa):=by rw [hY2];exact y16
  have z0:Y2.cell? ⟨W,0,none⟩=some (.slice (gp.map fun g=>⟨g,0,none⟩) np cp):=by rw [hY2];exact v0
  rw [← hY2]
  have W2:=hid (WY.out.below bY2)
  have P2:=hid (PY.out.below HKS bY2)
  have B2:=hid (BY.out.trans (bY2.mono BY.out.size))
  clear hY2 bY2 y1 y16 v0 WY PY BY
  obtain ⟨gP,hgP,cP⟩:=P2.out.ptr i hi
  obtain ⟨K,F,Kr,G,q1,q2,q3,q5⟩:=P2.out.pl i hi
  have hiv:=P2.out.iv i hi
  have p0:=cell_of_heap q1 0
  have p1:=cell_of_heap q1 1
  simp only [List.getElem?_toArray,List.getElem?_cons_zero,List.getElem?_cons_succ] at p0 p1
  generalize hPi:P i=pi at *
  obtain ⟨pp,pN,ps⟩:=pi
  dsimp only at *
  subst hgP
  have i0:(0:Int)≤(i:Int):=by omega
  have i1:(i:Int) < (np:Int):=by omega
  simp only [Option.map_some] at z0 ⊢
  go_wp2
  go_still_tail 6,(by kernel_rfl)
  go_wp2_with fail
  have hok:=HIK ps hiv
  have HNI:=hid (HIV ps oa hiv)
  have hcf:ConfOk ps.kp ps.me ps.pa:=hok.2.1
  have hdl:(ps.image oa).length≤9900000:=Nat.le_trans (LK.image_len ps oa) hok.1
  refine (HDS Y2.drew K F ps oa (HKS _ _ _ _ _ _ q2 ((Touch.refl (fun _=>False) Y2).drew) (fun _ _ h=>h)) hok).mono ?_
  generalize hpd:ps.image oa=pd at *
  have hokl:=hok.1
  clear hok
  rintro e Y3 ⟨gb,cb,rfl,hob,hb3⟩
  have b23:Below Y2.heap.size Y2 Y3:=(Below.refl _ Y2).drew.trans hb3
  have W3:=hid (W2.out.below b23)
  have P3:=hid (P2.out.below HKS b23)
  have B3:=hid (B2.out.trans (b23.mono B2.out.size))
  have HOB:=hid hob
  have hsz:Y2.heap.size≤Y3.heap.size:=b23.size
  have Q1:=hid ((b23.block _ (heap_lt q1)).trans q1)
  have Q3:=hid (q3.below b23)
  have z16':Y3.cell? ⟨x.heap.size,16,none⟩=some (.int .i64 oa):=(b23.cell (World.block_lt_of_cell? _ _ z16)).trans z16
  have HGB:Hid (∀ k,gb=some k→Y2.heap.size≤k):=hob.new
  clear hob hb3 b23 p0 p1 z0 z16 cP q1 q2 q3 q5
  have p0:=cell_of_heap Q1.out 0
  have p1:=cell_of_heap Q1.out 1
  simp only [List.getElem?_toArray,List.getElem?_cons_zero,List.getElem?_cons_succ] at p0 p1
  unfold sl
  go_wp2
  go_still_tail 6,(by kernel_rfl)
  go_wp2_with fail
  refine (refImage_any Kr G ps _ oa (Q3.out.below ((Below.refl _ _).drew)) hokl).mono ?_
  rw [hpd]
  rintro e Y4 ⟨rfl,hb4⟩
  have b34:Below Y3.heap.size Y3 Y4:=(Below.refl _ Y3).drew.trans hb4
  have hs4:Y3.heap.size≤Y4.heap.size:=b34.size
  clear hb4
  have W4:=hid (W3.out.below b34)
  have P4:=hid (P3.out.below HKS b34)
  have B4:=hid (B3.out.trans (b34.mono B3.out.size))
  have HOB4:=hid (HOB.out.below b34)
  have Q14:=hid ((b34.block _ (heap_lt Q1.out)).trans Q1.out)
  have Q34:=hid (Q3.out.below b34)
  clear b34 p0 p1 z16'
  have p1:=cell_of_heap Q14.out 1
  simp only [List.getElem?_toArray,List.getElem?_cons_zero,List.getElem?_cons_succ] at p1
  obtain ⟨r0,r1,r2⟩:=Q34.out.conf
  have hcv:=conv_bytes gb cb pd Y4 HOB4.out.at_
  go_wp2_with fail
  refine (opened_yes KIs HOS HKS Y4 W (sl (some gP) np cp) lead gh n cap H W4.out (by omega) ps.kp ps.me ps.pa pd hdl hcf).mono ?_
  rintro e Y5 ⟨p',N',rfl,hpl,hN,hst⟩
  obtain ⟨⟨gh1,cap1,H1,W1,g1,f1,fN⟩,t1⟩:=hst
  have HGX:Hid (∀ k,gh=some k→k < x.heap.size):=fun k e=>HWI.out.ow.lt e
  have HPX:Hid (∀ k,(some gP:Option Nat)=some k→k < x.heap.size):=fun k e=>HPS.out.own.lt e
  have hx2:x.heap.size≤Y2.heap.size:=B2.out.size
  have h45:Y4.heap.size≤Y5.heap.size:=t1.size
  have HGBlt:Hid (∀ k,gb=some k→k < Y4.heap.size):=fun k e=>HOB4.out.own.lt e
  have RB5:Hid (OwnRow Y5 5 1 gb pd.length cb):=HOB4.out.own.touch t1 (fun k e t=>by
    have:=HGB.out k e
    rcases t with t | t
    · omega
    · have:=HGX.out k t;omega)
  have FB5:Hid (∀ k,gb=some k→Free W gh1 (n+4) H1 k):=fun k e=>f1 k (HGBlt.out k e) (HWI.out.free_new (by have:=HGB.out k e;omega))
  have P5:=hid (P4.out.stays HKS t1 f1)
  have HW1:=hid W1
  have HPL:=hid hpl
  have HN:=hid hN
  have HFN:=hid fN
  have HG1:=hid g1
  have HT1:=hid t1
  have v0:=cell_of_heap W1.wb 0
  simp only [List.getElem?_toArray,List.getElem?_cons_zero] at v0
  unfold sl at v0
  simp only [Option.map_some] at v0
  obtain ⟨gP',hgP',cP⟩:=P5.out.ptr i hi
  cases hgP'
  have fP:∀ j,Y5.frozen? ⟨gP,j,none⟩=false:=fun j=>by
    rcases P5.out.own with ⟨h,_⟩ | ⟨g',cur,h,hh,_⟩
    · cases h
    · cases h;exact frozen_of_heap hh j
  rw [hPi] at cP
  clear W1 g1 f1 fN t1 hpl hN r0 r1 r2 p1 hcv
  dsimp only at cP
  obtain ⟨Y6,hY6⟩:∃ Y6:World,Y6=Y5.setCell ⟨gP,i,none⟩ (.pointer (some ⟨p',0,none⟩)):=⟨_,rfl⟩
  have A6:=hid (again_set HKS HW1.out P5.out hi HPL.out (fun k e=>⟨(HN.out k e).2,HFN.out k e,fun e2=>by have:=HPX.out k e2;have:=(HN.out k e).1;omega⟩) (fun k e=>by have:=(HN.out k e).1;omega) (fun j hj k hk hk2=>by have:=HPS.out.lt j hj k hk;have:=(HN.out k hk2).1;omega) HNI.out hY6)
  have T6:Hid (Touch (fun k=>(some gP:Option Nat)=some k) Y5 Y6):=by show Touch _ _ _;rw [hY6];exact (Touch.refl (fun k=>(some gP:Option Nat)=some k) Y5).setCell (p:=⟨gP,i,none⟩) (fun _=>rfl) _
  have RB6:Hid (OwnRow Y6 5 1 gb pd.length cb):=RB5.out.touch T6.out (fun k e t=>by have:=HGB.out k e;have:=HPX.out k t;omega)
  have HY6:=hid hY6
  have h56:Y5.heap.size≤Y6.heap.size:=T6.out.size
  clear hY6
  have hsz6:Y6.heap.size=Y5.heap.size:=by rw [HY6.out];exact size_setCell _ _ _
  have HNB:Hid (∀ k,gb=some k→Y2.heap.size≤k∧k < Y4.heap.size):=fun k e=>⟨HGB.out k e,HGBlt.out k e⟩
  have HNO:Hid (∀ j,j < np→∀ k,((fun j=>if j=i then (⟨p',N',LK.opened ps.kp ps.me ps.pa (pd.take (readD pd).2) (readD pd).1⟩:PG) else P j) j).N k→¬ gb=some k):=fun j hj k hk e=>by
    have h1:=HNB.out k e
    by_cases ej:j=i
    · simp only [if_pos ej] at hk;have:=(HN.out k hk).1;omega
    · simp only [if_neg ej] at hk;have:=HPS.out.lt j hj k hk;omega
  go_wp2_with fail
  rw [← HY6.out,← hsz6]
  refine (keep_hold Y6 W (sl (some gP) np cp) lead gh1 (n+4) cap1 H1 A6.out.1 gb none none pd.length cb 0 0 0 0 RB6.out (.inl ⟨rfl,rfl,rfl⟩) (.inl ⟨rfl,rfl,rfl⟩) (fun g _ e=>by cases e) (fun g _ e=>by cases e) (fun g e=>by cases e)
    (fun k' e=>FB5.out k' (by rcases e with e | e | e;exact e;cases e;cases e)) (by omega) (by omega) (by omega) (by omega)).mono ?_
  rintro e Y7 ⟨rfl,K1⟩
  obtain ⟨⟨gh2,cap2,H2,W7,gg2,f2⟩,t2⟩:=K1
  have nR:∀ k,¬ gb=some k→¬ (gb=some k∨(none:Option Nat)=some k∨(none:Option Nat)=some k):=fun k h t=>by
    rcases t with t | t | t
    · exact h t
    · cases t
    · cases t
  have LA:Hid (LawAt KIs Iv x W lead (n+8) gh (some gP) Y7):=by
    refine ⟨⟨gh2,cap2,H2,some gP,np,cp,_,W7,A6.out.2.move HKS t2 f2 (fun j hj k hk=>nR k (HNO.out j hj k hk)) (fun k e=>nR k (fun e2=>by have:=HPX.out k e;have:=(HNB.out k e2).1;omega)),h6,fun k e=>?_,fun k e=>.inl e⟩,?_⟩
    · rcases gg2 k e with e | e
      · rcases HG1.out k e with e | e
        · exact .inl e
        · exact .inr (by omega)
      · exact .inr (by omega)
    · refine (((Touch.of_belowAll B4.out _).trans HT1.out (fun k hk e=>?_)).trans T6.out (fun k hk e=>.inr (.inr e))).trans t2 (fun k hk e=>?_)
      · rcases e with e | e
        · exact .inl (Nat.le_of_eq e.symm)
        · exact .inr (.inl e)
      · rcases e with e | e | e | e | e
        · exact .inl (Nat.le_of_eq e.symm)
        · rcases HG1.out k e with e | e
          · exact .inr (.inl e)
          · omega
        · have:=(HNB.out k e).1;omega
        · cases e
        · cases e
  clear W7 gg2 f2 t2 nR
  go_wp2
  go_ret
  exact ⟨rfl,LA.out⟩
def StateSaid (KIs:KeeperIs):Prop:=∀ (w:World) (K:Nat) (F:Nat→Prop) (s:LK),KIs w K F s→s.ok →
  Calls Tryz.prog 26 #[.pointer (some ⟨K,0,none⟩)] w fun e w'=>e=.returned s.stateV∧Below w.heap.size w w'
def AgreedSaid (KIs:KeeperIs):Prop:=∀ (w:World) (K:Nat) (F:Nat→Prop) (s:LK),KIs w K F s→s.ok →
  Calls Tryz.prog 24 #[.pointer (some ⟨K,0,none⟩)] w fun e w'=>∃ g c,e=.returned (sl g (s.mv.ls.take s.av).length c)∧OwnLines w w' g c (s.mv.ls.take s.av)∧Below w.heap.size w w'
theorem LawAt.box {KIs:KeeperIs} {Iv:LK→Prop} {x y:World} {W:Nat} {lead:Bool} {gh gp:Option Nat} {n:Nat} {o:Obj} (h:LawAt KIs Iv (x.alloc o) W lead n gh gp y):LawAt KIs Iv x W lead n gh gp y:=by
  obtain ⟨⟨gh',cap',H',gp',np,cp,P,a,b,c,d,e⟩,t⟩:=h
  refine ⟨⟨gh',cap',H',gp',np,cp,P,a,b,c,fun k hk=>?_,fun k hk=>?_⟩,((Touch.refl _ x).alloc o).trans t (fun _ _ e=>e)⟩
  · rcases d k hk with d | d
    · exact .inl d
    · rw [World.size_alloc] at d;exact .inr (by omega)
  · rcases e k hk with d | d
    · exact .inl d
    · rw [World.size_alloc] at d;exact .inr (by omega)
theorem stepMade (KIs:KeeperIs) (Iv:LK→Prop) (lead:Bool) (m:Nat) (x:World) (W:Nat) (gh gp:Option Nat) (n:Nat) (o:OpG) (hk:o.kind=3∨o.kind=7)
    (HM:Calls Tryz.prog 53 #[.pointer (some ⟨W,0,none⟩),.agg o.cells] (x.alloc (.cells o.cells 76)) fun e y=>e=.returned (.bool true)∧LawAt KIs Iv (x.alloc (.cells o.cells 76)) W lead m gh gp y) :
    Calls Tryz.prog 30 #[.pointer (some ⟨W,0,none⟩),.agg o.cells] x fun e y=>e=.returned (.bool true)∧LawAt KIs Iv x W lead m gh gp y:=by
  have HM:=hid HM
  unfold OpG.cells sla at *
  obtain ⟨okind,on,l,f,fa,fc,c1,c2,c3,oa⟩:=o
  dsimp only at *
  rcases hk with rfl | rfl
  all_goals
    go_enter Tryz.func30,Tryz.ntmps30
    go_wp2_with fail
    refine HM.out.mono ?_
    rintro e y ⟨rfl,hs⟩
    go_wp2
    go_ret
    exact ⟨rfl,hs.box⟩
theorem stepNone (KIs:KeeperIs) (Iv:LK→Prop) (lead:Bool) (HKS:KeepsSaid KIs) (x:World) (W:Nat) (gh:Option Nat) (n cap:Nat) (H:Nat→HG) (gp:Option Nat) (cp:Nat) (P:Nat→PG) (hw:WI x W (sl gp 0 cp) lead gh n cap H) (hps:PS KIs Iv x W gh n H gp 0 cp P)
    (o:OpG) (hk:3 < o.kind) (hk7:o.kind≠7) :
    Calls Tryz.prog 30 #[.pointer (some ⟨W,0,none⟩),.agg o.cells] x fun e y=>e=.returned (.bool true)∧LawAt KIs Iv x W lead n gh gp y:=by
  have HWI:=hid hw
  have HPS:=hid hps
  have w0:=cell_of_heap hw.wb 0
  simp only [List.getElem?_toArray,List.getElem?_cons_zero] at w0
  unfold sl at w0
  have hWl:W < x.heap.size:=heap_lt hw.wb
  clear hw hps
  unfold OpG.cells sla
  obtain ⟨okind,on,l,f,fa,fc,k1,k2,k3,oa⟩:=o
  dsimp only at *
  have n1:(okind == 1)=false:=beq_eq_false_iff_ne.2 (by omega)
  have n2:(okind == 2)=false:=beq_eq_false_iff_ne.2 (by omega)
  have n3:(okind == 3)=false:=beq_eq_false_iff_ne.2 (by omega)
  have n7:(okind == 7)=false:=beq_eq_false_iff_ne.2 (by omega)
  go_enter Tryz.func30,Tryz.ntmps30
  go_wp2
  go_ret
  exact ⟨rfl,LawAt.still HKS HWI.out HPS.out (by omega) ((Below.refl _ _).alloc (Nat.le_refl _) _)⟩
theorem LawAt.kept {KIs:KeeperIs} {Iv:LK→Prop} (HKS:KeepsSaid KIs) {x Y z:World} {W:Nat} {lead:Bool} {gh gp:Option Nat} {n cap np cp:Nat} {H:Nat→HG} {P:Nat→PG} {R:Nat→Prop} (hw:WI Y W (sl gp np cp) lead gh n cap H) (hps:PS KIs Iv Y W gh n H gp np cp P) (h6:np≤6) (hb:Below x.heap.size x Y)
    (hk:KeptH Y W (sl gp np cp) lead gh n H R z) (hR:∀ k,R k→x.heap.size≤k) (hx:PS KIs Iv x W gh n H gp np cp P):LawAt KIs Iv x W lead (n+4) gh gp z:=by
  obtain ⟨⟨gh2,cap2,H2,W7,gg2,f2⟩,t2⟩:=hk
  have hs:=hb.size
  refine ⟨⟨gh2,cap2,H2,gp,np,cp,P,W7,hps.move HKS t2 f2 (fun j hj k hk r=>?_) (fun k e r=>?_),h6,fun k e=>?_,fun k e=>.inl e⟩,(Touch.of_belowAll hb _).trans t2 (fun k hk e=>?_)⟩
  · have:=hx.lt j hj k hk;have:=hR k r;omega
  · have:=hx.own.lt e;have:=hR k r;omega
  · rcases gg2 k e with e | e
    · exact .inl e
    · exact .inr (by omega)
  · rcases e with e | e | e
    · exact .inl (Nat.le_of_eq e.symm)
    · exact .inr (.inl e)
    · have:=hR k e;omega
theorem stepTell (KIs:KeeperIs) (Iv:LK→Prop) (lead:Bool) (HKS:KeepsSaid KIs) (HSS:StateSaid KIs) (HAS:AgreedSaid KIs) (HDS:DiskSaid KIs) (HIK:∀ s,Iv s→s.ok) (x:World) (W:Nat) (gh:Option Nat) (n cap:Nat) (H:Nat→HG) (gp:Option Nat) (np cp:Nat) (P:Nat→PG) (hw:WI x W (sl gp np cp) lead gh n cap H) (hps:PS KIs Iv x W gh n H gp np cp P) (h0:0 < np) (h6:np≤6) (hn:n≤95000000)
    (o:OpG) (hk:o.kind=4∨o.kind=5∨o.kind=6) (hr:-9223372036854775808≤o.n∧o.n≤9223372036854775807) :
    Calls Tryz.prog 30 #[.pointer (some ⟨W,0,none⟩),.agg o.cells] x fun e y=>e=.returned (.bool true)∧∃ m,m≤4∧LawAt KIs Iv x W lead (n+m) gh gp y:=by
  have HWI:=hid hw
  have HPS:=hid hps
  have w0:=cell_of_heap hw.wb 0
  simp only [List.getElem?_toArray,List.getElem?_cons_zero] at w0
  unfold sl at w0
  have hWl:W < x.heap.size:=heap_lt hw.wb
  clear hw hps
  unfold OpG.cells sla
  obtain ⟨okind,on,l,f,fa,fc,k1,k2,k3,oa⟩:=o
  dsimp only at *
  have n1:(okind == 1)=false:=beq_eq_false_iff_ne.2 (by omega)
  have n2:(okind == 2)=false:=beq_eq_false_iff_ne.2 (by omega)
  have n3:(okind == 3)=false:=beq_eq_false_iff_ne.2 (by omega)
  have n7:(okind == 7)=false:=beq_eq_false_iff_ne.2 (by omega)
  have hz:((np:Int) == 0)=false:=beq_eq_false_iff_ne.2 (by omega)
  go_enter Tryz.func30,Tryz.ntmps30
  go_wp2
  generalize hY:x.alloc (.cells #[.int .i64 okind,.int .i64 on,.string ⟨l.toArray⟩,.int .i64 f.kind,.int .i64 f.frm,.int .i64 f.view,.int .i64 f.place,.int .i64 f.agreed,.int .i64 f.last,.int .i64 f.line.c,.int .i64 f.line.t,.string ⟨f.line.s.toArray⟩,.slice fa f.lines.length fc,.int .i64 k1,.int .i64 k2,.int .i64 k3,.int .i64 oa] 76)=Y
  have y0:Y.cell? ⟨x.heap.size,0,none⟩=some (.int .i64 okind):=by rw [← hY];exact World.cell?_alloc_new _ _ _ _
  have y1:Y.cell? ⟨x.heap.size,1,none⟩=some (.int .i64 on):=by rw [← hY];exact World.cell?_alloc_new _ _ _ _
  have y16:Y.cell? ⟨x.heap.size,16,none⟩=some (.int .i64 oa):=by rw [← hY];exact World.cell?_alloc_new _ _ _ _
  have BY:Hid (Below x.heap.size x Y):=by show Below _ _ _;rw [← hY];exact (Below.refl _ _).alloc (Nat.le_refl _) _
  have hxl:x.heap.size < Y.heap.size:=by rw [← hY];simp
  have WY:=hid (HWI.out.below BY.out)
  have PY:=hid (HPS.out.below HKS BY.out)
  clear hY w0
  have v0:=cell_of_heap WY.out.wb 0
  simp only [List.getElem?_toArray,List.getElem?_cons_zero] at v0
  unfold sl at v0
  have hi:=pickN_lt on h0
  have HPK:=hid (pick_any on np)
  generalize pickN on np=i at hi HPK ⊢
  obtain ⟨gP,hgP,cP⟩:=PY.out.ptr i hi
  obtain ⟨K,F,Kr,G,q1,q2,q3,q5⟩:=PY.out.pl i hi
  have hiv:=PY.out.iv i hi
  generalize hPi:P i=pi at *
  obtain ⟨pp,pN,ps⟩:=pi
  dsimp only at *
  have HOK:=hid (HIK ps hiv)
  have HQ2:=hid q2
  have HQ3:=hid q3
  have HQ1:=hid q1
  clear hiv q2 q3 q1
  subst hgP
  have i0:(0:Int)≤(i:Int):=by omega
  have i1:(i:Int) < (np:Int):=by omega
  simp only [Option.map_some] at v0 ⊢
  have HX:Hid (Below Y.heap.size Y Y):=Below.refl _ _
  have HR:=hid hr
  clear hr
  go_region_held (fun z=>z.cell? ⟨x.heap.size,1,none⟩=some (.int .i64 on)∧z.cell? ⟨W,0,none⟩=some (.slice (some ⟨gP,0,none⟩) np cp)∧z.cell? ⟨gP,i,none⟩=some (.pointer (some ⟨pp,0,none⟩)))
    (go_keep)
    (first | (go_at_call 54;refine (HPK.out _ h0 (by omega) HR.out).mono ?_;rintro e wf ⟨rfl,rfl⟩))
  rename_i hh
  clear hh
  obtain ⟨Y2,hY2⟩:∃ Y2:World,Y2=Y.drew:=⟨_,rfl⟩
  have bY2:Below Y.heap.size Y Y2:=by rw [hY2];exact (Below.refl _ _).drew
  have hs2:Y2.heap.size=Y.heap.size:=by rw [hY2];rfl
  have u0:Y2.cell? ⟨x.heap.size,0,none⟩=some (.int .i64 okind):=by rw [hY2];exact y0
  have z16:Y2.cell? ⟨x.heap.size,16,none⟩=some (.int .i64 oa):=by rw [hY2];exact y16
  rw [← hY2]
  have W2:=hid (WY.out.below bY2)
  have P2:=hid (PY.out.below HKS bY2)
  have B2:=hid (BY.out.trans (bY2.mono BY.out.size))
  have HK2:=hid (HKS _ _ _ _ _ _ HQ2.out (Touch.of_belowAll bY2 (fun _=>False)) (fun _ _ h=>h))
  have HR2:=hid (HQ3.out.below bY2)
  have HP2:=hid ((bY2.block _ (heap_lt HQ1.out)).trans HQ1.out)
  clear hY2 bY2 y0 y1 y16 v0 WY PY BY HX cP HQ1 HQ2 HQ3 HPK
  have p0:=cell_of_heap HP2.out 0
  have p1:=cell_of_heap HP2.out 1
  simp only [List.getElem?_toArray,List.getElem?_cons_zero,List.getElem?_cons_succ] at p0 p1
  rcases hk with rfl | rfl | rfl
  · clear n1 n2 n3 n7 hz z16
    go_wp2
    have HX:Hid (Below Y2.heap.size Y2 Y2):=Below.refl _ _
    have HSS:=hid HSS
    have SV:Hid (∀ z,Below Y2.heap.size Y2 z→Calls Tryz.prog 26 #[.pointer (some ⟨K,0,none⟩)] z fun e w'=>e=.returned (.agg #[.int .i64 ps.mv.view,.int .i64 ps.mv.last,.int .i64 ps.mv.ls.length,.int .i64 ps.av])∧Below z.heap.size z w'):=fun z hz=>HSS.out z K F ps (HKS _ _ _ _ _ _ HK2.out (Touch.of_belowAll hz (fun _=>False)) (fun _ _ h=>h)) HOK.out
    have RV:Hid (∀ z,Below Y2.heap.size Y2 z→Calls Tryz.prog 55 #[.pointer (some ⟨Kr,0,none⟩)] z fun e w'=>e=.returned (.agg #[.int .i64 ps.mv.view,.int .i64 ps.mv.last,.int .i64 ps.mv.ls.length,.int .i64 ps.av])∧Below z.heap.size z w'):=fun z hz=>refState_any Kr G ps z (HR2.out.below hz)
    generalize ps.mv.view=mv at *
    generalize ps.mv.last=ml at *
    generalize ps.mv.ls.length=mn at *
    generalize ps.av=ma at *
    go_region_held (fun z=>z.cell? ⟨pp,0,none⟩=some (.pointer (some ⟨K,0,none⟩))∧z.cell? ⟨pp,1,none⟩=some (.pointer (some ⟨Kr,0,none⟩)))
      (first | go_keep | (go_split_ands;refine ⟨?_,?_⟩ <;> (refine (hbf.cell (World.block_lt_of_cell? _ _ (by assumption))).trans ?_;assumption)))
      (first
        | (go_at_call 26;refine (SV.out _ (by exact ex_below_cast HX.out rfl rfl rfl rfl)).mono ?_;rintro e wf ⟨rfl,hbf⟩;have HX:=hid (ex_below_on HX.out hbf rfl rfl rfl rfl))
        | (go_at_call 55;refine (RV.out _ (by exact ex_below_cast HX.out rfl rfl rfl rfl)).mono ?_;rintro e wf ⟨rfl,hbf⟩;have HX:=hid (ex_below_on HX.out hbf rfl rfl rfl rfl)))
    rename_i hh
    clear hh
    go_wp2
    go_ret
    exact ⟨rfl,0,by omega,LawAt.still HKS HWI.out HPS.out h6 (B2.out.trans (HX.out.mono B2.out.size))⟩
  · clear n1 n2 n3 n7 hz z16
    obtain ⟨ll,hll⟩:∃ ll:List Ln,ll=ps.mv.ls.take ps.av:=⟨_,rfl⟩
    have hsm:ll.length≤20:=by have:=LK.mv_len HOK.out;rw [hll,List.length_take];omega
    have AV:Hid (∀ z,Below Y2.heap.size Y2 z→Calls Tryz.prog 24 #[.pointer (some ⟨K,0,none⟩)] z fun e w'=>∃ g c,e=.returned (.slice (g.map fun k=>⟨k,0,none⟩) ll.length c)∧OwnLines z w' g c ll∧Below z.heap.size z w'):=fun z hz=>by
      rw [hll];exact HAS z K F ps (HKS _ _ _ _ _ _ HK2.out (Touch.of_belowAll hz (fun _=>False)) (fun _ _ h=>h)) HOK.out
    have RV:Hid (∀ z,Below Y2.heap.size Y2 z→Calls Tryz.prog 57 #[.pointer (some ⟨Kr,0,none⟩)] z fun e w'=>∃ a c,e=.returned (.slice a ll.length c)∧LinesAt w' a ll∧Below z.heap.size z w'):=fun z hz=>by
      rw [hll];exact refLines_any Kr G ps z (HR2.out.below hz) HOK.out
    clear hll
    go_wp2_with fail
    refine (AV.out _ (Below.refl _ _)).mono ?_
    rintro e Y3 ⟨ga,ca,rfl,hol,hb3⟩
    have B23:=hid hb3
    have HP3:=hid ((hb3.block _ (heap_lt HP2.out)).trans HP2.out)
    have HOL:=hid hol
    have hs3:Y2.heap.size≤Y3.heap.size:=hb3.size
    clear hb3 hol p0 p1 u0
    have p1:=cell_of_heap HP3.out 1
    simp only [List.getElem?_toArray,List.getElem?_cons_zero,List.getElem?_cons_succ] at p1
    go_wp2_with fail
    refine (RV.out _ B23.out).mono ?_
    rintro e Y4 ⟨a4,c4,rfl,hl4,hb4⟩
    have B24:=hid (B23.out.trans (hb4.mono B23.out.size))
    have HOL4:=hid (HOL.out.below hb4)
    have HL4:=hid hl4
    have hs4:Y3.heap.size≤Y4.heap.size:=hb4.size
    clear hb4 hl4 p1
    go_wp2_with fail
    refine (sameLines_any (ga.map fun k=>(⟨k,0,none⟩:Addr)) a4 ca c4 ll Y4 (by omega) HOL4.out.at_ HL4.out).mono ?_
    rintro e Y5 ⟨rfl,hb5⟩
    have B25:=hid (B24.out.trans (hb5.mono B24.out.size))
    have HOL5:=hid (HOL4.out.below hb5)
    have hs5:Y4.heap.size≤Y5.heap.size:=hb5.size
    clear hb5
    have W5:=hid (W2.out.below B25.out)
    have P5:=hid (P2.out.below HKS B25.out)
    have B5:=hid (B2.out.trans (B25.out.mono B2.out.size))
    have HNG:Hid (∀ k,ga=some k→Y2.heap.size≤k):=HOL.out.new
    have hx2:x.heap.size≤Y2.heap.size:=B2.out.size
    go_wp2_with fail
    refine (keep_hold Y5 W (sl (some gP) np cp) lead gh n cap H W5.out none ga none 0 0 ll.length ca 0 0 (.inl ⟨rfl,rfl,rfl⟩) HOL5.out.own (.inl ⟨rfl,rfl,rfl⟩) (fun g e=>by cases e) (fun g e=>by cases e) (fun g _ e=>by cases e)
      (fun k' e=>HWI.out.free_new (by rcases e with e | e | e;cases e;(have:=HNG.out k' e;omega);cases e)) (by omega) (by omega) (by omega) (by omega)).mono ?_
    rintro e Y7 ⟨rfl,K1⟩
    have LA:Hid (LawAt KIs Iv x W lead (n+4) gh (some gP) Y7):=LawAt.kept HKS W5.out P5.out h6 B5.out K1 (fun k e=>by
      rcases e with e | e | e
      · cases e
      · have:=HNG.out k e;omega
      · cases e) HPS.out
    clear K1
    go_wp2
    go_ret
    exact ⟨rfl,4,by omega,LA.out⟩
  · clear n1 n2 n3 n7 hz
    go_wp2
    go_still_tail 6,(by kernel_rfl)
    go_wp2_with fail
    refine (HDS Y2.drew K F ps oa (HKS _ _ _ _ _ _ HK2.out ((Touch.refl (fun _=>False) Y2).drew) (fun _ _ h=>h)) HOK.out).mono ?_
    rintro e Y3 ⟨gb,cb,rfl,hob,hb3⟩
    have b23:Below Y2.heap.size Y2 Y3:=(Below.refl _ Y2).drew.trans hb3
    have W3:=hid (W2.out.below b23)
    have P3:=hid (P2.out.below HKS b23)
    have B3:=hid (B2.out.trans (b23.mono B2.out.size))
    have HR3:=hid (HR2.out.below b23)
    have HP3:=hid ((b23.block _ (heap_lt HP2.out)).trans HP2.out)
    have HOB:=hid (hob.base (u:=Y2) (Nat.le_refl _))
    have hs3:Y2.heap.size≤Y3.heap.size:=b23.size
    have z16':Y3.cell? ⟨x.heap.size,16,none⟩=some (.int .i64 oa):=(b23.cell (World.block_lt_of_cell? _ _ z16)).trans z16
    clear hb3 hob p0 p1 u0 b23 z16
    have p1:=cell_of_heap HP3.out 1
    simp only [List.getElem?_toArray,List.getElem?_cons_zero,List.getElem?_cons_succ] at p1
    clear HDS
    obtain ⟨pd,hpd⟩:∃ pd:List UInt8,pd=ps.image oa:=⟨_,rfl⟩
    have hpl:pd.length≤9900000:=by rw [hpd];exact Nat.le_trans (LK.image_len ps oa) HOK.out.1
    rw [← hpd] at HOB ⊢
    have RV:Hid (∀ z,Below Y3.heap.size Y3 z→Calls Tryz.prog 59 #[.pointer (some ⟨Kr,0,none⟩),.int .i64 oa] z fun e w'=>e=.returned (.string ⟨pd.toArray⟩)∧Below z.heap.size z w'):=fun z hz=>by
      rw [hpd];exact refImage_any Kr G ps _ oa (HR3.out.below hz) HOK.out.1
    have CV:Hid (∀ z,Below Y3.heap.size Y3 z→(convert 31 9 (.slice (gb.map fun k=>⟨k,0,none⟩) pd.length cb)).run Tryz.prog z=.ok (.string ⟨pd.toArray⟩) z):=fun z hz=>conv_bytes gb cb pd z (HOB.out.below hz).at_
    clear hpd
    unfold sl
    go_wp2
    have HX:Hid (Below Y3.heap.size Y3 Y3):=Below.refl _ _
    have HP1:=hid p1
    have HZ16:=hid z16'
    clear p1 z16'
    have hS0:(fun z:World=>Below Y3.heap.size Y3 z∧(convert 31 9 (.slice (gb.map fun k=>⟨k,0,none⟩) pd.length cb)).run Tryz.prog z=.ok (.string ⟨pd.toArray⟩) z∧z.cell? ⟨pp,1,none⟩=some (.pointer (some ⟨Kr,0,none⟩))∧z.cell? ⟨x.heap.size,16,none⟩=some (.int .i64 oa)) Y3.drew:=⟨(Below.refl _ _).drew,CV.out _ ((Below.refl _ _).drew),HP1.out,HZ16.out⟩
    refine wp_region_held_drew (S:=fun z:World=>Below Y3.heap.size Y3 z∧(convert 31 9 (.slice (gb.map fun k=>⟨k,0,none⟩) pd.length cb)).run Tryz.prog z=.ok (.string ⟨pd.toArray⟩) z∧z.cell? ⟨pp,1,none⟩=some (.pointer (some ⟨Kr,0,none⟩))∧z.cell? ⟨x.heap.size,16,none⟩=some (.int .i64 oa)) (by kernel_rfl) hS0 (fun hS=>?_)
    clear hS0
    refine tH 0 hS ?_
    try simp only [lA,lB,lC,Act.put,lD,lE,lF]
    refine tH 2 hS ?_
    try simp only [lA,lB,lC,Act.put,lD,lE,lF]
    refine tH 3 hS ?_
    try simp only [lA,lB,lC,Act.put,lD,lE,lF]
    refine tH 4 hS ?_
    try simp only [lA,lB,lC,Act.put,lD,lE,lF]
    refine tH 6 hS ?_
    try simp only [lA,lB,lC,Act.put,lD,lE,lF]
    refine tH 1 hS ?_ (hy:=by (intro w hw;obtain ⟨_,s1,s2,s3⟩:=hw;go_simp;try with_reducible rfl))
    try simp only [lA,lB,lC,Act.put,lD,lE,lF]
    refine tH 5 hS ?_ (hy:=by (intro w hw;obtain ⟨_,s1,s2,s3⟩:=hw;go_simp;try with_reducible rfl))
    try simp only [lA,lB,lC,Act.put,lD,lE,lF]
    refine tH 7 hS ?_ (hy:=by (intro w hw;obtain ⟨_,s1,s2,s3⟩:=hw;go_simp;try with_reducible rfl))
    try simp only [lA,lB,lC,Act.put,lD,lE,lF]
    refine wpAnyH_ready (rs:=[8]) (by kernel_rfl) (by simp) ?_
    refine AllReadyH.cons rfl (fun K hK=>?_) AllReadyH.nil
    go_simp
    refine (RV.out _ hS.1).mono ?_
    rintro e Y4 ⟨rfl,hbf⟩
    have HX:=hid (hS.1.trans (hbf.mono hS.1.size))
    clear hbf
    refine hK.out _ _ ⟨HX.out,CV.out _ HX.out,(Below.cell HX.out (World.block_lt_of_cell? _ _ HP1.out)).trans HP1.out,(Below.cell HX.out (World.block_lt_of_cell? _ _ HZ16.out)).trans HZ16.out⟩ (fun hS=>?_)
    clear hK K
    refine tH 9 hS ?_
    try simp only [lA,lB,lC,Act.put,lD,lE,lF]
    refine tH 10 hS ?_
    try simp only [lA,lB,lC,Act.put,lD,lE,lF]
    refine wpAnyH_done (by kernel_rfl) ?_ _
    clear hS
    have b34:=HX.out
    have W4:=hid (W3.out.below b34)
    have P4:=hid (P3.out.below HKS b34)
    have B4:=hid (B3.out.trans (b34.mono B3.out.size))
    have HOB4:=hid (HOB.out.below b34)
    have hs4:Y3.heap.size≤Y4.heap.size:=b34.size
    have HNG:Hid (∀ k,gb=some k→Y2.heap.size≤k):=HOB.out.new
    have hx2:x.heap.size≤Y2.heap.size:=B2.out.size
    clear b34
    go_wp2_with fail
    refine (keep_hold Y4 W (sl (some gP) np cp) lead gh n cap H W4.out gb none none pd.length cb 0 0 0 0 HOB4.out.own (.inl ⟨rfl,rfl,rfl⟩) (.inl ⟨rfl,rfl,rfl⟩) (fun g _ e=>by cases e) (fun g _ e=>by cases e) (fun g e=>by cases e)
      (fun k' e=>HWI.out.free_new (by rcases e with e | e | e;(have:=HNG.out k' e;omega);cases e;cases e)) (by omega) (by omega) (by omega) (by omega)).mono ?_
    rintro e Y7 ⟨rfl,K1⟩
    have LA:Hid (LawAt KIs Iv x W lead (n+4) gh (some gP) Y7):=LawAt.kept HKS W4.out P4.out h6 B4.out K1 (fun k e=>by
      rcases e with e | e | e
      · have:=HNG.out k e;omega
      · cases e
      · cases e) HPS.out
    clear K1
    go_wp2
    go_ret
    exact ⟨ret_bool (by simp),4,by omega,LA.out⟩
end
end Go.Proofs.YtolififimldmlaaGreat
