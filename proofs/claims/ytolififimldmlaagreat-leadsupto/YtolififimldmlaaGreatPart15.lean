import Derived.Test.YtolififimldmlaaGreatPart14
import Derived.StillTailTactics
import Derived.Deep.RegionHeld3
set_option linter.unusedVariables false
set_option linter.unusedSimpArgs false
set_option maxRecDepth 100000
set_option maxHeartbeats 16000000
namespace Go.Proofs.YtolififimldmlaaGreat
section
open Go.RowKit
attribute [local go_sem ↓] Go.wp_at_zero Go.wp_at_succ
theorem Tryz.info118:(Tryz.prog.info? 118).map (fun i=>(i.zero,i.size,i.bytes))=some (some (.pointer none),1,8):=by kernel_rfl
theorem WI.touchFree {x y:World} {W:Nat} {psv:Value} {lead:Bool} {gh:Option Nat} {n cap:Nat} {H:Nat→HG} {gp:Option Nat} (h:WI x W psv lead gh n cap H) (ht:Touch (fun k=>gp=some k) x y) (hf:∀ k,gp=some k→Free W gh n H k):WI y W psv lead gh n cap H :=
  h.touch ht (fun e=>(hf W e).1 rfl) (fun k e e2=>(hf k e2).2.1 e) (fun j hj k i hft=>World.cell?_of_block (ht.block k ((h.is j hj).foot_lt hft) (fun e=>(hf k e).2.2 j hj i hft)))
structure LawAt (KIs:KeeperIs) (Iv:LK→Prop) (x:World) (W:Nat) (lead:Bool) (n:Nat) (gh gp:Option Nat) (y:World):Prop where
  ex:∃ gh' cap' H' gp' np cp P,WI y W (sl gp' np cp) lead gh' n cap' H'∧PS KIs Iv y W gh' n H' gp' np cp P∧np≤6∧(∀ k,gh'=some k→gh=some k∨x.heap.size≤k)∧(∀ k,gp'=some k→gp=some k∨x.heap.size≤k)
  tch:Touch (fun k=>W≤k∨gh=some k∨gp=some k) x y
theorem LawAt.same {KIs:KeeperIs} {Iv:LK→Prop} (HKS:KeepsSaid KIs) {x z y:World} {W:Nat} {lead:Bool} {gh gp:Option Nat} {n m:Nat} {H:Nat→HG} {np cp:Nat} {P:Nat→PG} {N:Nat→Prop} (hps:PS KIs Iv z W gh n H gp np cp P) (h6:np≤6) (hb:Below x.heap.size x z) (hs:Stays z W (sl gp np cp) lead gh n m H y N):LawAt KIs Iv x W lead (n+m) gh gp y:=by
  obtain ⟨⟨gh',cap',H',w1,g1,f1,_⟩,t⟩:=hs
  refine ⟨⟨gh',cap',H',gp,np,cp,P,w1,hps.stays HKS t f1,h6,fun k e=>?_,fun k e=>.inl e⟩,(Touch.of_belowAll hb _).trans t (fun i _ e=>?_)⟩
  · rcases g1 k e with e | e
    · exact .inl e
    · exact .inr (Nat.le_trans hb.size e)
  · rcases e with e | e
    · exact .inl (Nat.le_of_eq e.symm)
    · exact .inr (.inl e)
theorem LawAt.still {KIs:KeeperIs} {Iv:LK→Prop} (HKS:KeepsSaid KIs) {x y:World} {W:Nat} {lead:Bool} {gh gp:Option Nat} {n cap np cp:Nat} {H:Nat→HG} {P:Nat→PG} (hw:WI x W (sl gp np cp) lead gh n cap H) (hps:PS KIs Iv x W gh n H gp np cp P) (h6:np≤6) (hb:Below x.heap.size x y):LawAt KIs Iv x W lead n gh gp y :=
  ⟨⟨gh,cap,H,gp,np,cp,P,hw.below hb,hps.below HKS hb,h6,fun _ e=>.inl e,fun _ e=>.inl e⟩,Touch.of_belowAll hb _⟩
theorem made_end {KIs:KeeperIs} {Iv:LK→Prop} (HKS:KeepsSaid KIs) {x Z Y w3:World} {W n np cp cap1 p g2 c2:Nat} {gh gh1 gp:Option Nat} {H1:Nat→HG} {P:Nat→PG} {N:Nat→Prop} {lead:Bool} {sn:LK} {o:Obj}
    (hw:WI Y W (sl gp np cp) lead gh1 (n+4) cap1 H1) (hp:PS KIs Iv Y W gh1 (n+4) H1 gp np cp P) (hpl:Player KIs Y p N sn) (hN:∀ k,N k→Z.heap.size≤k∧k < Y.heap.size) (hFN:∀ k,N k→Free W gh1 (n+4) H1 k)
    (hg:∀ k,gh1=some k→gh=some k∨Z.heap.size≤k) (ht:Touch (fun k=>k=W∨gh=some k) Z Y) (hb:Below x.heap.size x Z) (hWZ:W < Z.heap.size) (hNo:∀ j,j < np→∀ k,(P j).N k→¬ N k) (Q:AppPost (Y.alloc o) w3 118 1 gp np 1 [.pointer (some ⟨p,0,none⟩)] g2 c2) (h6:np+1≤6) (hiv:Iv sn) (hgp:∀ k,gp=some k→k < x.heap.size) :
    LawAt KIs Iv x W lead (n+4) gh gp (w3.setCell ⟨W,0,none⟩ (.slice (some ⟨g2,0,none⟩) (np+1) c2)):=by
  have tY3:Touch (fun k=>gp=some k) Y w3:=((Touch.refl (fun k=>gp=some k) Y).alloc o).trans Q.touch (fun _ _ e=>e)
  have w3w:WI w3 W (sl gp np cp) lead gh1 (n+4) cap1 H1:=hw.touchFree tY3 hp.frg
  have t3:Touch (fun k=>k=W) w3 (w3.setCell ⟨W,0,none⟩ (.slice (some ⟨g2,0,none⟩) (np+1) c2)):=(Touch.refl (fun k=>k=W) w3).setCell (p:=⟨W,0,none⟩) (fun _=>rfl) _
  have hxz:=hb.size
  have hzy:=ht.size
  have hg2:gp=some g2∨Y.heap.size≤g2:=by
    rcases Q.lies with e | e
    · exact .inl e
    · rw [World.size_alloc] at e;exact .inr (by omega)
  have fg2:Free W gh1 (n+4) H1 g2:=by
    rcases hg2 with e | e
    · exact hp.frg g2 e
    · exact hw.free_new e
  have ng2:∀ k,Free W gh1 (n+4) H1 k→gp≠some k→k < Y.heap.size→(some g2:Option Nat)≠some k:=fun k _ h2 h3 e=>by
    have e:=Option.some.inj e
    subst e
    rcases hg2 with e | e
    · exact h2 e
    · omega
  refine ⟨⟨gh1,cap1,H1,some g2,np+1,c2,fun j=>if j=np then ⟨p,N,sn⟩ else P j,w3w.setPs _,?_,h6,fun k e=>?_,fun k e=>?_⟩,?_⟩
  · refine ⟨Q.own.touch t3 (fun k e e2=>?_),fun j hj=>?_,fun j hj=>?_,fun j hj k hk=>?_,fun j hj k hk=>?_,fun k e=>?_,fun j hj=>?_,fun j hj k hk=>?_,fun i j hi hj hij k hk hk2=>?_⟩
    · have:=Option.some.inj e;subst this;exact fg2.1 e2
    · refine ⟨g2,rfl,?_⟩
      refine (World.cell?_of_block (t3.block g2 ?_ (fun e=>fg2.1 e))).trans ?_
      · rcases Q.own with ⟨h,_⟩ | ⟨g',cur,h,hh,_⟩
        · cases h
        · cases h;exact heap_lt hh
      · by_cases e:j=np
        · subst e
          rw [if_pos rfl]
          have:=Q.new 0 (by omega)
          simpa using this
        · rw [if_neg e]
          obtain ⟨g,e1,c⟩:=hp.ptr j (by omega)
          rw [Q.old j (by omega) g e1,World.cell?_alloc_past _ _ _ (hp.own.lt e1)];exact c
    · by_cases e:j=np
      · subst e
        simp only [if_true]
        exact (hpl.touch HKS tY3 (fun k hk e=>by have:=hgp k e;have:=(hN k hk).1;omega)).touch HKS t3 (fun k hk e=>(hFN k hk).1 e)
      · simp only [if_neg e]
        have hj':j < np:=by omega
        exact ((hp.pl j hj').touch HKS tY3 (fun k hk e=>(hp.fr j hj' k hk).2 e)).touch HKS t3 (fun k hk e=>(hp.fr j hj' k hk).1.1 e)
    · have h3:Y.heap.size≤(w3.setCell ⟨W,0,none⟩ (.slice (some ⟨g2,0,none⟩) (np+1) c2)).heap.size:=Nat.le_trans tY3.size t3.size
      by_cases e:j=np
      · subst e;simp only [if_true] at hk;have:=(hN k hk).2;omega
      · simp only [if_neg e] at hk;have:=hp.lt j (by omega) k hk;omega
    · by_cases e:j=np
      · subst e
        simp only [if_true] at hk
        have h1:=hN k hk
        exact ⟨hFN k hk,ng2 k (hFN k hk) (fun e=>by have:=hgp k e;omega) h1.2⟩
      · simp only [if_neg e] at hk
        have hj':j < np:=by omega
        exact ⟨(hp.fr j hj' k hk).1,ng2 k (hp.fr j hj' k hk).1 (hp.fr j hj' k hk).2 (hp.lt j hj' k hk)⟩
    · have:=Option.some.inj e;subst this;exact fg2
    · by_cases e:j=np
      · subst e;simp only [if_true];exact hiv
      · simp only [if_neg e];exact hp.iv j (by omega)
    · by_cases e:j=np
      · simp only [if_pos e] at hk;have:=(hN k hk).1;omega
      · simp only [if_neg e] at hk;exact hp.ge j (by omega) k hk
    · by_cases ei:i=np
      · by_cases ej:j=np
        · omega
        · simp only [if_pos ei] at hk;simp only [if_neg ej] at hk2
          exact hNo j (by omega) k hk2 hk
      · by_cases ej:j=np
        · simp only [if_neg ei] at hk;simp only [if_pos ej] at hk2
          exact hNo i (by omega) k hk hk2
        · simp only [if_neg ei] at hk;simp only [if_neg ej] at hk2
          exact hp.ds i j (by omega) (by omega) hij k hk hk2
  · rcases hg k e with e | e
    · exact .inl e
    · exact .inr (by omega)
  · have:=Option.some.inj e;subst this
    rcases hg2 with e | e
    · exact .inl e
    · exact .inr (by omega)
  · refine (((Touch.of_belowAll hb _).trans ht (fun i _ e=>?_)).trans tY3 (fun i _ e=>.inr (.inr e))).trans t3 (fun i _ e=>.inl (Nat.le_of_eq e.symm))
    rcases e with e | e
    · exact .inl (Nat.le_of_eq e.symm)
    · exact .inr (.inl e)
theorem madeOpen_on (KIs:KeeperIs) (Iv:LK→Prop) (lead:Bool) (HOS:OpenSaid KIs) (HKS:KeepsSaid KIs) (HIV:∀ kp me pa l,ConfOk kp me pa→l.length≤9000000→(lead=true→(readD l).1.view=0)→Iv (LK.opened kp me pa (l.take (readD l).2) (readD l).1)) (x:World) (W:Nat) (gh:Option Nat) (n cap:Nat) (H:Nat→HG) (gp:Option Nat) (np cp:Nat) (P:Nat→PG) (hw:WI x W (sl gp np cp) lead gh n cap H) (hps:PS KIs Iv x W gh n H gp np cp P) (h6:np≤6) (hn:n≤95000000)
    (o:OpG) (hk:o.kind=3) (hsl:o.s.length≤9000000) (hlv:lead=false∨(lead=true∧(readD o.s).1.view=0)) :
    Calls Tryz.prog 53 #[.pointer (some ⟨W,0,none⟩),.agg o.cells] x fun e y=>e=.returned (.bool true)∧LawAt KIs Iv x W lead (n+4) gh gp y:=by
  have HWI:=hid hw
  have HPS:=hid hps
  clear hw hps
  unfold OpG.cells sla
  obtain ⟨okind,on,l,f,fa,fc,k1,k2,k3,oa⟩:=o
  dsimp only at *
  subst hk
  have HIV:=hid HIV
  have hv0:Hid (lead=true→(readD l).1.view=0):=fun e=>by
    rcases hlv with h | h
    · rw [h] at e;cases e
    · exact h.2
  rcases hlv with rfl | ⟨rfl,hv⟩
  all_goals
    try have hvz:(((readD l).1.view:Int) != 0)=false:=by simp [hv]
    try clear hv
    have hWl:W < x.heap.size:=heap_lt HWI.out.wb
    go_enter Tryz.func53,Tryz.ntmps53
    go_wp2_with fail
    refine (read_any l _ (by omega)).mono ?_
    rintro e X1 ⟨gm,cm,rfl,hol,hb1⟩
    rw [World.size_alloc] at hb1
    have HX1:Hid (Below x.heap.size x X1):=((Below.refl _ x).alloc (Nat.le_refl _) _).trans (hb1.mono (by omega))
    have HMV:Hid (∀ m:Mm,∀ q,m.val (gm.map fun x=>(⟨x,0,none⟩:Addr)) q=.agg #[.int .i64 m.view,.int .i64 m.last,.slice (gm.map fun x=>⟨x,0,none⟩) m.ls.length q]):=fun m q=>rfl
    rw [HMV.out]
    have hob:=(hb1.block x.heap.size (by omega)).trans (heap_alloc_new x _)
    have s2:=cell_of_heap hob 2
    have s13:=cell_of_heap hob 13
    have s14:=cell_of_heap hob 14
    have s15:=cell_of_heap hob 15
    simp only [List.getElem?_toArray,List.getElem?_cons_zero,List.getElem?_cons_succ] at s2 s13 s14 s15
    have WX1:=hid (HWI.out.below HX1.out)
    have w0:=cell_of_heap WX1.out.wb 0
    have w2:=cell_of_heap WX1.out.wb 2
    simp only [List.getElem?_toArray,List.getElem?_cons_zero,List.getElem?_cons_succ] at w0 w2
    have hs1:x.heap.size < X1.heap.size:=heap_lt hob
    have hW1:W < X1.heap.size:=by omega
    clear hol hb1 hob
    unfold sl at w0
    obtain ⟨Z,hZ⟩:∃ Z:World,Z=X1.alloc (.cells #[.int .i64 (readD l).1.view,.int .i64 (readD l).1.last,.slice (gm.map fun x=>⟨x,0,none⟩) (readD l).1.ls.length cm] 176):=⟨_,rfl⟩
    have BZ:Hid (Below x.heap.size x Z):=by show Below _ _ _;rw [hZ];exact HX1.out.alloc HX1.out.size _
    have WZ:=hid (HWI.out.below BZ.out)
    have PZ:=hid (HPS.out.below HKS BZ.out)
    have HZ:=hid hZ
    clear hZ
    go_wp2_with fail
    rw [← HZ.out]
    by_cases hc:ConfOk k1 k2 k3
    · have HI:=hid (HIV.out k1 k2 k3 l hc hsl (fun e=>hv0.out e))
      refine (opened_yes KIs HOS HKS Z W (sl gp np cp) _ gh n cap H WZ.out (by omega) k1 k2 k3 l (by omega) hc).mono ?_
      rintro e Y ⟨p,N,rfl,hpl,hN,hst⟩
      have HL:=hid (LawAt.same HKS PZ.out h6 BZ.out hst)
      obtain ⟨⟨gh1,cap1,H1,W1,g1,f1,fN⟩,t1⟩:=hst
      have HW1:=hid W1
      have HP1:=hid (PZ.out.stays HKS t1 f1)
      have HPL:=hid hpl
      have HN:=hid hN
      have HFN:=hid fN
      have HG1:=hid g1
      have HT1:=hid t1
      have v0:=cell_of_heap W1.wb 0
      have fv:∀ j,Y.frozen? ⟨W,j,none⟩=false:=fun j=>frozen_of_heap W1.wb j
      simp only [List.getElem?_toArray,List.getElem?_cons_zero] at v0
      unfold sl at v0
      have hWY:W < Y.heap.size:=heap_lt W1.wb
      have hzy:Z.heap.size≤Y.heap.size:=t1.size
      have hxz:x.heap.size≤Z.heap.size:=BZ.out.size
      clear W1 g1 f1 fN t1 hpl hN s2 s13 s14 s15 w0 w2
      by_cases hn6:np=6
      · have l6:¬ ((np:Int) < 6):=by omega
        go_wp2
        go_ret
        exact ⟨rfl,HL.out⟩
      · have l6:(np:Int) < 6:=by omega
        obtain ⟨ip,hip,hip0,hip1,hip2⟩:=info_parts Tryz.info118
        have own1:Hid (OwnRow (Y.alloc (.cells #[.pointer (some ⟨p,0,none⟩)] 118)) 118 1 gp np cp):=HP1.out.own.alloc _
        go_wp2_with (at_builtin;refine wpList_app _ rfl (.tmp 57) (.tmp 59) 78 rfl 118 ip (.pointer none) 1 8 Tryz.underlying78 hip hip0 hip1 hip2 rfl gp np cp (by rfl) own1.out ⟨Y.heap.size,0,none⟩ 1 1 [.pointer (some ⟨p,0,none⟩)] rfl rfl ?c1 ?c2 (by omega) (by omega) (by omega) ?_)
        case c1=>exact World.news_of_block (heap_alloc_new Y _)
        case c2=>intro u hu;simp at hu;subst hu;rfl
        intro g2 c2 w3 Q
        have LA:Hid (LawAt KIs Iv x W _ (n+4) gh gp (w3.setCell ⟨W,0,none⟩ (.slice (some ⟨g2,0,none⟩) (np+1) c2))):=made_end HKS HW1.out HP1.out HPL.out HN.out HFN.out HG1.out HT1.out BZ.out (heap_lt WZ.out.wb) (fun j hj k hk hk2=>by have:=HPS.out.lt j hj k hk;have:=(HN.out k hk2).1;omega) Q (by omega) HI.out (fun k e=>HPS.out.own.lt e)
        have hq0:w3.cell? ⟨W,0,none⟩=some (.slice (gp.map fun g=>⟨g,0,none⟩) np cp):=by
          rw [Q.keep W 0 (by simp;omega) (fun e=>(HP1.out.frg W e.1).1 rfl),World.cell?_alloc_past _ _ _ hWY];exact v0
        have hq1:∀ j,w3.frozen? ⟨W,j,none⟩=false:=fun j=>by
          have h1:=Q.touch.heapAt (o:=.cells #[sl gp np cp,sl gh1 (n+4) cap1,.bool _] 81 (0,0)) (alloc_keep1 HW1.out.wb) (fun e=>(HP1.out.frg W e).1 rfl)
          exact frozen_of_heap h1 j
        clear Q v0 fv
        go_wp2
        go_ret
        exact ⟨rfl,LA.out⟩
    · refine (opened_no KIs HOS Z W (sl gp np cp) _ gh n cap H WZ.out (by omega) k1 k2 k3 l (by omega) hc).mono ?_
      rintro e Y ⟨rfl,hst⟩
      have HL:=hid (LawAt.same HKS PZ.out h6 BZ.out hst)
      clear hst
      go_wp2
      go_ret
      exact ⟨rfl,HL.out⟩
theorem madeOpen_past (KIs:KeeperIs) (Iv:LK→Prop) (HKS:KeepsSaid KIs) (x:World) (W:Nat) (gh:Option Nat) (n cap:Nat) (H:Nat→HG) (gp:Option Nat) (np cp:Nat) (P:Nat→PG) (hw:WI x W (sl gp np cp) true gh n cap H) (hps:PS KIs Iv x W gh n H gp np cp P) (h6:np≤6)
    (o:OpG) (hk:o.kind=3) (hsl:o.s.length≤9000000) (hv:(readD o.s).1.view≠0) :
    Calls Tryz.prog 53 #[.pointer (some ⟨W,0,none⟩),.agg o.cells] x fun e y=>e=.returned (.bool true)∧LawAt KIs Iv x W true n gh gp y:=by
  have HWI:=hid hw
  have HPS:=hid hps
  clear hw hps
  unfold OpG.cells sla
  obtain ⟨okind,on,l,f,fa,fc,k1,k2,k3,oa⟩:=o
  dsimp only at *
  subst hk
  have hvz:(((readD l).1.view:Int) != 0)=true:=by simp [hv]
  have hWl:W < x.heap.size:=heap_lt HWI.out.wb
  go_enter Tryz.func53,Tryz.ntmps53
  go_wp2_with fail
  refine (read_any l _ (by omega)).mono ?_
  rintro e X1 ⟨gm,cm,rfl,hol,hb1⟩
  rw [World.size_alloc] at hb1
  have HX1:Hid (Below x.heap.size x X1):=((Below.refl _ x).alloc (Nat.le_refl _) _).trans (hb1.mono (by omega))
  have HMV:Hid (∀ m:Mm,∀ q,m.val (gm.map fun x=>(⟨x,0,none⟩:Addr)) q=.agg #[.int .i64 m.view,.int .i64 m.last,.slice (gm.map fun x=>⟨x,0,none⟩) m.ls.length q]):=fun m q=>rfl
  rw [HMV.out]
  have WX1:=hid (HWI.out.below HX1.out)
  have w2:=cell_of_heap WX1.out.wb 2
  simp only [List.getElem?_toArray,List.getElem?_cons_zero,List.getElem?_cons_succ] at w2
  have hs1:x.heap.size≤X1.heap.size:=HX1.out.size
  have hW1:W < X1.heap.size:=by omega
  clear hol hb1
  go_wp2
  go_ret
  exact ⟨rfl,LawAt.still HKS HWI.out HPS.out h6 (HX1.out.alloc HX1.out.size _)⟩
def DiskSaid (KIs:KeeperIs):Prop:=∀ (w:World) (K:Nat) (F:Nat→Prop) (s:LK) (keep:Int),KIs w K F s→s.ok →
  Calls Tryz.prog 28 #[.pointer (some ⟨K,0,none⟩),.int .i64 keep] w fun e w'=>∃ g c,e=.returned (sl g (s.image keep).length c)∧OwnBytes w w' g c (s.image keep)∧Below w.heap.size w w'
theorem madeAgain_none (KIs:KeeperIs) (Iv:LK→Prop) (lead:Bool) (HKS:KeepsSaid KIs) (x:World) (W:Nat) (gh:Option Nat) (n cap:Nat) (H:Nat→HG) (gp:Option Nat) (cp:Nat) (P:Nat→PG) (hw:WI x W (sl gp 0 cp) lead gh n cap H) (hps:PS KIs Iv x W gh n H gp 0 cp P)
    (o:OpG) (hk:o.kind=7) :
    Calls Tryz.prog 53 #[.pointer (some ⟨W,0,none⟩),.agg o.cells] x fun e y=>e=.returned (.bool true)∧LawAt KIs Iv x W lead n gh gp y:=by
  have HWI:=hid hw
  have HPS:=hid hps
  have w0:=cell_of_heap hw.wb 0
  simp only [List.getElem?_toArray,List.getElem?_cons_zero] at w0
  unfold sl at w0
  have hWl:W < x.heap.size:=heap_lt hw.wb
  clear hw hps
  unfold OpG.cells sla
  obtain ⟨okind,on,l,f,fa,fc,k1,k2,k3,oa⟩:=o
  dsimp only at *
  subst hk
  go_enter Tryz.func53,Tryz.ntmps53
  go_wp2
  go_ret
  exact ⟨rfl,LawAt.still HKS HWI.out HPS.out (by omega) ((Below.refl _ _).alloc (Nat.le_refl _) _)⟩
theorem PS.move {KIs:KeeperIs} {Iv:LK→Prop} (HKS:KeepsSaid KIs) {x y:World} {W:Nat} {gh gh':Option Nat} {n n':Nat} {H H':Nat→HG} {gp:Option Nat} {np cp:Nat} {P:Nat→PG} {R:Nat→Prop} (h:PS KIs Iv x W gh n H gp np cp P)
    (ht:Touch (fun k=>k=W∨gh=some k∨R k) x y) (hf:∀ k,k < x.heap.size→Free W gh n H k→¬ R k→Free W gh' n' H' k) (hR:∀ j,j < np→∀ k,(P j).N k→¬ R k) (hg:∀ k,gp=some k→¬ R k):PS KIs Iv y W gh' n' H' gp np cp P:=by
  have no:∀ k,Free W gh n H k→¬ R k→¬ (k=W∨gh=some k∨R k):=fun k f r t=>by
    rcases t with t | t | t
    · exact f.1 t
    · exact f.2.1 t
    · exact r t
  refine ⟨h.own.touch ht (fun k e=>no k (h.frg k e) (hg k e)),fun j hj=>?_,fun j hj=>(h.pl j hj).touch HKS ht (fun k hk=>no k (h.fr j hj k hk).1 (hR j hj k hk)),fun j hj k hk=>Nat.lt_of_lt_of_le (h.lt j hj k hk) ht.size,fun j hj k hk=>⟨hf k (h.lt j hj k hk) (h.fr j hj k hk).1 (hR j hj k hk),(h.fr j hj k hk).2⟩,fun k e=>hf k (h.own.lt e) (h.frg k e) (hg k e),h.iv,h.ge,h.ds⟩
  obtain ⟨g,e,c⟩:=h.ptr j hj
  exact ⟨g,e,ht.cell c (no g (h.frg g e) (hg g e))⟩
theorem again_set {KIs:KeeperIs} {Iv:LK→Prop} (HKS:KeepsSaid KIs) {Y Z:World} {W n np cp cap1 p i gP:Nat} {gh1:Option Nat} {H1:Nat→HG} {P:Nat→PG} {N:Nat→Prop} {lead:Bool} {sn:LK}
    (hw:WI Y W (sl (some gP) np cp) lead gh1 n cap1 H1) (hp:PS KIs Iv Y W gh1 n H1 (some gP) np cp P) (hi:i < np) (hpl:Player KIs Y p N sn) (hN:∀ k,N k→k < Y.heap.size∧Free W gh1 n H1 k∧(some gP:Option Nat)≠some k) (hNW:∀ k,N k→W≤k) (hNo:∀ j,j < np→∀ k,(P j).N k→¬ N k) (hiv:Iv sn) (hZ:Z=Y.setCell ⟨gP,i,none⟩ (.pointer (some ⟨p,0,none⟩))) :
    WI Z W (sl (some gP) np cp) lead gh1 n cap1 H1∧PS KIs Iv Z W gh1 n H1 (some gP) np cp (fun j=>if j=i then ⟨p,N,sn⟩ else P j):=by
  have t:Touch (fun k=>(some gP:Option Nat)=some k) Y Z:=by rw [hZ];exact (Touch.refl (fun k=>(some gP:Option Nat)=some k) Y).setCell (p:=⟨gP,i,none⟩) (fun _=>rfl) _
  refine ⟨hw.touchFree t hp.frg,?_⟩
  refine ⟨?_,fun j hj=>⟨gP,rfl,?_⟩,fun j hj=>?_,fun j hj k hk=>?_,fun j hj k hk=>?_,hp.frg,fun j hj=>?_,fun j hj k hk=>?_,fun a b ha hb hab k hk hk2=>?_⟩
  · rcases hp.own with ⟨h,_⟩ | ⟨g',cur,h,hh,q1,q2⟩
    · cases h
    · cases h
      rw [hZ]
      exact .inr ⟨gP,_,rfl,heap_setCell hh i _,by simpa using q1,q2⟩
  · by_cases e:j=i
    · subst e
      rw [if_pos rfl,hZ]
      rcases hp.own with ⟨h,_⟩ | ⟨g',cur,h,hh,q1,q2,_⟩
      · cases h
      · cases h
        rw [cell_of_heap (heap_setCell hh j _)]
        rw [Array.getElem?_setIfInBounds_self_of_lt (by omega)]
    · rw [if_neg e,hZ]
      obtain ⟨g',e1,c⟩:=hp.ptr j hj
      cases e1
      rw [cell_set_ne _ (.inr (fun h=>e h.symm))];exact c
  · by_cases e:j=i
    · subst e;simp only [if_true];exact hpl.touch HKS t (fun k hk e=>(hN k hk).2.2 e)
    · simp only [if_neg e];exact (hp.pl j hj).touch HKS t (fun k hk e=>(hp.fr j hj k hk).2 e)
  · by_cases e:j=i
    · subst e;simp only [if_true] at hk;have:=(hN k hk).1;have:=t.size;omega
    · simp only [if_neg e] at hk;have:=hp.lt j hj k hk;have:=t.size;omega
  · by_cases e:j=i
    · subst e;simp only [if_true] at hk;exact ⟨(hN k hk).2.1,(hN k hk).2.2⟩
    · simp only [if_neg e] at hk;exact hp.fr j hj k hk
  · by_cases e:j=i
    · subst e;simp only [if_true];exact hiv
    · simp only [if_neg e];exact hp.iv j hj
  · by_cases e:j=i
    · simp only [if_pos e] at hk;exact hNW k hk
    · simp only [if_neg e] at hk;exact hp.ge j hj k hk
  · by_cases ea:a=i
    · by_cases eb:b=i
      · omega
      · simp only [if_pos ea] at hk;simp only [if_neg eb] at hk2
        exact hNo b hb k hk2 hk
    · by_cases eb:b=i
      · simp only [if_neg ea] at hk;simp only [if_pos eb] at hk2
        exact hNo a ha k hk hk2
      · simp only [if_neg ea] at hk;simp only [if_neg eb] at hk2
        exact hp.ds a b ha hb hab k hk hk2
theorem madeAgain_some (KIs:KeeperIs) (Iv:LK→Prop) (lead:Bool) (HOS:OpenSaid KIs) (HKS:KeepsSaid KIs) (HDS:DiskSaid KIs) (HIK:∀ s,Iv s→s.ok) (HIV:∀ s keep,Iv s→Iv (LK.opened s.kp s.me s.pa ((s.image keep).take (readD (s.image keep)).2) (readD (s.image keep)).1)) (x:World) (W:Nat) (gh:Option Nat) (n cap:Nat) (H:Nat→HG) (gp:Option Nat) (np cp:Nat) (P:Nat→PG) (hw:WI x W (sl gp np cp) lead gh n cap H) (hps:PS KIs Iv x W gh n H gp np cp P) (h0:0 < np) (h6:np≤6) (hn:n≤95000000)
    (o:OpG) (hk:o.kind=7) (hr:-9223372036854775808≤o.n∧o.n≤9223372036854775807) :
    Calls Tryz.prog 53 #[.pointer (some ⟨W,0,none⟩),.agg o.cells] x fun e y=>e=.returned (.bool true)∧LawAt KIs Iv x W lead (n+8) gh gp y:=by
  have HWI:=hid hw
  have HPS:=hid hps
  have w0:=cell_of_heap hw.wb 0
  simp only [List.getElem?_toArray,List.getElem?_cons_zero] at w0
  unfold sl at w0
  have hWl:W < x.heap.size:=heap_lt hw.wb
  clear hw hps
  unfold OpG.cells sla
  obtain ⟨okind,on,l,f,fa,fc,k1,k2,k3,oa⟩:=o
  dsimp only at *
  subst hk
  have hz:((np:Int) == 0)=false:=beq_eq_false_iff_ne.2 (by omega)
  go_enter Tryz.func53,Tryz.ntmps53
  go_wp2
  generalize hY:x.alloc (.cells #[.int .i64 7,.int .i64 on,.string ⟨l.toArray⟩,.int .i64 f.kind,.int .i64 f.frm,.int .i64 f.view,.int .i64 f.place,.int .i64 f.agreed,.int .i64 f.last,.int .i64 f.line.c,.int .i64 f.line.t,.string ⟨f.line.s.toArray⟩,.slice fa f.lines.length fc,.int .i64 k1,.int .i64 k2,.int .i64 k3,.int .i64 oa] 76)=Y
  have y1:Y.cell? ⟨x.heap.size,1,none⟩=some (.int .i64 on):=by rw [← hY];exact World.cell?_alloc_new _ _ _ _
  have y16:Y.cell? ⟨x.heap.size,16,none⟩=some (.int .i64 oa):=by rw [← hY];exact World.cell?_alloc_new _ _ _ _
  have BY:Hid (Below x.heap.size x Y):=by show Below _ _ _;rw [← hY];exact (Below.refl _ _).alloc (Nat.le_refl _) _
  have hxl:x.heap.size < Y.heap.size:=by rw [← hY];simp
  have WY:=hid (HWI.out.below BY.out)
  have PY:=hid (HPS.out.below HKS BY.out)
  clear hY w0
  have v0:=cell_of_heap WY.out.wb 0
  simp only [List.getElem?_toArray,List.getElem?_cons_zero] at v0
  unfold sl at v0
  go_still_tail 7,(by kernel_rfl)
  go_wp2_with fail
  refine (pick_any on np _ h0 (by omega) hr).mono ?_
  rintro e w1 ⟨rfl,hw1⟩
  rw [hw1]
  clear hw1 w1
  have hi:=pickN_lt on h0
  generalize pickN on np=i at hi ⊢
  obtain ⟨Y2,hY2⟩:∃ Y2:World,Y2=Y.drew:=⟨_,rfl⟩
  have bY2:Below Y.heap.size Y Y2:=by rw [hY2];exact (Below.refl _ _).drew
  have hs2:Y2.heap.size=Y.heap.size:=by rw [hY2];rfl
  have z16:Y2.cell? ⟨x.heap.size,16,none⟩=some (.int .i64 oa):=by rw [hY2];exact y16
  have z0:Y2.cell? ⟨W,0,none⟩=some (.slice (gp.map fun g=>⟨g,0,none⟩) np cp):=by rw [hY2];exact v0
  rw [← hY2]
  have W2:=hid (WY.out.below bY2)
  have P2:=hid (PY.out.below HKS bY2)
  have B2:=hid (BY.out.trans (bY2.mono BY.out.size))
  clear hY2 bY2 y1 y16 v0 WY PY BY
  obtain ⟨gP,hgP,cP⟩:=P2.out.ptr i hi
  obtain ⟨K,F,Kr,G,q1,q2,q3,q5⟩:=P2.out.pl i hi
  have hiv:=P2.out.iv i hi
  have p0:=cell_of_heap q1 0
  have p1:=cell_of_heap q1 1
  simp only [List.getElem?_toArray,List.getElem?_cons_zero,List.getElem?_cons_succ] at p0 p1
  generalize hPi:P i=pi at *
  obtain ⟨pp,pN,ps⟩:=pi
  dsimp only at *
  subst hgP
  have i0:(0:Int)≤(i:Int):=by omega
  have i1:(i:Int) < (np:Int):=by omega
  simp only [Option.map_some] at z0 ⊢
  go_wp2
  go_still_tail 6,(by kernel_rfl)
  go_wp2_with fail
  have hok:=HIK ps hiv
  have HNI:=hid (HIV ps oa hiv)
  have hcf:ConfOk ps.kp ps.me ps.pa:=hok.2.1
  have hdl:(ps.image oa).length≤9900000:=Nat.le_trans (LK.image_len ps oa) hok.1
  refine (HDS Y2.drew K F ps oa (HKS _ _ _ _ _ _ q2 ((Touch.refl (fun _=>False) Y2).drew) (fun _ _ h=>h)) hok).mono ?_
  generalize hpd:ps.image oa=pd at *
  have hokl:=hok.1
  clear hok
  rintro e Y3 ⟨gb,cb,rfl,hob,hb3⟩
  have b23:Below Y2.heap.size Y2 Y3:=(Below.refl _ Y2).drew.trans hb3
  have W3:=hid (W2.out.below b23)
  have P3:=hid (P2.out.below HKS b23)
  have B3:=hid (B2.out.trans (b23.mono B2.out.size))
  have HOB:=hid hob
  have hsz:Y2.heap.size≤Y3.heap.size:=b23.size
  have Q1:=hid ((b23.block _ (heap_lt q1)).trans q1)
  have Q3:=hid (q3.below b23)
  have z16':Y3.cell? ⟨x.heap.size,16,none⟩=some (.int .i64 oa):=(b23.cell (World.block_lt_of_cell? _ _ z16)).trans z16
  have HGB:Hid (∀ k,gb=some k→Y2.heap.size≤k):=hob.new
  clear hob hb3 b23 p0 p1 z0 z16 cP q1 q2 q3 q5
  have p0:=cell_of_heap Q1.out 0
  have p1:=cell_of_heap Q1.out 1
  simp only [List.getElem?_toArray,List.getElem?_cons_zero,List.getElem?_cons_succ] at p0 p1
  unfold sl
  go_wp2
  go_still_tail 6,(by kernel_rfl)
  go_wp2_with fail
  refine (refImage_any Kr G ps _ oa (Q3.out.below ((Below.refl _ _).drew)) hokl).mono ?_
  rw [hpd]
  rintro e Y4 ⟨rfl,hb4⟩
  have b34:Below Y3.heap.size Y3 Y4:=(Below.refl _ Y3).drew.trans hb4
  have hs4:Y3.heap.size≤Y4.heap.size:=b34.size
  clear hb4
  have W4:=hid (W3.out.below b34)
  have P4:=hid (P3.out.below HKS b34)
  have B4:=hid (B3.out.trans (b34.mono B3.out.size))
  have HOB4:=hid (HOB.out.below b34)
  have Q14:=hid ((b34.block _ (heap_lt Q1.out)).trans Q1.out)
  have Q34:=hid (Q3.out.below b34)
  clear b34 p0 p1 z16'
  have p1:=cell_of_heap Q14.out 1
  simp only [List.getElem?_toArray,List.getElem?_cons_zero,List.getElem?_cons_succ] at p1
  obtain ⟨r0,r1,r2⟩:=Q34.out.conf
  have hcv:=conv_bytes gb cb pd Y4 HOB4.out.at_
  go_wp2_with fail
  refine (opened_yes KIs HOS HKS Y4 W (sl (some gP) np cp) lead gh n cap H W4.out (by omega) ps.kp ps.me ps.pa pd hdl hcf).mono ?_
  rintro e Y5 ⟨p',N',rfl,hpl,hN,hst⟩
  obtain ⟨⟨gh1,cap1,H1,W1,g1,f1,fN⟩,t1⟩:=hst
  have HGX:Hid (∀ k,gh=some k→k < x.heap.size):=fun k e=>HWI.out.ow.lt e
  have HPX:Hid (∀ k,(some gP:Option Nat)=some k→k < x.heap.size):=fun k e=>HPS.out.own.lt e
  have hx2:x.heap.size≤Y2.heap.size:=B2.out.size
  have h45:Y4.heap.size≤Y5.heap.size:=t1.size
  have HGBlt:Hid (∀ k,gb=some k→k < Y4.heap.size):=fun k e=>HOB4.out.own.lt e
  have RB5:Hid (OwnRow Y5 5 1 gb pd.length cb):=HOB4.out.own.touch t1 (fun k e t=>by
    have:=HGB.out k e
    rcases t with t | t
    · omega
    · have:=HGX.out k t;omega)
  have FB5:Hid (∀ k,gb=some k→Free W gh1 (n+4) H1 k):=fun k e=>f1 k (HGBlt.out k e) (HWI.out.free_new (by have:=HGB.out k e;omega))
  have P5:=hid (P4.out.stays HKS t1 f1)
  have HW1:=hid W1
  have HPL:=hid hpl
  have HN:=hid hN
  have HFN:=hid fN
  have HG1:=hid g1
  have HT1:=hid t1
  have v0:=cell_of_heap W1.wb 0
  simp only [List.getElem?_toArray,List.getElem?_cons_zero] at v0
  unfold sl at v0
  simp only [Option.map_some] at v0
  obtain ⟨gP',hgP',cP⟩:=P5.out.ptr i hi
  cases hgP'
  have fP:∀ j,Y5.frozen? ⟨gP,j,none⟩=false:=fun j=>by
    rcases P5.out.own with ⟨h,_⟩ | ⟨g',cur,h,hh,_⟩
    · cases h
    · cases h;exact frozen_of_heap hh j
  rw [hPi] at cP
  clear W1 g1 f1 fN t1 hpl hN r0 r1 r2 p1 hcv
  dsimp only at cP
  obtain ⟨Y6,hY6⟩:∃ Y6:World,Y6=Y5.setCell ⟨gP,i,none⟩ (.pointer (some ⟨p',0,none⟩)):=⟨_,rfl⟩
  have A6:=hid (again_set HKS HW1.out P5.out hi HPL.out (fun k e=>⟨(HN.out k e).2,HFN.out k e,fun e2=>by have:=HPX.out k e2;have:=(HN.out k e).1;omega⟩) (fun k e=>by have:=(HN.out k e).1;omega) (fun j hj k hk hk2=>by have:=HPS.out.lt j hj k hk;have:=(HN.out k hk2).1;omega) HNI.out hY6)
  have T6:Hid (Touch (fun k=>(some gP:Option Nat)=some k) Y5 Y6):=by show Touch _ _ _;rw [hY6];exact (Touch.refl (fun k=>(some gP:Option Nat)=some k) Y5).setCell (p:=⟨gP,i,none⟩) (fun _=>rfl) _
  have RB6:Hid (OwnRow Y6 5 1 gb pd.length cb):=RB5.out.touch T6.out (fun k e t=>by have:=HGB.out k e;have:=HPX.out k t;omega)
  have HY6:=hid hY6
  have h56:Y5.heap.size≤Y6.heap.size:=T6.out.size
  clear hY6
  have hsz6:Y6.heap.size=Y5.heap.size:=by rw [HY6.out];exact size_setCell _ _ _
  have HNB:Hid (∀ k,gb=some k→Y2.heap.size≤k∧k < Y4.heap.size):=fun k e=>⟨HGB.out k e,HGBlt.out k e⟩
  have HNO:Hid (∀ j,j < np→∀ k,((fun j=>if j=i then (⟨p',N',LK.opened ps.kp ps.me ps.pa (pd.take (readD pd).2) (readD pd).1⟩:PG) else P j) j).N k→¬ gb=some k):=fun j hj k hk e=>by
    have h1:=HNB.out k e
    by_cases ej:j=i
    · simp only [if_pos ej] at hk;have:=(HN.out k hk).1;omega
    · simp only [if_neg ej] at hk;have:=HPS.out.lt j hj k hk;omega
  go_wp2_with fail
  rw [← HY6.out,← hsz6]
  refine (keep_hold Y6 W (sl (some gP) np cp) lead gh1 (n+4) cap1 H1 A6.out.1 gb none none pd.length cb 0 0 0 0 RB6.out (.inl ⟨rfl,rfl,rfl⟩) (.inl ⟨rfl,rfl,rfl⟩) (fun g _ e=>by cases e) (fun g _ e=>by cases e) (fun g e=>by cases e)
    (fun k' e=>FB5.out k' (by rcases e with e | e | e;exact e;cases e;cases e)) (by omega) (by omega) (by omega) (by omega)).mono ?_
  rintro e Y7 ⟨rfl,K1⟩
  obtain ⟨⟨gh2,cap2,H2,W7,gg2,f2⟩,t2⟩:=K1
  have nR:∀ k,¬ gb=some k→¬ (gb=some k∨(none:Option Nat)=some k∨(none:Option Nat)=some k):=fun k h t=>by
    rcases t with t | t | t
    · exact h t
    · cases t
    · cases t
  have LA:Hid (LawAt KIs Iv x W lead (n+8) gh (some gP) Y7):=by
    refine ⟨⟨gh2,cap2,H2,some gP,np,cp,_,W7,A6.out.2.move HKS t2 f2 (fun j hj k hk=>nR k (HNO.out j hj k hk)) (fun k e=>nR k (fun e2=>by have:=HPX.out k e;have:=(HNB.out k e2).1;omega)),h6,fun k e=>?_,fun k e=>.inl e⟩,?_⟩
    · rcases gg2 k e with e | e
      · rcases HG1.out k e with e | e
        · exact .inl e
        · exact .inr (by omega)
      · exact .inr (by omega)
    · refine (((Touch.of_belowAll B4.out _).trans HT1.out (fun k hk e=>?_)).trans T6.out (fun k hk e=>.inr (.inr e))).trans t2 (fun k hk e=>?_)
      · rcases e with e | e
        · exact .inl (Nat.le_of_eq e.symm)
        · exact .inr (.inl e)
      · rcases e with e | e | e | e | e
        · exact .inl (Nat.le_of_eq e.symm)
        · rcases HG1.out k e with e | e
          · exact .inr (.inl e)
          · omega
        · have:=(HNB.out k e).1;omega
        · cases e
        · cases e
  clear W7 gg2 f2 t2 nR
  go_wp2
  go_ret
  exact ⟨rfl,LA.out⟩
def StateSaid (KIs:KeeperIs):Prop:=∀ (w:World) (K:Nat) (F:Nat→Prop) (s:LK),KIs w K F s→s.ok →
  Calls Tryz.prog 26 #[.pointer (some ⟨K,0,none⟩)] w fun e w'=>e=.returned s.stateV∧Below w.heap.size w w'
def AgreedSaid (KIs:KeeperIs):Prop:=∀ (w:World) (K:Nat) (F:Nat→Prop) (s:LK),KIs w K F s→s.ok →
  Calls Tryz.prog 24 #[.pointer (some ⟨K,0,none⟩)] w fun e w'=>∃ g c,e=.returned (sl g (s.mv.ls.take s.av).length c)∧OwnLines w w' g c (s.mv.ls.take s.av)∧Below w.heap.size w w'
theorem LawAt.box {KIs:KeeperIs} {Iv:LK→Prop} {x y:World} {W:Nat} {lead:Bool} {gh gp:Option Nat} {n:Nat} {o:Obj} (h:LawAt KIs Iv (x.alloc o) W lead n gh gp y):LawAt KIs Iv x W lead n gh gp y:=by
  obtain ⟨⟨gh',cap',H',gp',np,cp,P,a,b,c,d,e⟩,t⟩:=h
  refine ⟨⟨gh',cap',H',gp',np,cp,P,a,b,c,fun k hk=>?_,fun k hk=>?_⟩,((Touch.refl _ x).alloc o).trans t (fun _ _ e=>e)⟩
  · rcases d k hk with d | d
    · exact .inl d
    · rw [World.size_alloc] at d;exact .inr (by omega)
  · rcases e k hk with d | d
    · exact .inl d
    · rw [World.size_alloc] at d;exact .inr (by omega)
theorem stepMade (KIs:KeeperIs) (Iv:LK→Prop) (lead:Bool) (m:Nat) (x:World) (W:Nat) (gh gp:Option Nat) (n:Nat) (o:OpG) (hk:o.kind=3∨o.kind=7)
    (HM:Calls Tryz.prog 53 #[.pointer (some ⟨W,0,none⟩),.agg o.cells] (x.alloc (.cells o.cells 76)) fun e y=>e=.returned (.bool true)∧LawAt KIs Iv (x.alloc (.cells o.cells 76)) W lead m gh gp y) :
    Calls Tryz.prog 30 #[.pointer (some ⟨W,0,none⟩),.agg o.cells] x fun e y=>e=.returned (.bool true)∧LawAt KIs Iv x W lead m gh gp y:=by
  have HM:=hid HM
  unfold OpG.cells sla at *
  obtain ⟨okind,on,l,f,fa,fc,c1,c2,c3,oa⟩:=o
  dsimp only at *
  rcases hk with rfl | rfl
  all_goals
    go_enter Tryz.func30,Tryz.ntmps30
    go_wp2_with fail
    refine HM.out.mono ?_
    rintro e y ⟨rfl,hs⟩
    go_wp2
    go_ret
    exact ⟨rfl,hs.box⟩
theorem stepNone (KIs:KeeperIs) (Iv:LK→Prop) (lead:Bool) (HKS:KeepsSaid KIs) (x:World) (W:Nat) (gh:Option Nat) (n cap:Nat) (H:Nat→HG) (gp:Option Nat) (cp:Nat) (P:Nat→PG) (hw:WI x W (sl gp 0 cp) lead gh n cap H) (hps:PS KIs Iv x W gh n H gp 0 cp P)
    (o:OpG) (hk:3 < o.kind) (hk7:o.kind≠7) :
    Calls Tryz.prog 30 #[.pointer (some ⟨W,0,none⟩),.agg o.cells] x fun e y=>e=.returned (.bool true)∧LawAt KIs Iv x W lead n gh gp y:=by
  have HWI:=hid hw
  have HPS:=hid hps
  have w0:=cell_of_heap hw.wb 0
  simp only [List.getElem?_toArray,List.getElem?_cons_zero] at w0
  unfold sl at w0
  have hWl:W < x.heap.size:=heap_lt hw.wb
  clear hw hps
  unfold OpG.cells sla
  obtain ⟨okind,on,l,f,fa,fc,k1,k2,k3,oa⟩:=o
  dsimp only at *
  have n1:(okind == 1)=false:=beq_eq_false_iff_ne.2 (by omega)
  have n2:(okind == 2)=false:=beq_eq_false_iff_ne.2 (by omega)
  have n3:(okind == 3)=false:=beq_eq_false_iff_ne.2 (by omega)
  have n7:(okind == 7)=false:=beq_eq_false_iff_ne.2 (by omega)
  go_enter Tryz.func30,Tryz.ntmps30
  go_wp2
  go_ret
  exact ⟨rfl,LawAt.still HKS HWI.out HPS.out (by omega) ((Below.refl _ _).alloc (Nat.le_refl _) _)⟩
def OpsAt (w:World) (a:Option Addr) (ops:List OpG):Prop :=
  ∀ j (h:j < ops.length),∃ g o,a=some ⟨g,o,none⟩∧(∀ r,r < 17→w.cell? ⟨g,o+j * 17+r,none⟩=ops[j].cells[r]?)∧LinesAt w ops[j].fa ops[j].f.lines
def OpG.small (o:OpG):Prop:=o.s.length≤9000000∧o.f.lines.length≤10000000∧o.f.lines.length≤o.fc
def OpG.ranged (o:OpG):Prop:=(-9223372036854775808≤o.n∧o.n≤9223372036854775807)∧o.a≤9223372036854775807
theorem OpsAt.below {w w':World} {a:Option Addr} {ops:List OpG} (h:OpsAt w a ops) (hb:Below w.heap.size w w'):OpsAt w' a ops:=fun j hj=>by
  obtain ⟨g,o,e,hc,hl⟩:=h j hj
  refine ⟨g,o,e,fun r hr=>?_,hl.below hb⟩
  have h0:=hc r hr
  have:ops[j].cells[r]?=some (ops[j].cells[r]'(by show r < 17;exact hr)):=Array.getElem?_eq_getElem _
  rw [this] at h0 ⊢
  exact (hb.cell (World.block_lt_of_cell? _ _ h0)).trans h0
theorem WI.start (w:World) (lead:Bool) (H:Nat→HG):WI (w.alloc (.cells #[.slice none 0 0,.slice none 0 0,.bool lead] 81)) w.heap.size (.slice none 0 0) lead none 0 0 H :=
  ⟨heap_alloc_new w _,.inl ⟨rfl,rfl,rfl⟩,(fun e=>by cases e),fun j hj=>absurd hj (by omega),fun j hj=>absurd hj (by omega),fun j hj=>absurd hj (by omega),fun j hj=>absurd hj (by omega)⟩
def HG.dull:HG:=⟨0,none,0,0,none,0,0,none,0,0,fun _=>0,0⟩
end
end Go.Proofs.YtolififimldmlaaGreat
